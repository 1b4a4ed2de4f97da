/- number.Binary and the reference's Binary: what each returns. -/
import Derived.Test.YtapfkjdkpcgoiaaGreatDoorPlain
import Derived.Test.YtapfkjdkpcgoiaaGreatDoorProg
import Derived.WalkKit
import Derived.ProofKit
import Derived.LoopTactic
import Derived.Lib.Hide
import Derived.Handy
import Derived.Outline
namespace Go.Proofs.YtapfkjdkpcgoiaaGreatDoor
open Go.RowKit

theorem Tryz.infoU8 : (Tryz.prog.info? 5).map (fun i => (i.zero, i.size, i.bytes)) = some (some (.int .u8 0), 1, 1) := by kernel_rfl

theorem ret2_eq {a b : Value} (h : a = b) : Ending.returned (.tuple #[a, .nilIface]) = Ending.returned (.tuple #[b, .nilIface]) := by rw [h]

theorem ints_set (xs : List Int) (j : Nat) (x : Int) : (xs.map (Value.int .u8)).set j (.int .u8 x) = (xs.set j x).map (Value.int .u8) := by rw [List.map_set]

end Go.Proofs.YtapfkjdkpcgoiaaGreatDoor
