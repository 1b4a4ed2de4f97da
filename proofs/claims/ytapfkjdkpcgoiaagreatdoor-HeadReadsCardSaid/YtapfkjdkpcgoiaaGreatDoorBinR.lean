/- The reference's Binary, one, char: what each returns. -/
import Derived.Test.YtapfkjdkpcgoiaaGreatDoorPlain
import Derived.Test.YtapfkjdkpcgoiaaGreatDoorLow
import Derived.Test.YtapfkjdkpcgoiaaGreatDoorBin
namespace Go.Proofs.YtapfkjdkpcgoiaaGreatDoor
open Go.RowKit

/-- the string after k rounds, one byte more. -/
theorem cat_run (x y : List Int) (w : World) (h : x.length + y.length ≤ 1000000) : (Op.stringOp .add (strOfNums x) (strOfNums y)).run Tryz.prog w = .ok (.string (strOfNums (x ++ y))) w := by
  rw [run_string_add_sum _ _ _ (by rw [strOfNums_size, strOfNums_size]; omega), strOfNums_append]

theorem ipw255 : ipw 2 55 = 36028797018963968 := by unfold ipw; decide +kernel

theorem refStep (n : Int) (k : Nat) (hk : k < 8) : [uwn n k % 256] ++ beB n k = beB n (k + 1) := by
  rw [uwn_shn n k hk]; rfl
theorem refStepB (n : Int) (h1 : -9223372036854775808 ≤ n) (h2 : n ≤ 9223372036854775807) (k : Nat) (hk : 8 ≤ k) (x : Int) (hx : x = if n < 0 then 255 else 0) : [x] ++ beB n k = beB n (k + 1) := by
  show [x] ++ beB n k = (shn n k % 256 :: beB n k)
  rw [shn_big n h1 h2 k hk, hx]
  split <;> rfl

end Go.Proofs.YtapfkjdkpcgoiaaGreatDoor
