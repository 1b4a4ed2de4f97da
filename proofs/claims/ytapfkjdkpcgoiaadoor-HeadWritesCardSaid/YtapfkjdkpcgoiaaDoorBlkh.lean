/- block.Seal, Sum and Right at lists of bytes. -/
import Derived.Test.YtapfkjdkpcgoiaaDoorMk
import Derived.Test.YtapfkjdkpcgoiaaDoorPlainS
import Derived.Test.YtapfkjdkpcgoiaaDoorRight
namespace Go.Proofs.YtapfkjdkpcgoiaaDoor
open Go.RowKit
set_option linter.unusedVariables false
set_option linter.unusedSimpArgs false

theorem fieldS_list (s : ByteArray) : (fieldS s).data.toList = fieldL s.data.toList := by
  unfold fieldS fieldL; rw [Lib.extract_data]
theorem rightP_iff (s : ByteArray) : rightP s ↔ rightL s.data.toList := by
  unfold rightP rightL readS sumH
  rw [fieldS_list]
  constructor
  · rintro ⟨h1, h2⟩; exact ⟨by simpa using h1, h2⟩
  · rintro ⟨h1, h2⟩; exact ⟨by simpa using h1, h2⟩
theorem sealB_mk (s : ByteArray) : sealB s = mkS (sealL s.data.toList) := rfl
theorem sealB_mkS (l : List UInt8) : sealB (mkS l) = mkS (sealL l) := by rw [sealB_mk, mkS_list]

theorem seal_mkS (l : List UInt8) (h : l.length = 512) (w : World) :
    Calls Tryd.prog 34 #[.string (mkS l)] w fun e w' => e = .returned (.tuple #[.string (mkS (sealL l)), .nilIface]) ∧ Below w.heap.size w w' := by
  have := seal_ok (mkS l) w (by rw [mkS_size, h])
  rwa [sealB_mkS] at this
theorem sum_mkS (l : List UInt8) (sg : Bool) (h : l.length = 512) (w : World) :
    Calls Tryd.prog 39 #[.string (mkS l), .bool sg] w fun e w' => e = .returned (.tuple #[.int .i64 (sumC sg l 512), .nilIface]) ∧ w' = w := by
  have := sum_ok (mkS l) sg w (by rw [mkS_size, h])
  rwa [show sumH sg (mkS l) = sumC sg l 512 by unfold sumH; rw [mkS_list]] at this
theorem right_mkS (l : List UInt8) (b : Bool) (hb : b = true ↔ rightL l) (hl : l.length = 512) (w : World) :
    Calls Tryd.prog 16 #[.string (mkS l)] w fun e w' => e = .returned (.bool b) ∧ Below w.heap.size w w' := by
  have hi : rightP (mkS l) ↔ rightL l := by rw [rightP_iff, mkS_list]
  cases b with
  | true => exact right_yes _ w (hi.2 (hb.1 rfl))
  | false => exact right_no _ w (by rw [mkS_size]; omega) (fun h => by have := hb.2 (hi.1 h); cases this)
end Go.Proofs.YtapfkjdkpcgoiaaDoor
