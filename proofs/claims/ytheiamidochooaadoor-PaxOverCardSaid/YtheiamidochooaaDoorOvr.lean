/- PaxOver's closure. -/
import Derived.Test.YtheiamidochooaaDoorApt
namespace Go.Proofs.YtheiamidochooaaDoor
open Go.RowKit Go.Joins
set_option linter.unusedVariables false

set_option maxHeartbeats 1000000 in
theorem key_is (kb : Nat) (K : List UInt8) (p : Pr) (w : World) (hlt : kb < w.heap.size) (hc : w.cell? ⟨kb, 0, none⟩ = some (.string (mkS K))) :
    Calls Tryd.prog 37 #[.agg #[.string (mkS p.1), .string (mkS p.2)], .pointer (some ⟨kb, 0, none⟩)] w fun e w' => e = .returned (.bool (p.1 == K)) ∧ Below w.heap.size w w' := by
  have hb := below_alloc1 w (.cells #[.string (mkS p.1), .string (mkS p.2)] 36)
  have hc2 := (hb.cell (p := ⟨kb, 0, none⟩) hlt).trans hc
  have E := mkS_beq p.1 K
  go_enter Tryd.func37, Tryd.ntmps37
  go_wp2
  go_ret
  exact ⟨by first | rfl | simp [mkS_beq], hb⟩
end Go.Proofs.YtheiamidochooaaDoor
