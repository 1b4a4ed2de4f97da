/- The law's rawOf. -/
import Derived.Test.YtapfkjdkpcgoiaaDoorRat
namespace Go.Proofs.YtapfkjdkpcgoiaaDoor
open Go.RowKit Go.Joins
set_option linter.unusedVariables false
set_option linter.unusedSimpArgs false

theorem rawOf_any (r : RawL) (w : World) :
    Calls Tryd.prog 11 #[rawV r] w fun e w' => e = .returned (rawV r) ∧ Below w.heap.size w w' := by
  obtain ⟨a0, a1, a2, a3, a4, a5, a6, a7, a8, a9, a10, a11, a12⟩ := r
  unfold rawV
  simp only
  go_enter Tryd.func11, Tryd.ntmps11
  go_wp2
  refine bodyPost_ret (v := rawV ⟨a0, a1, a2, a3, a4, a5, a6, a7, a8, a9, a10, a11, a12⟩) (by simp [results, Tryd.results11, go_sem]) rfl ?_
  exact ⟨rfl, below_alloc2 _ _ _⟩
end Go.Proofs.YtapfkjdkpcgoiaaDoor
