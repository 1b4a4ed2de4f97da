/- The reference's Split; the law PathHalves' walk. -/
import Derived.Test.YtapfkjdkpcgoiaaDoorHalf
import Derived.SizedLaws
namespace Go.Proofs.YtapfkjdkpcgoiaaDoor
open Go.RowKit Go.Joins
set_option linter.unusedVariables false

theorem within_any (n a b : Int) (w : World) : Calls Tryd.prog 20 #[.int .i64 n, .int .i64 a, .int .i64 b] w fun e w' => e = .returned (.bool (decide (a ≤ n ∧ n ≤ b))) ∧ w = w' := by
  by_cases h1 : a ≤ n <;> by_cases h2 : n ≤ b
  all_goals
    go_enter Tryd.func20, Tryd.ntmps20
    go_wp2
    go_ret
    exact ⟨by simp [h1, h2], rfl⟩

end Go.Proofs.YtapfkjdkpcgoiaaDoor
