/- Oo: what the texts of the name hold, joined. -/
import Derived.Test.YtnjcefmmdghbmaaBa
set_option linter.unusedSimpArgs false
set_option linter.unusedVariables false
section
/- The reference's one. -/
namespace Go.Proofs.Ytnjcefmmdghbmaa
open Go.RowKit Go.Joins

theorem one_any (b : Bool) (w : World) :
    Calls Try.prog 10 #[.bool b] w fun e w' => e = .returned (.int .i64 (if b then 1 else 0)) ∧ w' = w := by
  cases b
  · go_enter Try.func10, Try.ntmps10
    go_wp2
    go_ret
    exact ⟨rfl, rfl⟩
  · go_enter Try.func10, Try.ntmps10
    go_wp2
    go_ret
    exact ⟨rfl, rfl⟩
end Go.Proofs.Ytnjcefmmdghbmaa
end
