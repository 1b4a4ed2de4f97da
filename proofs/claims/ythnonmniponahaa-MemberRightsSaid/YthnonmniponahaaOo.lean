/- Oo: what the texts of the name hold, joined. -/
import Derived.Test.YthnonmniponahaaBa
section
/- The reference's one. -/
namespace Go.Proofs.Ythnonmniponahaa
open Go.RowKit Go.Joins

theorem one_any (b : Bool) (w : World) :
    Calls Try.prog 15 #[.bool b] w fun e w' => e = .returned (.int .i64 (if b then 1 else 0)) ∧ w' = w := by
  cases b
  · go_enter Try.func15, Try.ntmps15
    go_wp2
    go_ret
    exact ⟨rfl, rfl⟩
  · go_enter Try.func15, Try.ntmps15
    go_wp2
    go_ret
    exact ⟨rfl, rfl⟩
end Go.Proofs.Ythnonmniponahaa
end
