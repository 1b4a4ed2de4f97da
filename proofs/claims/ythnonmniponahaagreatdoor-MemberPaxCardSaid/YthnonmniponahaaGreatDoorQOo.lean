/- Oo: what the texts of the name hold, joined. -/
import Derived.Test.YthnonmniponahaaGreatDoorQBa
section
/- The reference's one. -/
namespace Go.Proofs.YthnonmniponahaaGreatDoor
open Go.RowKit Go.Joins

theorem one_any (b : Bool) (w : World) :
    Calls Tryz.prog 125 #[.bool b] w fun e w' => e = .returned (.int .i64 (if b then 1 else 0)) ∧ w' = w := by
  cases b
  · go_enter Tryz.func125, Tryz.ntmps125
    go_wp2
    go_ret
    exact ⟨rfl, rfl⟩
  · go_enter Tryz.func125, Tryz.ntmps125
    go_wp2
    go_ret
    exact ⟨rfl, rfl⟩
end Go.Proofs.YthnonmniponahaaGreatDoor
end
