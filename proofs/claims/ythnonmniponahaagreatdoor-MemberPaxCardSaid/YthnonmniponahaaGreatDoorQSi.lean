/- Si: what the texts of the name hold, joined. -/
import Derived.Test.YthnonmniponahaaGreatDoorQSb
import Derived.Test.YthnonmniponahaaGreatDoorQOo
set_option linter.unusedSimpArgs false
set_option linter.unusedVariables false
section
/- The keep laws' helpers: pick, timed, stamped. -/
namespace Go.Proofs.YthnonmniponahaaGreatDoor.St
open Go.RowKit Go.Joins

end Go.Proofs.YthnonmniponahaaGreatDoor.St
end
section
/- Parse of a text's time: what is written is read. No program. -/
namespace Go.Proofs.YthnonmniponahaaGreatDoor.St

/-! ### Numbers -/
theorem dec_len15 (u : Nat) (h : u ≤ 1099511627776) : (Lib.decDigits u).length ≤ 13 := (digs_pad 12 u (by omega)).1

end Go.Proofs.YthnonmniponahaaGreatDoor.St
end
