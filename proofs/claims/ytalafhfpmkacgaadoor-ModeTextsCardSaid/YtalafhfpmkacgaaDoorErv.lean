/- Answers of package mode: a number and an error. -/
import Derived.Test.YtalafhfpmkacgaaDoorMm
namespace Go.Proofs.YtalafhfpmkacgaaDoor
/-- An error's number as an error. -/
def errV : Nat → Value
  | 0 => .nilIface
  | k + 1 => .iface 22 (.int .i64 ((k + 1 : Nat) : Int))
/-- An answer of a mode and an error. -/
def modOut (r : Nat × Nat) : Value := .tuple #[.int .i64 (r.2 : Int), errV r.1]
end Go.Proofs.YtalafhfpmkacgaaDoor
