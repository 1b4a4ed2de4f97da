/- Sb: what the texts of the name hold, joined. -/
import Derived.Test.YthnonmniponahaaGreatDoorQSa
set_option linter.unusedSimpArgs false
set_option linter.unusedVariables false
section
/- Digits of texts: isDigits, value, nanoseconds, strings.Cut at a point: what each returns. -/
namespace Go.Proofs.YthnonmniponahaaGreatDoor.St
open Go.RowKit Go.Joins

/-- Whether a byte is a digit. -/
def dig (c : UInt8) : Bool := decide (48 ≤ c.toNat) && decide (c.toNat ≤ 57)
def isDig (l : List UInt8) : Bool := l.all dig && !decide (l = [])
/-- The number of digits. -/
def valD (l : List UInt8) : Int := l.foldl (fun n c => 10 * n + ((c.toNat : Int) - 48)) 0
end Go.Proofs.YthnonmniponahaaGreatDoor.St
end
section
/- strings.Cut at a point; nanoseconds; negate: what each returns. -/
namespace Go.Proofs.YthnonmniponahaaGreatDoor.St
open Go.RowKit Go.Joins

def wholeOf (u : List UInt8) : List UInt8 := u.takeWhile (· != 46)
def fracOf (u : List UInt8) : List UInt8 := (u.dropWhile (· != 46)).drop 1
def pointOf (u : List UInt8) : Bool := u.contains 46

/-- Nanoseconds of a fraction's digits, and whether there is more. -/
def nanoD (b : List UInt8) : Int := valD (b.take 9) * ((10 ^ (9 - b.length) : Nat) : Int)
def moreD (b : List UInt8) : Bool := !decide (Lib.trimLeftB (b.drop 9) 48 = [])

end Go.Proofs.YthnonmniponahaaGreatDoor.St
end
section
/- stamp.Parse: the time that any text is. -/
namespace Go.Proofs.YthnonmniponahaaGreatDoor.St
open Go.RowKit Go.Joins

/-- An error, by its number. -/
def errV (c : Int) : Value := if c = 0 then .nilIface else .iface 29 (.int .i64 c)
def negS (sec N : Int) : Int := if N = 0 then -sec else -sec - 1
def negN (N : Int) : Int := if N = 0 then 0 else 1000000000 - N
/-- A time out of its parts. -/
def timeF (neg : Bool) (sec nano : Int) (more : Bool) : Int × Int × Int :=
  let N := if neg && more then nano + 1 else nano
  let s := if neg then negS sec N else sec
  let n := if neg then negN N else N
  if rightB s n then (0, s, n) else (2, 0, 0)
/-- What Parse answers: the error's number, the time. -/
def parseF (l : List UInt8) : Int × Int × Int :=
  let u := Lib.trimPrefix l [45]
  if isDig (wholeOf u) && (!pointOf u || isDig (fracOf u)) then
    if 15 < (Lib.trimLeftB (wholeOf u) 48).length then (2, 0, 0)
    else timeF (Lib.hasPrefix l [45]) (valD (Lib.trimLeftB (wholeOf u) 48)) (nanoD (fracOf u)) (moreD (fracOf u))
  else (3, 0, 0)

section
variable {l u a b : List UInt8} {neg pt : Bool} (w : World)
  (HCP : Hid (∀ w, Calls Tryz.prog 265 #[.string (mkS l), .string { data := #[45] }] w fun e w' => e = .returned (.tuple #[.string (mkS u), .bool neg]) ∧ w' = w))
  (HC : Hid (∀ w, Calls Tryz.prog 145 #[.string (mkS u), .string { data := #[46] }] w fun e w' => e = .returned (.tuple #[.string (mkS a), .string (mkS b), .bool pt]) ∧ ∃ n, w' = w.drewN n))
include HCP HC

variable {t : List UInt8}
  (HD1 : Hid (∀ w, Calls Tryz.prog 266 #[.string (mkS a)] w fun e w' => e = .returned (.bool true) ∧ w' = w))
  (HT : Hid (∀ w, Calls Tryz.prog 218 #[.string (mkS a), .string { data := #[48] }] w fun e w' => e = .returned (.string (mkS t)) ∧ w' = w))
include HD1 HT

variable {sec nano : Int} (ht : (t.length : Int) ≤ 15)
  (HV : Hid (∀ w, Calls Tryz.prog 267 #[.string (mkS t)] w fun e w' => e = .returned (.int .i64 sec) ∧ w' = w))
include ht HV

end

end Go.Proofs.YthnonmniponahaaGreatDoor.St
end
