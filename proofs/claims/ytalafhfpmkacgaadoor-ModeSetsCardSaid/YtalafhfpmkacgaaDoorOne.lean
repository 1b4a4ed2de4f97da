/- A change of one sign: what it makes. -/
import Derived.Test.YtalafhfpmkacgaaDoorKmd
namespace Go.Proofs.YtalafhfpmkacgaaDoor
open Go.RowKit Go.Joins
set_option linter.unusedVariables false
set_option linter.unusedSimpArgs false

theorem one_act (m : Nat) (dir : Bool) (l : List UInt8) (who : Nat) (x : UInt8 × List UInt8) (k : Nat) (hm : m < 4096) (ho : octB l = false) (hp : piecesC l = [l]) (hr : restS whoS l ≠ []) (hw : whoM (headS whoS l) = who) (ha : acts (restS whoS l) = [x])
    (hk : stepA who dir m x = some k) : changeF (m : Int) l dir = (0, k) := by
  rw [changeF_parts m l dir hm ho, hp]
  have h1 : partF dir m l = some k := by
    unfold partF
    rw [if_neg hr, hw, ha]
    show (stepA who dir m x).bind _ = _
    rw [hk]; rfl
  have h2 : chF dir m [l] = some k := by
    show (partF dir m l).bind _ = _
    rw [h1]; rfl
  rw [h2]
theorem step_vals (who : Nat) (dir : Bool) (m : Nat) (L : List UInt8) (X : Nat) (h : ∀ r, who &&& letM r L 0 = X) : stepA who dir m (43, L) = some (m ||| X) ∧ stepA who dir m (45, L) = some (less m X) ∧ stepA who dir m (61, L) = some (less m who ||| X) := by
  unfold stepA
  simp only [h]
  exact ⟨rfl, rfl, rfl⟩
/-- u, g, o; r, w, x. -/
def whoC (p : Nat) : UInt8 := if p = 0 then 117 else if p = 1 then 103 else 111
def letC (q : Nat) : UInt8 := if q = 0 then 114 else if q = 1 then 119 else 120
theorem turn_val (m p q : Nat) (dir : Bool) (hm : m < 4096) (hp : p < 3) (hq : q < 3) :
    changeF (m : Int) [whoC p, 43, letC q] dir = (0, m ||| 2 ^ (8 - 3 * p - q)) ∧ changeF (m : Int) [whoC p, 45, letC q] dir = (0, less m (2 ^ (8 - 3 * p - q))) := by
  have h3 : ∀ p : Nat, p < 3 → p = 0 ∨ p = 1 ∨ p = 2 := fun p h => by omega
  constructor
  · refine one_act m dir _ (whoM [whoC p]) (43, [letC q]) _ hm ?_ ?_ ?_ ?_ ?_ (step_vals _ dir m _ (2 ^ (8 - 3 * p - q)) ?_).1
    all_goals (rcases h3 p hp with rfl | rfl | rfl <;> rcases h3 q hq with rfl | rfl | rfl <;> decide)
  · refine one_act m dir _ (whoM [whoC p]) (45, [letC q]) _ hm ?_ ?_ ?_ ?_ ?_ (step_vals _ dir m _ (2 ^ (8 - 3 * p - q)) ?_).2.1
    all_goals (rcases h3 p hp with rfl | rfl | rfl <;> rcases h3 q hq with rfl | rfl | rfl <;> decide)
theorem less_or (m b : Nat) : less (m ||| b) b = less m b := Nat.eq_of_testBit_eq fun j => by
  rw [less_bit, less_bit, Nat.testBit_or]
  cases m.testBit j <;> cases b.testBit j <;> rfl
/-- The letters of k, the first i of three. -/
def setT (k : Nat) : Nat → List UInt8
  | 0 => []
  | i + 1 => setT k i ++ (if k.testBit (2 - i) then [letC i] else [])
theorem set_val (m k : Nat) (dir : Bool) (hm : m < 4096) (hk : k < 8) : changeF (m : Int) (103 :: 61 :: setT k 3) dir = (0, less m 1080 ||| k * 8) := by
  have h8 : k = 0 ∨ k = 1 ∨ k = 2 ∨ k = 3 ∨ k = 4 ∨ k = 5 ∨ k = 6 ∨ k = 7 := by omega
  refine one_act m dir _ 1080 (61, setT k 3) _ hm ?_ ?_ ?_ ?_ ?_ (step_vals 1080 dir m _ (k * 8) ?_).2.2
  all_goals (rcases h8 with rfl | rfl | rfl | rfl | rfl | rfl | rfl | rfl <;> decide)
theorem less_all (m : Nat) (hm : m < 4096) : less m 4095 ||| 0 = 0 := by
  rw [Nat.or_zero]
  apply Nat.eq_of_testBit_eq
  intro j
  rw [less_bit, Nat.zero_testBit, show (4095 : Nat) = 2 ^ 12 - 1 from rfl, Nat.testBit_two_pow_sub_one]
  by_cases h : j < 12
  · simp [h]
  · have : m.testBit j = false := Nat.testBit_lt_two_pow (Nat.lt_of_lt_of_le hm (show 2 ^ 12 ≤ 2 ^ j from Nat.pow_le_pow_right (by decide) (by omega)))
    rw [this]; rfl
theorem all_val (m : Nat) (dir : Bool) (hm : m < 4096) : changeF (m : Int) [97, 61] dir = (0, 0) ∧ changeF (m : Int) [117, 103, 111, 61] dir = (0, 0) := by
  constructor
  · have := one_act m dir [97, 61] 4095 (61, []) _ hm (by decide) (by decide) (by decide) (by decide) (by decide) (step_vals 4095 dir m [] 0 (by decide)).2.2
    rw [this, less_all m hm]
  · have := one_act m dir [117, 103, 111, 61] 4095 (61, []) _ hm (by decide) (by decide) (by decide) (by decide) (by decide) (step_vals 4095 dir m [] 0 (by decide)).2.2
    rw [this, less_all m hm]
theorem setT_len (k : Nat) : ∀ i, (setT k i).length ≤ i
  | 0 => Nat.le_refl _
  | i + 1 => by
    have := setT_len k i
    unfold setT
    rw [List.length_append]
    split <;> simp <;> omega
end Go.Proofs.YtalafhfpmkacgaaDoor
