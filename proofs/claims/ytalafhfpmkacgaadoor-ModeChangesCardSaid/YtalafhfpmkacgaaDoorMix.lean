/- Bit by bit: what the reference's last loop makes. -/
import Derived.Test.YtalafhfpmkacgaaDoorMm
namespace Go.Proofs.YtalafhfpmkacgaaDoor
open Go.RowKit Go.Joins
set_option linter.unusedVariables false
set_option linter.unusedSimpArgs false

/-- F below bit k, m from it on. -/
def mixB (m F k : Nat) : Nat := (F &&& (2 ^ k - 1)) ||| less m (2 ^ k - 1)
theorem mix_bit (m F k j : Nat) : (mixB m F k).testBit j = if j < k then F.testBit j else m.testBit j := by
  unfold mixB
  rw [Nat.testBit_or, Nat.testBit_and, less_bit, Nat.testBit_two_pow_sub_one]
  by_cases h : j < k
  · simp [h]
  · simp [h]
theorem mix_zero (m F : Nat) : mixB m F 0 = m := Nat.eq_of_testBit_eq fun j => by rw [mix_bit, if_neg (Nat.not_lt_zero _)]
theorem bit_high (m j : Nat) (hm : m < 4096) (hj : ¬ j < 12) : m.testBit j = false :=
  Nat.testBit_lt_two_pow (Nat.lt_of_lt_of_le hm (show 2 ^ 12 ≤ 2 ^ j from Nat.pow_le_pow_right (by decide) (by omega)))
theorem mix_end (m F : Nat) (hm : m < 4096) (hF : F < 4096) : mixB m F 12 = F := Nat.eq_of_testBit_eq fun j => by
  rw [mix_bit]
  by_cases h : j < 12
  · rw [if_pos h]
  · rw [if_neg h, bit_high m j hm h, bit_high F j hF h]
theorem mix_lt (m F k : Nat) (hm : m < 4096) (hF : F < 4096) : mixB m F k < 4096 := or_lt _ _ (Nat.lt_of_le_of_lt Nat.and_le_left hF) (less_lt' _ _ hm)
theorem mix_same (m F k : Nat) (h : F.testBit k = m.testBit k) : mixB m F (k + 1) = mixB m F k := Nat.eq_of_testBit_eq fun j => by
  rw [mix_bit, mix_bit]
  by_cases h1 : j < k
  · rw [if_pos h1, if_pos (by omega)]
  · rw [if_neg h1]
    by_cases h2 : j = k
    · subst h2; rw [if_pos (by omega), h]
    · rw [if_neg (by omega)]
theorem mix_on (m F k : Nat) (h : F.testBit k = true) : mixB m F (k + 1) = mixB m F k ||| 2 ^ k := Nat.eq_of_testBit_eq fun j => by
  rw [Nat.testBit_or, mix_bit, mix_bit, Nat.testBit_two_pow]
  by_cases h1 : j < k
  · rw [if_pos h1, if_pos (by omega)]; simp; omega
  · rw [if_neg h1]
    by_cases h2 : j = k
    · subst h2; rw [if_pos (by omega), h]; simp
    · rw [if_neg (by omega)]; simp; omega
theorem mix_off (m F k : Nat) (h : F.testBit k = false) : mixB m F (k + 1) = less (mixB m F k) (2 ^ k) := Nat.eq_of_testBit_eq fun j => by
  rw [less_bit, mix_bit, mix_bit, Nat.testBit_two_pow]
  by_cases h1 : j < k
  · rw [if_pos h1, if_pos (by omega)]; simp; omega
  · rw [if_neg h1]
    by_cases h2 : j = k
    · subst h2; rw [if_pos (by omega), h]; simp
    · rw [if_neg (by omega)]; simp; omega
theorem pow_pos (x k : Nat) (h : x.testBit k = true) : 0 < x &&& 2 ^ k := by
  rw [nat_bit]
  rw [Nat.testBit_eq_decide_div_mod_eq, decide_eq_true_eq] at h
  rw [h, Nat.one_mul]
  exact Nat.two_pow_pos k
theorem pow_zero (x k : Nat) (h : x.testBit k = false) : x &&& 2 ^ k = 0 := by
  rw [nat_bit]
  rw [Nat.testBit_eq_decide_div_mod_eq, decide_eq_false_iff_not] at h
  have : x / 2 ^ k % 2 = 0 := by omega
  rw [this, Nat.zero_mul]
/-- One part more. -/
theorem chF_at (dir : Bool) (m : Nat) (ps : List (List UInt8)) (i : Nat) (p : List UInt8) (h : ps[i]? = some p) : chF dir m (ps.take (i + 1)) = (chF dir m (ps.take i)).bind fun k => partF dir k p := by
  rw [List.take_add_one, h]
  show chF dir m (ps.take i ++ [p]) = _
  rw [chF_append]
  congr 1
  funext k
  show (partF dir k p).bind _ = _
  cases partF dir k p <;> rfl
theorem chF_stop (dir : Bool) (m : Nat) (ps : List (List UInt8)) (i : Nat) (h : chF dir m (ps.take i) = none) : chF dir m ps = none := by
  conv => lhs; rw [← List.take_append_drop i ps]
  rw [chF_append, h]; rfl
end Go.Proofs.YtalafhfpmkacgaaDoor
