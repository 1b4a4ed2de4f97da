/- Texts as lists of bytes; decimal digits; pairs of texts (api.Pair) as values. -/
import Derived.Test.YtcdoiadmnckccaaDoorProg
import Derived.WalkKit
import Derived.ProofKit
import Derived.OpenShut
import Derived.LoopTactic
import Derived.Lib.Hide
import Derived.Lib.SmallJoins
import Derived.BigRegion
import Derived.BigQuiet
import Derived.Deep.QuietTactic
import Derived.Lib.QuietBelow
import Derived.Laws.Concat
import Derived.Laws.DeepStrings4
import Derived.Lib.Strings
import Derived.Lib.IndexBytes
import Derived.Lib.ItoaNum
namespace Go.Proofs.YtcdoiadmnckccaaDoor
open Go.RowKit Go.Joins
/-- a text of these bytes, behind a name. -/
def mkS (l : List UInt8) : ByteArray := ⟨l.toArray⟩
theorem mkS_self (s : ByteArray) : mkS s.data.toList = s := by cases s; simp [mkS]
theorem mkS_list (l : List UInt8) : (mkS l).data.toList = l := by simp [mkS]
theorem mkS_size (l : List UInt8) : (mkS l).size = l.length := by show l.toArray.size = _; simp
theorem mkS_inj (x y : List UInt8) : mkS x = mkS y ↔ x = y := by
  constructor
  · intro h; have := congrArg (fun s : ByteArray => s.data.toList) h; simpa [mkS_list] using this
  · rintro rfl; rfl
theorem mkS_nil : mkS [] = ByteArray.empty := rfl
theorem mkS_index (l : List UInt8) (i : Int) (c : UInt8) (h0 : 0 ≤ i) (h : l[i.toNat]? = some c) (w : World) : (Instr.index 9 (.string (mkS l)) (.int .i64 i)).run Tryd.prog w = .ok (.int .u8 (c.toNat : Int)) w := by
  obtain ⟨h1, h2⟩ := List.getElem?_eq_some_iff.1 h
  rw [run_index_string w 9 _ .i64 _ Tryd.underlying9, dif_pos ⟨h0, by rw [mkS_size]; omega⟩]
  have : (mkS l)[i.toNat]'(by rw [mkS_size]; exact h1) = c := by rw [← h2]; rfl
  rw [this]
theorem mkS_upto (l : List UInt8) (j : Nat) (h : j ≤ l.length) (w : World) : (Instr.slice 9 (.string (mkS l)) none (some (.int .i64 (j : Int))) none).run Tryd.prog w = .ok (.string (mkS (l.take j))) w := by
  rw [run_slice_string_to_if w 9 _ .i64 _ Tryd.underlying9, if_pos ⟨by omega, by rw [mkS_size]; omega⟩]
  have : (mkS l).extract 0 (j : Int).toNat = mkS (l.take j) := by
    rw [← mkS_self ((mkS l).extract 0 (j : Int).toNat), Lib.extract_data, mkS_list]
    simp
  rw [this]
theorem mkS_onward (l : List UInt8) (j : Nat) (h : j ≤ l.length) (w : World) : (Instr.slice 9 (.string (mkS l)) (some (.int .i64 (j : Int))) none none).run Tryd.prog w = .ok (.string (mkS (l.drop j))) w := by
  rw [run_slice_string_from_if w 9 _ .i64 _ Tryd.underlying9, if_pos ⟨by omega, by rw [mkS_size]; omega⟩]
  have : (mkS l).extract (j : Int).toNat (mkS l).size = mkS (l.drop j) := by
    rw [← mkS_self ((mkS l).extract (j : Int).toNat (mkS l).size), Lib.extract_to_end, mkS_list]
    simp
  rw [this]
theorem mkS_cat (x y : List UInt8) (h : x.length + y.length ≤ 1000000) (w : World) : (Op.stringOp .add (mkS x) (mkS y)).run Tryd.prog w = .ok (.string (mkS (x ++ y))) w := by
  unfold mkS
  rw [run_string_add_sum _ _ _ (by show x.toArray.size + y.toArray.size ≤ _; simp; omega), ByteArray.mk_append_mk]

theorem mkS_mid (l : List UInt8) (i j : Nat) (hi : i ≤ j) (h : j ≤ l.length) (w : World) : (Instr.slice 9 (.string (mkS l)) (some (.int .i64 (i : Int))) (some (.int .i64 (j : Int))) none).run Tryd.prog w = .ok (.string (mkS ((l.drop i).take (j - i)))) w := by
  rw [run_slice_string_if w 9 _ .i64 .i64 _ _ Tryd.underlying9, if_pos ⟨by omega, by rw [mkS_size]; omega⟩, if_pos ⟨by omega, by omega⟩]
  have : (mkS l).extract (i : Int).toNat (j : Int).toNat = mkS ((l.drop i).take (j - i)) := by
    rw [← mkS_self ((mkS l).extract (i : Int).toNat (j : Int).toNat), Lib.extract_data, mkS_list]
    simp
  rw [this]
theorem mkS_cat2 (x y : List UInt8) (h : x.length + y.length ≤ 9223372036854775807) (w : World) : (Op.stringOp .add (mkS x) (mkS y)).run Tryd.prog w = .ok (.string (mkS (x ++ y))) w := by
  unfold mkS
  rw [run_string_add_sum _ _ _ (by show x.toArray.size + y.toArray.size ≤ _; simp; omega), ByteArray.mk_append_mk]
theorem mkS_emp (l : List UInt8) (h : l ≠ []) : (mkS l).toList.isEmpty = false := by
  rw [ByteArray.toList_eq, mkS_list]
  cases l with
  | nil => exact absurd rfl h
  | cons c r => rfl
theorem mkS_emp_nil : (mkS []).toList.isEmpty = true := by rw [ByteArray.toList_eq, mkS_list]; rfl

/-! ### Decimal digits -/
theorem dec_small (u : Nat) (h : u < 10) : Lib.decDigits u = [UInt8.ofNat (48 + u)] := by rw [Lib.decDigits, dif_pos h]
theorem dec_step (u : Nat) (h : ¬ u < 10) : Lib.decDigits u = Lib.decDigits (u / 10) ++ [UInt8.ofNat (48 + u % 10)] := by rw [Lib.decDigits, dif_neg h]
theorem itoa_nat (n : Int) (h : 0 ≤ n) : Lib.itoa n = Lib.decDigits n.toNat := by unfold Lib.itoa; rw [if_neg (by omega)]
/-- k digits of u. -/
def digs : Nat → Nat → List UInt8
  | 0, _ => []
  | k + 1, u => digs k (u / 10) ++ [UInt8.ofNat (48 + u % 10)]
theorem digs_length : ∀ k u, (digs k u).length = k
  | 0, _ => rfl
  | k + 1, u => by simp [digs, digs_length k]
theorem digs_zero : ∀ k, digs k 0 = List.replicate k 48
  | 0 => rfl
  | k + 1 => by rw [digs, digs_zero k, List.replicate_succ']; rfl
/-- A one ahead of k digits. -/
theorem dec_ahead : ∀ (k u : Nat), u < 10 ^ k → Lib.decDigits (10 ^ k + u) = 49 :: digs k u
  | 0, u, h => by obtain rfl : u = 0 := by simpa using h
                  rw [dec_small _ (by decide)]; rfl
  | k + 1, u, h => by
    have hp : 10 ^ (k + 1) = 10 * 10 ^ k := Nat.pow_succ'
    have h1 : 1 ≤ 10 ^ k := Nat.one_le_pow _ _ (by decide)
    rw [dec_step _ (by omega), show (10 ^ (k + 1) + u) / 10 = 10 ^ k + u / 10 by omega, dec_ahead k (u / 10) (by omega), show (10 ^ (k + 1) + u) % 10 = u % 10 by omega]
    rfl
/-- The digits of u, noughts ahead of them. -/
theorem digs_pad : ∀ (k u : Nat), u < 10 ^ (k + 1) → (Lib.decDigits u).length ≤ k + 1 ∧ digs (k + 1) u = List.replicate (k + 1 - (Lib.decDigits u).length) 48 ++ Lib.decDigits u
  | 0, u, h => by
    rw [dec_small u (by simpa using h)]
    refine ⟨by simp, ?_⟩
    simp only [digs, List.length_singleton, Nat.sub_self, List.replicate_zero, List.nil_append]
    rw [show u % 10 = u by have : u < 10 := by simpa using h
                           omega]
  | k + 1, u, h => by
    by_cases h10 : u < 10
    · rw [dec_small u h10]
      refine ⟨by simp, ?_⟩
      rw [digs, show u / 10 = 0 by omega, digs_zero, show u % 10 = u by omega]; rfl
    · have hp : 10 ^ (k + 1 + 1) = 10 * 10 ^ (k + 1) := Nat.pow_succ'
      obtain ⟨i1, i2⟩ := digs_pad k (u / 10) (by omega)
      rw [dec_step u h10, digs, i2]
      refine ⟨by simp; omega, ?_⟩
      simp only [List.length_append, List.length_singleton, List.append_assoc]
      rw [show k + 1 + 1 - ((Lib.decDigits (u / 10)).length + 1) = k + 1 - (Lib.decDigits (u / 10)).length by omega]
theorem dec_range : ∀ (u : Nat), ∀ c ∈ Lib.decDigits u, 48 ≤ c.toNat ∧ c.toNat ≤ 57 := by
  intro u
  induction u using Nat.strongRecOn with
  | ind u ih =>
    intro c hc
    by_cases h : u < 10
    · rw [dec_small u h, List.mem_singleton] at hc
      subst hc
      simp only [UInt8.toNat_ofNat']; omega
    · rw [dec_step u h, List.mem_append, List.mem_singleton] at hc
      rcases hc with hc | rfl
      · exact ih (u / 10) (by omega) c hc
      · simp only [UInt8.toNat_ofNat']; omega
theorem dec_pos (u : Nat) : 1 ≤ (Lib.decDigits u).length := by
  by_cases h : u < 10
  · rw [dec_small u h]; simp
  · rw [dec_step u h]; simp
theorem digs_range : ∀ (k u : Nat), ∀ c ∈ digs k u, 48 ≤ c.toNat ∧ c.toNat ≤ 57
  | 0, _, c, hc => by simp [digs] at hc
  | k + 1, u, c, hc => by
    rw [digs, List.mem_append, List.mem_singleton] at hc
    rcases hc with hc | rfl
    · exact digs_range k _ c hc
    · simp only [UInt8.toNat_ofNat']; omega
end Go.Proofs.YtcdoiadmnckccaaDoor
