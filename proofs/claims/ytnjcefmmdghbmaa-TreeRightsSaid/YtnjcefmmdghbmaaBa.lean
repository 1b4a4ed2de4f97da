/- Ba: what the texts of the name hold, joined. -/
import Derived.Test.YtnjcefmmdghbmaaShelf
import Derived.Test.YtnjcefmmdghbmaaProg
import Derived.WalkKit
import Derived.ProofKit
import Derived.OpenShut
import Derived.LoopTactic
import Derived.Lib.Hide
import Derived.Lib.SmallJoins
import Derived.BigRegion
import Derived.BigQuiet
import Derived.Deep.QuietTactic
import Derived.Lib.QuietBelow
import Derived.Laws.Concat
import Derived.Laws.DeepStrings4
import Derived.Lib.Strings
import Derived.Lib.IndexBytes
import Derived.Lib.ItoaNum
import Derived.Laws.BytesArg
import Derived.IntWalk
import Derived.Lib.SlTrimSet
import Derived.Laws.BitsAllLaws
import Derived.Laws.Bits64b
import Derived.Test.YtnjcefmmdghbmaaRows
set_option linter.unusedSimpArgs false
set_option linter.unusedVariables false
section
/- Texts as lists of bytes; decimal digits; pairs of texts (api.Pair) as values. -/
namespace Go.Proofs.Ytnjcefmmdghbmaa
open Go.RowKit Go.Joins
/-- a text of these bytes, behind a name. -/
def mkS (l : List UInt8) : ByteArray := ⟨l.toArray⟩
theorem mkS_self (s : ByteArray) : mkS s.data.toList = s := by cases s; simp [mkS]
theorem mkS_list (l : List UInt8) : (mkS l).data.toList = l := by simp [mkS]
theorem mkS_size (l : List UInt8) : (mkS l).size = l.length := by show l.toArray.size = _; simp
theorem mkS_inj (x y : List UInt8) : mkS x = mkS y ↔ x = y := by
  constructor
  · intro h; have := congrArg (fun s : ByteArray => s.data.toList) h; simpa [mkS_list] using this
  · rintro rfl; rfl
theorem mkS_nil : mkS [] = ByteArray.empty := rfl
theorem mkS_index (l : List UInt8) (i : Int) (c : UInt8) (h0 : 0 ≤ i) (h : l[i.toNat]? = some c) (w : World) : (Instr.index 9 (.string (mkS l)) (.int .i64 i)).run Try.prog w = .ok (.int .u8 (c.toNat : Int)) w := by
  obtain ⟨h1, h2⟩ := List.getElem?_eq_some_iff.1 h
  rw [run_index_string w 9 _ .i64 _ Try.underlying9, dif_pos ⟨h0, by rw [mkS_size]; omega⟩]
  have : (mkS l)[i.toNat]'(by rw [mkS_size]; exact h1) = c := by rw [← h2]; rfl
  rw [this]
theorem mkS_upto (l : List UInt8) (j : Nat) (h : j ≤ l.length) (w : World) : (Instr.slice 9 (.string (mkS l)) none (some (.int .i64 (j : Int))) none).run Try.prog w = .ok (.string (mkS (l.take j))) w := by
  rw [run_slice_string_to_if w 9 _ .i64 _ Try.underlying9, if_pos ⟨by omega, by rw [mkS_size]; omega⟩]
  have : (mkS l).extract 0 (j : Int).toNat = mkS (l.take j) := by
    rw [← mkS_self ((mkS l).extract 0 (j : Int).toNat), Lib.extract_data, mkS_list]
    simp
  rw [this]
theorem mkS_onward (l : List UInt8) (j : Nat) (h : j ≤ l.length) (w : World) : (Instr.slice 9 (.string (mkS l)) (some (.int .i64 (j : Int))) none none).run Try.prog w = .ok (.string (mkS (l.drop j))) w := by
  rw [run_slice_string_from_if w 9 _ .i64 _ Try.underlying9, if_pos ⟨by omega, by rw [mkS_size]; omega⟩]
  have : (mkS l).extract (j : Int).toNat (mkS l).size = mkS (l.drop j) := by
    rw [← mkS_self ((mkS l).extract (j : Int).toNat (mkS l).size), Lib.extract_to_end, mkS_list]
    simp
  rw [this]
theorem mkS_cat (x y : List UInt8) (h : x.length + y.length ≤ 1000000) (w : World) : (Op.stringOp .add (mkS x) (mkS y)).run Try.prog w = .ok (.string (mkS (x ++ y))) w := by
  unfold mkS
  rw [run_string_add_sum _ _ _ (by show x.toArray.size + y.toArray.size ≤ _; simp; omega), ByteArray.mk_append_mk]

theorem mkS_mid (l : List UInt8) (i j : Nat) (hi : i ≤ j) (h : j ≤ l.length) (w : World) : (Instr.slice 9 (.string (mkS l)) (some (.int .i64 (i : Int))) (some (.int .i64 (j : Int))) none).run Try.prog w = .ok (.string (mkS ((l.drop i).take (j - i)))) w := by
  rw [run_slice_string_if w 9 _ .i64 .i64 _ _ Try.underlying9, if_pos ⟨by omega, by rw [mkS_size]; omega⟩, if_pos ⟨by omega, by omega⟩]
  have : (mkS l).extract (i : Int).toNat (j : Int).toNat = mkS ((l.drop i).take (j - i)) := by
    rw [← mkS_self ((mkS l).extract (i : Int).toNat (j : Int).toNat), Lib.extract_data, mkS_list]
    simp
  rw [this]
theorem mkS_cat2 (x y : List UInt8) (h : x.length + y.length ≤ 9223372036854775807) (w : World) : (Op.stringOp .add (mkS x) (mkS y)).run Try.prog w = .ok (.string (mkS (x ++ y))) w := by
  unfold mkS
  rw [run_string_add_sum _ _ _ (by show x.toArray.size + y.toArray.size ≤ _; simp; omega), ByteArray.mk_append_mk]
theorem mkS_emp (l : List UInt8) (h : l ≠ []) : (mkS l).toList.isEmpty = false := by
  rw [ByteArray.toList_eq, mkS_list]
  cases l with
  | nil => exact absurd rfl h
  | cons c r => rfl
theorem mkS_emp_nil : (mkS []).toList.isEmpty = true := by rw [ByteArray.toList_eq, mkS_list]; rfl

/-! ### Decimal digits -/
theorem dec_small (u : Nat) (h : u < 10) : Lib.decDigits u = [UInt8.ofNat (48 + u)] := by rw [Lib.decDigits, dif_pos h]
theorem dec_step (u : Nat) (h : ¬ u < 10) : Lib.decDigits u = Lib.decDigits (u / 10) ++ [UInt8.ofNat (48 + u % 10)] := by rw [Lib.decDigits, dif_neg h]
theorem itoa_nat (n : Int) (h : 0 ≤ n) : Lib.itoa n = Lib.decDigits n.toNat := by unfold Lib.itoa; rw [if_neg (by omega)]
/-- k digits of u. -/
def digs : Nat → Nat → List UInt8
  | 0, _ => []
  | k + 1, u => digs k (u / 10) ++ [UInt8.ofNat (48 + u % 10)]
theorem digs_length : ∀ k u, (digs k u).length = k
  | 0, _ => rfl
  | k + 1, u => by simp [digs, digs_length k]
theorem digs_zero : ∀ k, digs k 0 = List.replicate k 48
  | 0 => rfl
  | k + 1 => by rw [digs, digs_zero k, List.replicate_succ']; rfl
/-- A one ahead of k digits. -/
theorem dec_ahead : ∀ (k u : Nat), u < 10 ^ k → Lib.decDigits (10 ^ k + u) = 49 :: digs k u
  | 0, u, h => by obtain rfl : u = 0 := by simpa using h
                  rw [dec_small _ (by decide)]; rfl
  | k + 1, u, h => by
    have hp : 10 ^ (k + 1) = 10 * 10 ^ k := Nat.pow_succ'
    have h1 : 1 ≤ 10 ^ k := Nat.one_le_pow _ _ (by decide)
    rw [dec_step _ (by omega), show (10 ^ (k + 1) + u) / 10 = 10 ^ k + u / 10 by omega, dec_ahead k (u / 10) (by omega), show (10 ^ (k + 1) + u) % 10 = u % 10 by omega]
    rfl
/-- The digits of u, noughts ahead of them. -/
theorem digs_pad : ∀ (k u : Nat), u < 10 ^ (k + 1) → (Lib.decDigits u).length ≤ k + 1 ∧ digs (k + 1) u = List.replicate (k + 1 - (Lib.decDigits u).length) 48 ++ Lib.decDigits u
  | 0, u, h => by
    rw [dec_small u (by simpa using h)]
    refine ⟨by simp, ?_⟩
    simp only [digs, List.length_singleton, Nat.sub_self, List.replicate_zero, List.nil_append]
    rw [show u % 10 = u by have : u < 10 := by simpa using h
                           omega]
  | k + 1, u, h => by
    by_cases h10 : u < 10
    · rw [dec_small u h10]
      refine ⟨by simp, ?_⟩
      rw [digs, show u / 10 = 0 by omega, digs_zero, show u % 10 = u by omega]; rfl
    · have hp : 10 ^ (k + 1 + 1) = 10 * 10 ^ (k + 1) := Nat.pow_succ'
      obtain ⟨i1, i2⟩ := digs_pad k (u / 10) (by omega)
      rw [dec_step u h10, digs, i2]
      refine ⟨by simp; omega, ?_⟩
      simp only [List.length_append, List.length_singleton, List.append_assoc]
      rw [show k + 1 + 1 - ((Lib.decDigits (u / 10)).length + 1) = k + 1 - (Lib.decDigits (u / 10)).length by omega]
theorem dec_range : ∀ (u : Nat), ∀ c ∈ Lib.decDigits u, 48 ≤ c.toNat ∧ c.toNat ≤ 57 := by
  intro u
  induction u using Nat.strongRecOn with
  | ind u ih =>
    intro c hc
    by_cases h : u < 10
    · rw [dec_small u h, List.mem_singleton] at hc
      subst hc
      simp only [UInt8.toNat_ofNat']; omega
    · rw [dec_step u h, List.mem_append, List.mem_singleton] at hc
      rcases hc with hc | rfl
      · exact ih (u / 10) (by omega) c hc
      · simp only [UInt8.toNat_ofNat']; omega
theorem dec_pos (u : Nat) : 1 ≤ (Lib.decDigits u).length := by
  by_cases h : u < 10
  · rw [dec_small u h]; simp
  · rw [dec_step u h]; simp
theorem digs_range : ∀ (k u : Nat), ∀ c ∈ digs k u, 48 ≤ c.toNat ∧ c.toNat ≤ 57
  | 0, _, c, hc => by simp [digs] at hc
  | k + 1, u, c, hc => by
    rw [digs, List.mem_append, List.mem_singleton] at hc
    rcases hc with hc | rfl
    · exact digs_range k _ c hc
    · simp only [UInt8.toNat_ofNat']; omega
end Go.Proofs.Ytnjcefmmdghbmaa
end
section
/- Plain mathematics of numeric fields: no program. Bytes as integers; the bytes of a number, most significant first. -/
namespace Go.Proofs.Ytnjcefmmdghbmaa

theorem strOfNums_append (x y : List Int) : strOfNums x ++ strOfNums y = strOfNums (x ++ y) := by
  unfold strOfNums
  rw [ByteArray.mk_append_mk, List.map_append]

/-- n / 256^k, behind a name. -/
def shn (n : Int) (k : Nat) : Int := n / 256 ^ k
theorem shn_zero (n : Int) : shn n 0 = n := by simp [shn]
theorem shn_succ (n : Int) (k : Nat) : shn n (k + 1) = shn n k / 256 := by
  unfold shn
  rw [Int.pow_succ, Int.ediv_ediv_of_nonneg (Int.pow_nonneg (by decide))]
theorem shn_le (n : Int) (h1 : -9223372036854775808 ≤ n) (h2 : n ≤ 9223372036854775807) (k : Nat) : -9223372036854775808 ≤ shn n k ∧ shn n k ≤ 9223372036854775807 := by
  induction k with
  | zero => rw [shn_zero]; exact ⟨h1, h2⟩
  | succ k ih => rw [shn_succ]; omega
theorem shn_neg (n : Int) (h : n < 0) (k : Nat) : shn n k < 0 := by
  induction k with
  | zero => rw [shn_zero]; exact h
  | succ k ih => rw [shn_succ]; omega
theorem shn_nonneg (n : Int) (h : 0 ≤ n) (k : Nat) : 0 ≤ shn n k := by
  induction k with
  | zero => rw [shn_zero]; exact h
  | succ k ih => rw [shn_succ]; omega

/-- the k low bytes of n, most significant first. -/
def beB (n : Int) : Nat → List Int
  | 0 => []
  | k + 1 => shn n k % 256 :: beB n k
theorem beB_length (n : Int) (k : Nat) : (beB n k).length = k := by
  induction k with
  | zero => rfl
  | succ k ih => simp [beB, ih]
theorem beB_range (n : Int) (k : Nat) : ∀ x ∈ beB n k, 0 ≤ x ∧ x ≤ 255 := by
  induction k with
  | zero => intro x hx; cases hx
  | succ k ih =>
    intro x hx
    rcases List.mem_cons.1 hx with rfl | h
    · omega
    · exact ih x h

/-- the first byte by the sign. -/
def markB (n : Int) : Int := if n < 0 then 255 else 128
def binNums (n : Int) (W : Nat) : List Int := markB n :: beB n (W - 1)
theorem binNums_length (n : Int) (W : Nat) (h : 1 ≤ W) : (binNums n W).length = W := by simp [binNums, beB_length]; omega

/-- What the row holds after k rounds. -/
def binRow (n : Int) (W k : Nat) : List Int := markB n :: (List.replicate (W - 1 - k) 0 ++ beB n k)
theorem binRow_length (n : Int) (W k : Nat) (hk : k ≤ W - 1) (h : 1 ≤ W) : (binRow n W k).length = W := by simp [binRow, beB_length]; omega
theorem binRow_start (n : Int) (W : Nat) (h : 1 ≤ W) : (List.replicate W (0 : Int)).set 0 (markB n) = binRow n W 0 := by
  obtain ⟨V, rfl⟩ : ∃ V, W = V + 1 := ⟨W - 1, by omega⟩
  simp [binRow, beB, List.replicate_succ]
theorem binRow_done (n : Int) (W : Nat) : binRow n W (W - 1) = binNums n W := by simp [binRow, binNums]
theorem binRow_step (n : Int) (W k : Nat) (hk : k < W - 1) : (binRow n W k).set (W - 1 - k) (shn n k % 256) = binRow n W (k + 1) := by
  obtain ⟨d, hd⟩ : ∃ d, W - 1 - k = d + 1 := ⟨W - 1 - k - 1, by omega⟩
  have hd2 : W - 1 - (k + 1) = d := by omega
  unfold binRow
  rw [hd, hd2, List.set_cons_succ, List.replicate_succ', List.append_assoc]
  rw [List.set_append_right _ _ (by simp)]
  simp [beB]

/-- the two's complement of 64 bits, shifted. -/
def uwn (n : Int) (k : Nat) : Int := shn (n % 18446744073709551616) k
theorem uwn_zero (n : Int) : uwn n 0 = n % 18446744073709551616 := shn_zero _
theorem uwn_succ (n : Int) (k : Nat) : uwn n (k + 1) = uwn n k / 256 := shn_succ _ _
theorem uwn_le (n : Int) (k : Nat) : 0 ≤ uwn n k ∧ uwn n k ≤ 18446744073709551615 := by
  induction k with
  | zero => rw [uwn_zero]; omega
  | succ k ih => rw [uwn_succ]; omega
theorem uwn_shn (n : Int) (k : Nat) (hk : k < 8) : uwn n k % 256 = shn n k % 256 := by
  have h : k = 0 ∨ k = 1 ∨ k = 2 ∨ k = 3 ∨ k = 4 ∨ k = 5 ∨ k = 6 ∨ k = 7 := by omega
  rcases h with rfl | rfl | rfl | rfl | rfl | rfl | rfl | rfl <;> simp only [uwn, shn_succ, shn_zero] <;> omega
theorem shn_big (n : Int) (h1 : -9223372036854775808 ≤ n) (h2 : n ≤ 9223372036854775807) (k : Nat) (hk : 8 ≤ k) : shn n k = if n < 0 then -1 else 0 := by
  induction k with
  | zero => omega
  | succ k ih =>
    rcases Nat.lt_or_ge k 8 with h | h
    · obtain rfl : k = 7 := by omega
      simp only [shn_succ, shn_zero]
      split <;> omega
    · rw [shn_succ, ih h]; split <;> rfl
end Go.Proofs.Ytnjcefmmdghbmaa
end
section
/- Contracts of number.Most, within, power, both Pads: what each returns, for every int. -/
namespace Go.Proofs.Ytnjcefmmdghbmaa
open Go.RowKit

theorem ipow_mono (k N : Nat) (b : Int) (hb : 1 ≤ b) (h : k ≤ N) : b ^ k ≤ b ^ N ∧ 1 ≤ b ^ k := by
  obtain ⟨c, rfl⟩ := Int.eq_ofNat_of_zero_le (by omega : 0 ≤ b)
  have hc : 0 < c := by omega
  have h1 := Nat.pow_le_pow_right hc h
  have h2 := Nat.pow_pos (n := k) hc
  constructor
  · exact_mod_cast h1
  · exact_mod_cast h2

/-- b^n, behind a name. -/
def ipw (b n : Int) : Int := b ^ n.toNat

/-- power(b, n) = b^n where that fits. -/
theorem power_any (b n : Int) (hb : 1 ≤ b) (hn : 0 ≤ n) (hfit : ipw b n ≤ 9223372036854775807) (hN : n ≤ 1000) (w : World) :
    Calls Try.prog 14 #[.int .i64 b, .int .i64 n] w fun e w' => e = .returned (.int .i64 (ipw b n)) ∧ w' = w := by
  obtain ⟨N, rfl⟩ := Int.eq_ofNat_of_zero_le hn
  have step : ∀ k : Nat, k + 1 ≤ N → wrap64 (ipw b k * b) = ipw b ((k + 1 : Nat) : Int) := by
    intro k hk
    unfold ipw at hfit ⊢
    rw [Int.toNat_natCast] at hfit ⊢
    rw [Int.toNat_natCast, ← Int.pow_succ]
    have h1 := ipow_mono (k + 1) N b hb hk
    exact IntWalk.wrap64_in _ (by constructor <;> simp only [Nat.succ_eq_add_one] <;> omega)
  have Step := Lib.hid step
  clear step hfit
  go_enter Try.func14, Try.ntmps14
  go_wp2
  go_loop [1, 5] (fun n out => ∃ k : Nat, k ≤ N ∧ n = .int .i64 ((N : Int) - k) ∧ out = .int .i64 (ipw b k)) (fun n _ => (intOf n).toNat)
  case atStart => exact ⟨0, Nat.zero_le _, by simp, by simp [ipw]⟩
  case round =>
    obtain ⟨k, hk, rfl, rfl⟩ := hrel
    by_cases hlt : k < N
    · have h0 : (0 : Int) < (N : Int) - k := by omega
      go_wp2
      go_round
      case rel => exact ⟨k + 1, by omega, by rw [show (N : Int) - k - 1 = (N : Int) - ((k + 1 : Nat) : Int) by omega], by rw [Step.out k (by omega)]⟩
      case measure => simp [intOf]; omega
    · obtain rfl : k = N := by omega
      go_wp2
      go_ret
      exact ⟨rfl, rfl⟩

/-- within(n, low, high). -/
theorem within_yes (n lo hi : Int) (w : World) (h1 : lo ≤ n) (h2 : n ≤ hi) :
    Calls Try.prog 7 #[.int .i64 n, .int .i64 lo, .int .i64 hi] w fun e w' => e = .returned (.bool true) ∧ w' = w := by
  go_enter Try.func7, Try.ntmps7
  go_wp2
  go_ret
  exact ⟨rfl, rfl⟩
theorem within_no (n lo hi : Int) (w : World) (h : n < lo ∨ hi < n) :
    Calls Try.prog 7 #[.int .i64 n, .int .i64 lo, .int .i64 hi] w fun e w' => e = .returned (.bool false) ∧ w' = w := by
  by_cases h1 : lo ≤ n
  · have d2 : decide (n ≤ hi) = false := by simp; omega
    clear h
    go_enter Try.func7, Try.ntmps7
    go_wp2
    go_ret
    exact ⟨rfl, rfl⟩
  · have d2 : n < lo := by omega
    clear h
    go_enter Try.func7, Try.ntmps7
    go_wp2
    go_ret
    exact ⟨rfl, rfl⟩

/-- What both Mosts give. -/
def mostF (a : Int) : Int := if 2 ≤ a ∧ a ≤ 20 then ipw 8 (a - 1) - 1 else 0

theorem pow8_le (a : Int) (h : 2 ≤ a ∧ a ≤ 20) : ipw 8 (a - 1) ≤ 144115188075855872 ∧ 1 ≤ ipw 8 (a - 1) := by
  have h1 := ipow_mono (a - 1).toNat 19 8 (by omega) (by omega)
  have h2 : (8 : Int) ^ 19 = 144115188075855872 := by decide +kernel
  unfold ipw; omega

/-! ### Pad -/
/-- What both Pads give. -/
def padF (n : Int) : Int := if n < 0 then 0 else (512 - n % 512) % 512

end Go.Proofs.Ytnjcefmmdghbmaa
end
section
/- Plain mathematics of octal fields: no program. -/
namespace Go.Proofs.Ytnjcefmmdghbmaa

/-- n / 8^k, behind a name. -/
def octn (n : Int) (k : Nat) : Int := n / 8 ^ k
theorem octn_zero (n : Int) : octn n 0 = n := by simp [octn]
theorem octn_succ (n : Int) (k : Nat) : octn n (k + 1) = octn n k / 8 := by
  unfold octn
  rw [Int.pow_succ, Int.ediv_ediv_of_nonneg (Int.pow_nonneg (by decide))]
theorem octn_le (n : Int) (h1 : 0 ≤ n) (h2 : n ≤ 9223372036854775807) (k : Nat) : 0 ≤ octn n k ∧ octn n k ≤ 9223372036854775807 := by
  induction k with
  | zero => rw [octn_zero]; exact ⟨h1, h2⟩
  | succ k ih => rw [octn_succ]; omega
theorem octn_mono (n : Int) (k d : Nat) (h : octn n k = 0) : octn n (k + d) = 0 := by
  induction d with
  | zero => exact h
  | succ d ih => rw [← Nat.add_assoc, octn_succ, ih]; rfl

/-- the k low octal digits of n as bytes, most significant first. -/
def octB (n : Int) : Nat → List Int
  | 0 => []
  | k + 1 => (48 + octn n k % 8) :: octB n k
theorem octB_length (n : Int) (k : Nat) : (octB n k).length = k := by
  induction k with
  | zero => rfl
  | succ k ih => simp [octB, ih]
theorem octB_range (n : Int) (k : Nat) : ∀ x ∈ octB n k, 48 ≤ x ∧ x ≤ 55 := by
  induction k with
  | zero => intro x hx; cases hx
  | succ k ih =>
    intro x hx
    rcases List.mem_cons.1 hx with rfl | h
    · omega
    · exact ih x h
theorem octB_pad (n : Int) (k d : Nat) (h : octn n k = 0) : octB n (k + d) = List.replicate d 48 ++ octB n k := by
  induction d with
  | zero => rfl
  | succ d ih =>
    rw [← Nat.add_assoc, octB, octn_mono n k d h, ih, List.replicate_succ, List.cons_append]
    rfl

def octNums (n : Int) (W : Nat) : List Int := octB n (W - 1) ++ [0]
theorem octNums_length (n : Int) (W : Nat) (h : 1 ≤ W) : (octNums n W).length = W := by simp [octNums, octB_length]; omega
def octRow (n : Int) (W k : Nat) : List Int := List.replicate (W - 1 - k) 0 ++ (octB n k ++ [0])
theorem octRow_length (n : Int) (W k : Nat) (hk : k ≤ W - 1) (h : 1 ≤ W) : (octRow n W k).length = W := by simp [octRow, octB_length]; omega
theorem octRow_start (n : Int) (W : Nat) (h : 1 ≤ W) : List.replicate W (0 : Int) = octRow n W 0 := by
  obtain ⟨V, rfl⟩ : ∃ V, W = V + 1 := ⟨W - 1, by omega⟩
  simp [octRow, octB, List.replicate_succ']
theorem octRow_done (n : Int) (W : Nat) : octRow n W (W - 1) = octNums n W := by simp [octRow, octNums]
theorem octRow_step (n : Int) (W k : Nat) (hk : k < W - 1) : (octRow n W k).set (W - 2 - k) (48 + octn n k % 8) = octRow n W (k + 1) := by
  obtain ⟨d, hd⟩ : ∃ d, W - 1 - k = d + 1 := ⟨W - 1 - k - 1, by omega⟩
  have hd2 : W - 1 - (k + 1) = d := by omega
  have hd3 : W - 2 - k = d := by omega
  unfold octRow
  rw [hd, hd2, hd3, List.replicate_succ', List.append_assoc]
  rw [List.set_append_right _ _ (by simp)]
  simp [octB]

theorem octn_pow (n : Int) (h : 0 ≤ n) (k : Nat) : octn n k = 0 ↔ n < 8 ^ k := by
  have hp : (0 : Int) < 8 ^ k := Int.pow_pos (by decide)
  unfold octn
  constructor
  · intro h0
    have := Int.lt_ediv_add_one_mul_self n hp
    rw [h0] at this; omega
  · intro h0
    exact Int.ediv_eq_zero_of_lt h h0
theorem octn_big (n : Int) (h1 : 0 ≤ n) (h2 : n ≤ 9223372036854775807) (k : Nat) (hk : 21 ≤ k) : octn n k = 0 := by
  have h : octn n 21 = 0 := by
    rw [octn_pow n h1]
    have : (8 : Int) ^ 21 = 9223372036854775808 := by decide +kernel
    omega
  have := octn_mono n 21 (k - 21) h
  rwa [show 21 + (k - 21) = k by omega] at this
theorem octn_pos_small (n : Int) (h1 : 0 ≤ n) (h2 : n ≤ 9223372036854775807) (k : Nat) (hk : 0 < octn n k) : k ≤ 20 := by
  rcases Nat.lt_or_ge k 21 with h | h
  · omega
  · have := octn_big n h1 h2 k h; omega
end Go.Proofs.Ytnjcefmmdghbmaa
end
section
/- Plain mathematics of reading numeric fields: no program. -/
namespace Go.Proofs.Ytnjcefmmdghbmaa

theorem drop_get (s : ByteArray) (k : Nat) (h : k < s.size) : s.data.toList.drop k = s[k] :: s.data.toList.drop (k + 1) := by
  have h' : k < s.data.toList.length := by simpa using h
  rw [List.drop_eq_getElem_cons h']; rfl
theorem drop_end (s : ByteArray) : s.data.toList.drop s.size = [] := by
  apply List.drop_of_length_le; simp

/-- bits joined: x * 256 | b. -/
theorem or_256 (n b : Int) (h1 : -36028797018963968 ≤ n) (h2 : n ≤ 36028797018963967) (h3 : 0 ≤ b) (h4 : b < 256) : bits .or .i64 (n * 256) b = n * 256 + b := by
  have key : (BitVec.ofInt 64 (n * 256) ||| BitVec.ofInt 64 b).toNat = (n % 72057594037927936).toNat * 256 + b.toNat := by
    rw [BitVec.toNat_or, BitVec.toNat_ofInt, BitVec.toNat_ofInt]
    have e1 : (n * 256 % ((2 ^ 64 : Nat) : Int)).toNat = (n % 72057594037927936).toNat <<< 8 := by rw [Nat.shiftLeft_eq]; omega
    have e2 : (b % ((2 ^ 64 : Nat) : Int)).toNat = b.toNat := by omega
    rw [e1, e2, ← Nat.shiftLeft_add_eq_or_of_lt (by omega : b.toNat < 2 ^ 8), Nat.shiftLeft_eq]
  show IntKind.i64.wrap ((BitVec.ofInt 64 (n * 256) ||| BitVec.ofInt 64 b).toNat : Nat) = _
  rw [key, IntKind.wrap_i64]
  omega
theorem or_8 (n b : Int) (h1 : 0 ≤ n) (h2 : n < 1152921504606846976) (h3 : 0 ≤ b) (h4 : b < 8) : bits .or .i64 (n * 8) b = n * 8 + b := by
  have key : (BitVec.ofInt 64 (n * 8) ||| BitVec.ofInt 64 b).toNat = n.toNat * 8 + b.toNat := by
    rw [BitVec.toNat_or, BitVec.toNat_ofInt, BitVec.toNat_ofInt]
    have e1 : (n * 8 % ((2 ^ 64 : Nat) : Int)).toNat = n.toNat <<< 3 := by rw [Nat.shiftLeft_eq]; omega
    have e2 : (b % ((2 ^ 64 : Nat) : Int)).toNat = b.toNat := by omega
    rw [e1, e2, ← Nat.shiftLeft_add_eq_or_of_lt (by omega : b.toNat < 2 ^ 3), Nat.shiftLeft_eq]
  show IntKind.i64.wrap ((BitVec.ofInt 64 (n * 8) ||| BitVec.ofInt 64 b).toNat : Nat) = _
  rw [key, IntKind.wrap_i64]
  omega

/-- octal digits read from n on: the number, and the error. -/
def roF : Int → List UInt8 → Int × Int
  | n, [] => (n, 0)
  | n, c :: l => if (c.toNat : Int) < 48 ∨ 55 < (c.toNat : Int) then (0, 3) else if 1152921504606846976 ≤ n then (0, 2) else roF (n * 8 + ((c.toNat : Int) - 48)) l
/-- base 256 read from n on. -/
def rbF : Int → List UInt8 → Int × Int
  | n, [] => (n, 0)
  | n, c :: l => if n < -36028797018963968 ∨ 36028797018963967 < n then (0, 2) else rbF (n * 256 + (c.toNat : Int)) l

theorem roF_bad {n : Int} {c : UInt8} {l : List UInt8} (h : (c.toNat : Int) < 48 ∨ 55 < (c.toNat : Int)) : roF n (c :: l) = (0, 3) := by rw [roF, if_pos h]
theorem roF_big {n : Int} {c : UInt8} {l : List UInt8} (h : ¬ ((c.toNat : Int) < 48 ∨ 55 < (c.toNat : Int))) (h2 : 1152921504606846976 ≤ n) : roF n (c :: l) = (0, 2) := by rw [roF, if_neg h, if_pos h2]
theorem roF_go {n : Int} {c : UInt8} {l : List UInt8} (h : ¬ ((c.toNat : Int) < 48 ∨ 55 < (c.toNat : Int))) (h2 : ¬ 1152921504606846976 ≤ n) : roF n (c :: l) = roF (n * 8 + ((c.toNat : Int) - 48)) l := by rw [roF, if_neg h, if_neg h2]
theorem rbF_big {n : Int} {c : UInt8} {l : List UInt8} (h : n < -36028797018963968 ∨ 36028797018963967 < n) : rbF n (c :: l) = (0, 2) := by rw [rbF, if_pos h]
theorem rbF_go {n : Int} {c : UInt8} {l : List UInt8} (h : ¬ (n < -36028797018963968 ∨ 36028797018963967 < n)) : rbF n (c :: l) = rbF (n * 256 + (c.toNat : Int)) l := by rw [rbF, if_neg h]

def trimL (l : List UInt8) : List UInt8 := Lib.trimLeftB l 32
def trimR (l : List UInt8) : List UInt8 := Lib.trimRightS l [32, 0]

/-- the first byte's number in base 256. -/
def firstF (c : UInt8) : Int := if (c.toNat : Int) = 255 then -1 else (c.toNat : Int) - 128
/-- What both readers give: the number, and the error. -/
def readF : List UInt8 → Int × Int
  | [] => (0, 3)
  | c :: r => if 128 ≤ (c.toNat : Int) then rbF (firstF c) r else roF 0 (trimR (trimL (c :: r)))
theorem readF_bin (c : UInt8) (r : List UInt8) (h : 128 ≤ c.toNat) : readF (c :: r) = rbF (firstF c) r := by
  show (if 128 ≤ (c.toNat : Int) then rbF (firstF c) r else roF 0 (trimR (trimL (c :: r)))) = _
  rw [if_pos (by omega)]
theorem readF_oct (c : UInt8) (r : List UInt8) (h : ¬ 128 ≤ c.toNat) : readF (c :: r) = roF 0 (trimR (trimL (c :: r))) := by
  show (if 128 ≤ (c.toNat : Int) then rbF (firstF c) r else roF 0 (trimR (trimL (c :: r)))) = _
  rw [if_neg (by omega)]

/-- x * 256 | b, unsigned. -/
theorem oru_256 (n b : Int) (h1 : 0 ≤ n) (h2 : n ≤ 72057594037927935) (h3 : 0 ≤ b) (h4 : b < 256) : bits .or .u64 (n * 256) b = n * 256 + b := by
  have key : (BitVec.ofInt 64 (n * 256) ||| BitVec.ofInt 64 b).toNat = n.toNat * 256 + b.toNat := by
    rw [BitVec.toNat_or, BitVec.toNat_ofInt, BitVec.toNat_ofInt]
    have e1 : (n * 256 % ((2 ^ 64 : Nat) : Int)).toNat = n.toNat <<< 8 := by rw [Nat.shiftLeft_eq]; omega
    have e2 : (b % ((2 ^ 64 : Nat) : Int)).toNat = b.toNat := by omega
    rw [e1, e2, ← Nat.shiftLeft_add_eq_or_of_lt (by omega : b.toNat < 2 ^ 8), Nat.shiftLeft_eq]
  show IntKind.u64.wrap ((BitVec.ofInt 64 (n * 256) ||| BitVec.ofInt 64 b).toNat : Nat) = _
  rw [key, IntWalk.u64_in _ ⟨by omega, by omega⟩]
  omega
theorem oru_0 (x : Int) (h1 : 0 ≤ x) (h2 : x ≤ 18446744073709551615) : bits .or .u64 0 x = x := by
  have key : (BitVec.ofInt 64 0 ||| BitVec.ofInt 64 x).toNat = x.toNat := by
    rw [BitVec.toNat_or, BitVec.toNat_ofInt, BitVec.toNat_ofInt]
    have e1 : ((0 : Int) % ((2 ^ 64 : Nat) : Int)).toNat = 0 := by omega
    have e2 : (x % ((2 ^ 64 : Nat) : Int)).toNat = x.toNat := by omega
    rw [e1, e2, Nat.zero_or]
  show IntKind.u64.wrap ((BitVec.ofInt 64 0 ||| BitVec.ofInt 64 x).toNat : Nat) = _
  rw [key, IntWalk.u64_in _ ⟨by omega, by omega⟩]
  omega
end Go.Proofs.Ytnjcefmmdghbmaa
end
section
/- Plain mathematics: what is written is read; the order of octal fields. No program. -/
namespace Go.Proofs.Ytnjcefmmdghbmaa

def u8 (n : Int) : UInt8 := UInt8.ofNat n.toNat
theorem u8_toNat (n : Int) (h1 : 0 ≤ n) (h2 : n ≤ 255) : ((u8 n).toNat : Int) = n := by
  unfold u8; rw [UInt8.toNat_ofNat']; omega
theorem strOf_list (x : List Int) : (strOfNums x).data.toList = x.map u8 := strOfNums_data x

theorem emod_mul' (n a b : Int) (ha : 0 ≤ a) : n % (a * b) = n % a + a * (n / a % b) := by
  rw [Int.emod_def, Int.emod_def n a, Int.emod_def (n / a) b, ← Int.ediv_ediv_of_nonneg ha, Int.mul_sub, Int.mul_assoc]
  omega
theorem octn_mod (n : Int) (k : Nat) : n % 8 ^ (k + 1) = octn n k % 8 * 8 ^ k + n % 8 ^ k := by
  have hp : (1 : Int) ≤ 8 ^ k := Int.pow_pos (by decide)
  unfold octn
  rw [Int.pow_succ, emod_mul' _ _ _ (by omega), Int.mul_comm]
  omega
theorem roF_octB (n : Int) : ∀ (k : Nat) (m : Int), 0 ≤ m → (m + 1) * 8 ^ k ≤ 1152921504606846976 → roF m ((octB n k).map u8) = (m * 8 ^ k + n % 8 ^ k, 0) := by
  intro k
  induction k with
  | zero => intro m h1 h2; simp [octB, roF, Int.emod_one]
  | succ k ih =>
    intro m h1 h2
    have hp : (1 : Int) ≤ 8 ^ k := Int.pow_pos (by decide)
    have hd : 0 ≤ octn n k % 8 ∧ octn n k % 8 ≤ 7 := by omega
    have hu : ((u8 (48 + octn n k % 8)).toNat : Int) = 48 + octn n k % 8 := u8_toNat _ (by omega) (by omega)
    have h8 : (8 : Int) ^ (k + 1) = 8 * 8 ^ k := by rw [Int.pow_succ, Int.mul_comm]
    have hm : m < 1152921504606846976 := by
      have h3 : (m + 1) * 8 ^ (k + 1) = (m + 1) * 8 * 8 ^ k := by rw [h8, Int.mul_assoc]
      have h4 : (m + 1) * 8 * 1 ≤ (m + 1) * 8 * 8 ^ k := Int.mul_le_mul_of_nonneg_left hp (by omega)
      omega
    rw [octB, List.map_cons, roF_go (by rw [hu]; omega) (by omega), hu]
    rw [show m * 8 + (48 + octn n k % 8 - 48) = m * 8 + octn n k % 8 by omega]
    have hle : (m * 8 + octn n k % 8 + 1) * 8 ^ k ≤ (m + 1) * 8 ^ (k + 1) := by
      rw [h8, ← Int.mul_assoc]
      exact Int.mul_le_mul_of_nonneg_right (by omega) (by omega)
    rw [ih _ (by omega) (by omega)]
    have hmod := octn_mod n k
    rw [hmod, h8, Int.add_mul, Int.mul_assoc, Int.add_assoc]

theorem rbF_beB (n : Int) (h1 : -9223372036854775808 ≤ n) (h2 : n ≤ 9223372036854775807) : ∀ k : Nat, rbF (shn n k) ((beB n k).map u8) = (n, 0) := by
  intro k
  induction k with
  | zero => rw [shn_zero]; rfl
  | succ k ih =>
    have hr := shn_le n h1 h2 k
    have hu : ((u8 (shn n k % 256)).toNat : Int) = shn n k % 256 := u8_toNat _ (by omega) (by omega)
    rw [beB, List.map_cons, shn_succ, rbF_go (by omega), hu]
    rw [show shn n k / 256 * 256 + shn n k % 256 = shn n k by omega]
    exact ih

theorem shn_top (n : Int) (W : Nat) (hW : 8 ≤ W) (h1 : -9223372036854775808 ≤ n) (h2 : n ≤ 9223372036854775807) (hr : W = 8 → -36028797018963968 ≤ n ∧ n ≤ 36028797018963967) : shn n (W - 1) = if n < 0 then -1 else 0 := by
  rcases Nat.lt_or_ge (W - 1) 8 with h | h
  · have : W = 8 := by omega
    subst this
    have := hr rfl
    simp only [shn_succ, shn_zero]
    split <;> omega
  · exact shn_big n h1 h2 _ h

theorem back_bin (n : Int) (W : Nat) (hW : 8 ≤ W) (h1 : -9223372036854775808 ≤ n) (h2 : n ≤ 9223372036854775807) (hr : W = 8 → -36028797018963968 ≤ n ∧ n ≤ 36028797018963967) : readF ((binNums n W).map u8) = (n, 0) := by
  have ht := shn_top n W hW h1 h2 hr
  have hm : ((u8 (markB n)).toNat : Int) = markB n := u8_toNat _ (by unfold markB; split <;> omega) (by unfold markB; split <;> omega)
  have hf : firstF (u8 (markB n)) = shn n (W - 1) := by
    unfold firstF
    rw [hm, ht]
    unfold markB
    by_cases hn : n < 0
    · rw [if_pos hn, if_pos rfl, if_pos hn]
    · rw [if_neg hn, if_neg (by omega), if_neg hn]; rfl
  unfold binNums
  rw [List.map_cons, readF_bin _ _ (by have : 128 ≤ markB n := by unfold markB; split <;> omega
                                       omega), hf]
  exact rbF_beB n h1 h2 _

/-- octal digits: neither blank nor zero byte. -/
theorem octU_mem (n : Int) (k : Nat) : ∀ c ∈ (octB n k).map u8, 48 ≤ c.toNat ∧ c.toNat ≤ 55 := by
  intro c hc
  obtain ⟨x, hx, rfl⟩ := List.mem_map.1 hc
  have := octB_range n k x hx
  have := u8_toNat x (by omega) (by omega)
  omega
theorem dropWhile_rep {p : UInt8 → Bool} (c : UInt8) (hc : p c = true) (q : Nat) (l : List UInt8) (hl : ∀ x, l.head? = some x → p x = false) : (List.replicate q c ++ l).dropWhile p = l := by
  induction q with
  | zero =>
    cases l with
    | nil => rfl
    | cons x r => simp [hl x rfl]
  | succ q ih => rw [List.replicate_succ, List.cons_append, List.dropWhile_cons_of_pos hc, ih]
theorem head_last (l : List UInt8) (P : UInt8 → Bool) (h : ∀ x ∈ l, P x = false) : ∀ x, l.reverse.head? = some x → P x = false := by
  intro x hx
  refine h x ?_
  have := List.mem_of_head? hx
  exact List.mem_reverse.1 this
theorem head_first (l : List UInt8) (P : UInt8 → Bool) (h : ∀ x ∈ l, P x = false) : ∀ x, l.head? = some x → P x = false := fun x hx => h x (List.mem_of_head? hx)

theorem trim_digits (n : Int) (k p q : Nat) (c : UInt8) (hc : c = 32 ∨ c = 0) : trimR (trimL (List.replicate p 32 ++ ((octB n k).map u8 ++ List.replicate q c))) = (octB n k).map u8 ∨ k = 0 := by
  rcases Nat.eq_zero_or_pos k with h | hk
  · exact .inr h
  refine .inl ?_
  have hm := octU_mem n k
  have hl : ((octB n k).map u8).length = k := by simp [octB_length]
  generalize (octB n k).map u8 = l at hm hl
  have e1 : trimL (List.replicate p 32 ++ (l ++ List.replicate q c)) = l ++ List.replicate q c := by
    unfold trimL Lib.trimLeftB
    refine dropWhile_rep 32 rfl p _ ?_
    intro x hx
    cases l with
    | nil => simp at hl; omega
    | cons y r =>
      simp at hx
      subst hx
      have := hm y (by simp)
      rw [beq_eq_false_iff_ne]
      rintro rfl
      simp at this
  rw [e1]
  unfold trimR Lib.trimRightS
  rw [List.reverse_append, List.reverse_replicate]
  rw [dropWhile_rep c (by rcases hc with rfl | rfl <;> rfl) q]
  · exact List.reverse_reverse l
  · refine head_last l _ fun x hx => ?_
    have := hm x hx
    have h1 : x ≠ 32 := by rintro rfl; simp at this
    have h2 : x ≠ 0 := by rintro rfl; simp at this
    simp [h1, h2]

theorem readF_digits (n : Int) (k p q : Nat) (c : UInt8) (hc : c = 32 ∨ c = 0) (h1 : 0 ≤ n) (h2 : n < 8 ^ k) (hk : 1 ≤ k) (hk2 : k ≤ 19) :
    readF (List.replicate p 32 ++ ((octB n k).map u8 ++ List.replicate q c)) = (n, 0) := by
  have ht := (trim_digits n k p q c hc).resolve_right (by omega)
  have hro : roF 0 ((octB n k).map u8) = (n, 0) := by
    have h8 : (8 : Int) ^ k ≤ 8 ^ 19 := by
      have := Nat.pow_le_pow_right (n := 8) (by decide) hk2
      exact_mod_cast this
    have h9 : (8 : Int) ^ 19 = 144115188075855872 := by decide +kernel
    rw [roF_octB n k 0 (by omega) (by omega), Int.emod_eq_of_lt h1 h2, Int.zero_mul, Int.zero_add]
  generalize hL : List.replicate p 32 ++ ((octB n k).map u8 ++ List.replicate q c) = L at ht ⊢
  cases L with
  | nil =>
    have := congrArg List.length hL
    simp [octB_length] at this
    omega
  | cons x r =>
    have hx : x.toNat < 128 := by
      have hmem : x ∈ List.replicate p 32 ++ ((octB n k).map u8 ++ List.replicate q c) := by rw [hL]; simp
      rcases List.mem_append.1 hmem with h | h
      · rw [(List.mem_replicate.1 h).2]; decide
      · rcases List.mem_append.1 h with h | h
        · have := octU_mem n k x h; omega
        · rw [(List.mem_replicate.1 h).2]; rcases hc with rfl | rfl <;> decide
    rw [readF_oct _ _ (by omega), ht, hro]

theorem back_oct (n : Int) (W : Nat) (hW1 : 2 ≤ W) (hW2 : W ≤ 20) (h1 : 0 ≤ n) (h2 : n < 8 ^ (W - 1)) : readF ((octNums n W).map u8) = (n, 0) := by
  have := readF_digits n (W - 1) 0 1 0 (.inr rfl) h1 h2 (by omega) (by omega)
  unfold octNums
  rw [List.map_append]
  exact this

/-- two fields of one width, in octal: as the numbers stand, so do they. -/
theorem bytesLess_self (t : List UInt8) : Op.bytesLess t t = false := by
  induction t with
  | nil => rfl
  | cons c r ih => simp [Op.bytesLess, ih]
theorem less_octB (a b : Int) (t : List UInt8) : ∀ k : Nat, Op.bytesLess ((octB a k).map u8 ++ t) ((octB b k).map u8 ++ t) = decide (a % 8 ^ k < b % 8 ^ k) := by
  intro k
  induction k with
  | zero => simp [octB, bytesLess_self, Int.emod_one]
  | succ k ih =>
    have hp : (1 : Int) ≤ 8 ^ k := Int.pow_pos (by decide)
    have hda : 0 ≤ octn a k % 8 ∧ octn a k % 8 ≤ 7 := by omega
    have hdb : 0 ≤ octn b k % 8 ∧ octn b k % 8 ≤ 7 := by omega
    have hua : ((u8 (48 + octn a k % 8)).toNat : Int) = 48 + octn a k % 8 := u8_toNat _ (by omega) (by omega)
    have hub : ((u8 (48 + octn b k % 8)).toNat : Int) = 48 + octn b k % 8 := u8_toNat _ (by omega) (by omega)
    have ha := Int.emod_nonneg a (show (8 : Int) ^ k ≠ 0 by omega)
    have ha2 := Int.emod_lt_of_pos a (show (0 : Int) < 8 ^ k by omega)
    have hb := Int.emod_nonneg b (show (8 : Int) ^ k ≠ 0 by omega)
    have hb2 := Int.emod_lt_of_pos b (show (0 : Int) < 8 ^ k by omega)
    rw [octn_mod a k, octn_mod b k, octB, octB, List.map_cons, List.map_cons, List.cons_append, List.cons_append, Op.bytesLess, ih]
    generalize octn a k % 8 = x at *
    generalize octn b k % 8 = y at *
    generalize (8 : Int) ^ k = P at *
    generalize a % P = u at *
    generalize b % P = v at *
    by_cases hxy : x = y
    · subst hxy
      have h1 : ¬ u8 (48 + x) < u8 (48 + x) := UInt8.lt_irrefl _
      simp [h1]
    · have hne : u8 (48 + x) ≠ u8 (48 + y) := fun e => hxy (by rw [e] at hua; omega)
      have hbq : (u8 (48 + x) == u8 (48 + y)) = false := by rw [beq_eq_false_iff_ne]; exact hne
      rw [hbq, Bool.false_and, Bool.or_false]
      rcases Int.lt_or_gt_of_ne hxy with h | h
      · have h1 : u8 (48 + x) < u8 (48 + y) := by rw [UInt8.lt_iff_toNat_lt]; omega
        have h2 : x * P + u < y * P + v := by
          have : (x + 1) * P ≤ y * P := Int.mul_le_mul_of_nonneg_right (by omega) (by omega)
          rw [Int.add_mul] at this; omega
        simp [h1, h2]
      · have h1 : ¬ u8 (48 + x) < u8 (48 + y) := by rw [UInt8.lt_iff_toNat_lt]; omega
        have h2 : ¬ x * P + u < y * P + v := by
          have : (y + 1) * P ≤ x * P := Int.mul_le_mul_of_nonneg_right (by omega) (by omega)
          rw [Int.add_mul] at this; omega
        simp [h1, h2]
theorem less_oct (a b : Int) (W : Nat) (ha : 0 ≤ a) (hb : 0 ≤ b) (ha2 : a < 8 ^ (W - 1)) (hb2 : b < 8 ^ (W - 1)) : Op.bytesLess (strOfNums (octNums a W)).toList (strOfNums (octNums b W)).toList = decide (a < b) := by
  rw [ByteArray.toList_eq, ByteArray.toList_eq, strOf_list, strOf_list]
  unfold octNums
  rw [List.map_append, List.map_append, less_octB, Int.emod_eq_of_lt ha ha2, Int.emod_eq_of_lt hb hb2]
end Go.Proofs.Ytnjcefmmdghbmaa
end
section
/- Plain mathematics of header sums: no program. -/
namespace Go.Proofs.Ytnjcefmmdghbmaa

/-- byte k of a list, 0 behind its end. -/
def bAt (l : List UInt8) (k : Nat) : Int := ((l.getD k 0).toNat : Int)
theorem bAt_range (l : List UInt8) (k : Nat) : 0 ≤ bAt l k ∧ bAt l k ≤ 255 := by
  unfold bAt; have := (l.getD k 0).toNat_lt; omega
theorem bAt_get (s : ByteArray) (k : Nat) (h : k < s.size) : (s[k].toNat : Int) = bAt s.data.toList k := by
  have h' : k < s.data.toList.length := by simpa using h
  unfold bAt
  rw [List.getD_eq_getElem?_getD, List.getElem?_eq_getElem h']; rfl
/-- a byte's value, signed or not. -/
def bv (sg : Bool) (c : Int) : Int := if sg = true ∧ 128 ≤ c then c - 256 else c
theorem bv_range (sg : Bool) (c : Int) (h1 : 0 ≤ c) (h2 : c ≤ 255) : -128 ≤ bv sg c ∧ bv sg c ≤ 255 := by
  unfold bv; split <;> omega
/-- the sum of the first k bytes, those of the checksum as blanks. -/
def sumC (sg : Bool) (l : List UInt8) : Nat → Int
  | 0 => 0
  | k + 1 => sumC sg l k + if 148 ≤ k ∧ k < 156 then 32 else bv sg (bAt l k)
/-- the same by 256 and without those of the checksum. -/
def sumR (sg : Bool) (l : List UInt8) : Nat → Int
  | 0 => 256
  | k + 1 => sumR sg l k + if 148 ≤ k ∧ k < 156 then 0 else bv sg (bAt l k)
theorem sumC_range (sg : Bool) (l : List UInt8) (k : Nat) : -128 * (k : Int) ≤ sumC sg l k ∧ sumC sg l k ≤ 255 * (k : Int) := by
  induction k with
  | zero => exact ⟨by simp [sumC], by simp [sumC]⟩
  | succ k ih =>
    have hb := bAt_range l k
    have := bv_range sg (bAt l k) hb.1 hb.2
    rw [sumC]
    split <;> constructor <;> omega
theorem sumR_sumC (sg : Bool) (l : List UInt8) (k : Nat) : sumR sg l k = sumC sg l k + 256 - 32 * ((min (k - 148) 8 : Nat) : Int) := by
  induction k with
  | zero => simp [sumR, sumC]
  | succ k ih =>
    rw [sumR, sumC, ih]
    split <;> omega
theorem sumR_range (sg : Bool) (l : List UInt8) (k : Nat) : -128 * (k : Int) ≤ sumR sg l k ∧ sumR sg l k ≤ 255 * (k : Int) + 256 := by
  have h := sumC_range sg l k
  rw [sumR_sumC]; omega
/-- a header's sum. -/
def sumH (sg : Bool) (s : ByteArray) : Int := sumC sg s.data.toList 512
theorem sumR_done (sg : Bool) (s : ByteArray) : sumR sg s.data.toList 512 = sumH sg s := by
  rw [sumR_sumC]; unfold sumH; omega
theorem sumH_range (sg : Bool) (s : ByteArray) : -65536 ≤ sumH sg s ∧ sumH sg s ≤ 130560 := by
  have := sumC_range sg s.data.toList 512
  unfold sumH; omega
theorem sumC_in (sg : Bool) (l : List UInt8) (k : Nat) (h : 148 ≤ k ∧ k < 156) : sumC sg l (k + 1) = sumC sg l k + 32 := by rw [sumC, if_pos h]
theorem sumC_out (sg : Bool) (l : List UInt8) (k : Nat) (h : ¬ (148 ≤ k ∧ k < 156)) : sumC sg l (k + 1) = sumC sg l k + bv sg (bAt l k) := by rw [sumC, if_neg h]
theorem sumR_in (sg : Bool) (l : List UInt8) (k : Nat) (h : 148 ≤ k ∧ k < 156) : sumR sg l (k + 1) = sumR sg l k := by rw [sumR, if_pos h, Int.add_zero]
theorem sumR_out (sg : Bool) (l : List UInt8) (k : Nat) (h : ¬ (148 ≤ k ∧ k < 156)) : sumR sg l (k + 1) = sumR sg l k + bv sg (bAt l k) := by rw [sumR, if_neg h]
theorem bv_u (c : Int) : bv false c = c := by simp [bv]
theorem bv_low (sg : Bool) (c : Int) (h : c < 128) : bv sg c = c := by unfold bv; rw [if_neg (by omega)]
theorem bv_high (c : Int) (h : 128 ≤ c) : bv true c = c - 256 := by unfold bv; rw [if_pos ⟨rfl, h⟩]
theorem i8_high (c : Int) (h : 128 ≤ c) (h2 : c ≤ 255) : IntKind.i8.wrap c = c - 256 := by
  simp only [IntKind.wrap, IntKind.bits, IntKind.signed]; simp; split <;> omega
end Go.Proofs.Ytnjcefmmdghbmaa
end
section
/- Plain mathematics: a sealed header is right; one byte bent; two bytes swapped; parts. No program. -/
namespace Go.Proofs.Ytnjcefmmdghbmaa

/-- octal digits with blanks or zero bytes behind. -/
theorem trim_digitsT (n : Int) (k : Nat) (hk : 1 ≤ k) (T : List UInt8) (hT : ∀ c ∈ T, c = 32 ∨ c = 0) : trimR (trimL ((octB n k).map u8 ++ T)) = (octB n k).map u8 := by
  have hm := octU_mem n k
  have hl : ((octB n k).map u8).length = k := by simp [octB_length]
  generalize (octB n k).map u8 = l at hm hl
  have e1 : trimL (l ++ T) = l ++ T := by
    unfold trimL Lib.trimLeftB
    cases l with
    | nil => simp at hl; omega
    | cons y r =>
      rw [List.cons_append, List.dropWhile_cons_of_neg]
      have := hm y (by simp)
      intro h
      have h2 : y = 32 := by simpa using h
      subst h2
      simp at this
  rw [e1]
  unfold trimR Lib.trimRightS
  rw [List.reverse_append]
  have hT2 : ∀ (R : List UInt8), (∀ c ∈ R, c = 32 ∨ c = 0) → ∀ (X : List UInt8) (p : UInt8 → Bool), (∀ c, (c = 32 ∨ c = 0) → p c = true) → (∀ x, X.head? = some x → p x = false) → (R ++ X).dropWhile p = X := by
    intro R
    induction R with
    | nil =>
      intro _ X p _ hX
      cases X with
      | nil => rfl
      | cons x r => simp [hX x rfl]
    | cons c R ih =>
      intro hR X p hp hX
      rw [List.cons_append, List.dropWhile_cons_of_pos (hp c (hR c (by simp)))]
      exact ih (fun c hc => hR c (by simp [hc])) X p hp hX
  rw [hT2 T.reverse (fun c hc => hT c (List.mem_reverse.1 hc)) l.reverse]
  · exact List.reverse_reverse l
  · rintro c (rfl | rfl) <;> rfl
  · refine head_last l _ fun x hx => ?_
    have := hm x hx
    have h1 : x ≠ 32 := by rintro rfl; simp at this
    have h2 : x ≠ 0 := by rintro rfl; simp at this
    simp [h1, h2]

theorem readF_digitsT (n : Int) (k : Nat) (T : List UInt8) (hT : ∀ c ∈ T, c = 32 ∨ c = 0) (h1 : 0 ≤ n) (h2 : n < 8 ^ k) (hk : 1 ≤ k) (hk2 : k ≤ 19) :
    readF ((octB n k).map u8 ++ T) = (n, 0) := by
  have ht := trim_digitsT n k hk T hT
  have hro : roF 0 ((octB n k).map u8) = (n, 0) := by
    have h8 : (8 : Int) ^ k ≤ 8 ^ 19 := by
      have := Nat.pow_le_pow_right (n := 8) (by decide) hk2
      exact_mod_cast this
    have h9 : (8 : Int) ^ 19 = 144115188075855872 := by decide +kernel
    rw [roF_octB n k 0 (by omega) (by omega), Int.emod_eq_of_lt h1 h2, Int.zero_mul, Int.zero_add]
  generalize hL : (octB n k).map u8 ++ T = L at ht ⊢
  cases L with
  | nil =>
    have := congrArg List.length hL
    simp [octB_length] at this
    omega
  | cons x r =>
    have hx : x.toNat < 128 := by
      have hmem : x ∈ (octB n k).map u8 ++ T := by rw [hL]; simp
      rcases List.mem_append.1 hmem with h | h
      · have := octU_mem n k x h; omega
      · rcases hT x h with rfl | rfl <;> decide
    rw [readF_oct _ _ (by omega), ht, hro]

/-- the checksum's field. -/
def fieldL (l : List UInt8) : List UInt8 := (l.drop 148).take 8
/-- the sealed header. -/
def sealL (l : List UInt8) : List UInt8 := l.take 148 ++ (octNums (sumC false l 512) 7).map u8 ++ [32] ++ l.drop 156
/-- right: the field is one of the sums. -/
def rightL (l : List UInt8) : Prop := l.length = 512 ∧ (readF (fieldL l)).2 = 0 ∧ ((readF (fieldL l)).1 = sumC false l 512 ∨ (readF (fieldL l)).1 = sumC true l 512)

theorem sealL_length (l : List UInt8) (h : l.length = 512) : (sealL l).length = 512 := by
  simp [sealL, octNums_length, h]
theorem sealL_low (l : List UInt8) (h : l.length = 512) (k : Nat) (hk : k < 148) : (sealL l)[k]? = l[k]? := by
  unfold sealL
  rw [List.append_assoc, List.append_assoc, List.getElem?_append_left (by simp; omega), List.getElem?_take_of_lt hk]
theorem sealL_high (l : List UInt8) (h : l.length = 512) (k : Nat) (hk : 156 ≤ k) : (sealL l)[k]? = l[k]? := by
  unfold sealL
  rw [List.getElem?_append_right (by simp [octNums_length]; omega), List.getElem?_drop]
  congr 1
  simp [octNums_length]; omega
theorem bAt_congr (l m : List UInt8) (k : Nat) (h : l[k]? = m[k]?) : bAt l k = bAt m k := by
  unfold bAt; rw [List.getD_eq_getElem?_getD, List.getD_eq_getElem?_getD, h]
theorem sumC_congr (sg : Bool) (l m : List UInt8) (n : Nat) (h : ∀ k, k < n → ¬ (148 ≤ k ∧ k < 156) → bAt l k = bAt m k) : sumC sg l n = sumC sg m n := by
  induction n with
  | zero => rfl
  | succ n ih =>
    rw [sumC, sumC, ih fun k hk => h k (by omega)]
    split
    · rfl
    · next hn => rw [h n (by omega) hn]
theorem sumC_seal (sg : Bool) (l : List UInt8) (h : l.length = 512) : sumC sg (sealL l) 512 = sumC sg l 512 :=
  sumC_congr sg _ _ 512 fun k _ hn => bAt_congr _ _ _ (by
    rcases Nat.lt_or_ge k 148 with hk | hk
    · exact sealL_low l h k hk
    · exact sealL_high l h k (by omega))
theorem fieldL_seal (l : List UInt8) (h : l.length = 512) : fieldL (sealL l) = (octB (sumC false l 512) 6).map u8 ++ [0, 32] := by
  have e : sealL l = l.take 148 ++ (((octB (sumC false l 512) 6).map u8 ++ [0, 32]) ++ l.drop 156) := by
    unfold sealL octNums
    simp [u8]
  unfold fieldL
  rw [e, List.drop_left' (by simp; omega), List.take_left' (by simp [octB_length])]
theorem sumC_low (l : List UInt8) (n : Nat) : 0 ≤ sumC false l n := by
  induction n with
  | zero => simp [sumC]
  | succ n ih =>
    have hb := bAt_range l n
    rw [sumC, bv_u]
    split <;> omega
theorem readF_seal (l : List UInt8) (h : l.length = 512) : readF (fieldL (sealL l)) = (sumC false l 512, 0) := by
  rw [fieldL_seal l h]
  have h1 := sumC_low l 512
  have h2 := sumC_range false l 512
  have h8 : (8 : Int) ^ 6 = 262144 := by decide +kernel
  exact readF_digitsT _ 6 [0, 32] (by intro c hc; simp at hc; rcases hc with rfl | rfl <;> simp) h1 (by omega) (by omega) (by omega)
theorem rightL_seal (l : List UInt8) (h : l.length = 512) : rightL (sealL l) := by
  refine ⟨sealL_length l h, ?_, .inl ?_⟩
  · rw [readF_seal l h]
  · rw [readF_seal l h, sumC_seal false l h]

/-- one byte bent: what the sum is. -/
theorem bAt_set_ne (l : List UInt8) (i k : Nat) (c : UInt8) (h : k ≠ i) : bAt (l.set i c) k = bAt l k :=
  bAt_congr _ _ _ (by rw [List.getElem?_set_ne (by omega)])
theorem bAt_set_eq (l : List UInt8) (i : Nat) (c : UInt8) (h : i < l.length) : bAt (l.set i c) i = (c.toNat : Int) := by
  unfold bAt; rw [List.getD_eq_getElem?_getD, List.getElem?_set_self h]; rfl
theorem sumC_set (sg : Bool) (l : List UInt8) (i : Nat) (c : UInt8) (hi : i < l.length) (hn : ¬ (148 ≤ i ∧ i < 156)) (n : Nat) :
    sumC sg (l.set i c) n = if i < n then sumC sg l n + bv sg (c.toNat : Int) - bv sg (bAt l i) else sumC sg l n := by
  induction n with
  | zero => simp [sumC]
  | succ n ih =>
    rw [sumC, sumC, ih]
    by_cases h : i = n
    · subst h
      rw [if_neg hn, if_neg hn, if_neg (show ¬ i < i by omega), if_pos (show i < i + 1 by omega), bAt_set_eq l i c hi]; omega
    · rw [bAt_set_ne l i n c (by omega)]
      by_cases h2 : i < n
      · rw [if_pos h2, if_pos (show i < n + 1 by omega)]; omega
      · rw [if_neg h2, if_neg (show ¬ i < n + 1 by omega)]
/-- signed and unsigned differ by a multiple of 256. -/
theorem sumC_signed (l : List UInt8) (n : Nat) : ∃ K : Int, 0 ≤ K ∧ sumC true l n = sumC false l n - 256 * K := by
  induction n with
  | zero => exact ⟨0, by omega, rfl⟩
  | succ n ih =>
    obtain ⟨K, h1, h2⟩ := ih
    rw [sumC, sumC]
    split
    · exact ⟨K, h1, by omega⟩
    · by_cases hb : 128 ≤ bAt l n
      · exact ⟨K + 1, by omega, by rw [bv_u, bv_high _ hb]; omega⟩
      · exact ⟨K, h1, by rw [bv_u, bv_low _ _ (by omega)]; omega⟩
theorem fieldL_set (l : List UInt8) (i : Nat) (c : UInt8) (hn : ¬ (148 ≤ i ∧ i < 156)) : fieldL (l.set i c) = fieldL l := by
  unfold fieldL
  apply List.ext_getElem?
  intro k
  by_cases hk : k < 8
  · rw [List.getElem?_take_of_lt hk, List.getElem?_take_of_lt hk, List.getElem?_drop, List.getElem?_drop, List.getElem?_set_ne (by omega)]
  · rw [List.getElem?_eq_none (by rw [List.length_take]; omega), List.getElem?_eq_none (by rw [List.length_take]; omega)]
theorem set_same (l : List UInt8) (i : Nat) (c : UInt8) (hi : i < l.length) : l.set i c = l ↔ (c.toNat : Int) = bAt l i := by
  have hb : bAt l i = (l[i].toNat : Int) := by unfold bAt; rw [List.getD_eq_getElem?_getD, List.getElem?_eq_getElem hi]; rfl
  rw [hb]
  constructor
  · intro e
    have := congrArg (fun m => m[i]?) e
    simp only [List.getElem?_set_self hi, List.getElem?_eq_getElem hi] at this
    rw [Option.some.inj this]
  · intro e
    have : c = l[i] := UInt8.toNat_inj.1 (by omega)
    rw [this, List.set_getElem_self]
theorem rightL_bent (l : List UInt8) (h : l.length = 512) (i : Nat) (c : UInt8) (hi : i < 512) (hn : ¬ (148 ≤ i ∧ i < 156)) :
    rightL ((sealL l).set i c) ↔ (sealL l).set i c = sealL l := by
  have hs := sealL_length l h
  have hr := readF_seal l h
  have h3 := sumC_seal false l h
  generalize sealL l = m at hs hr h3
  rw [set_same m i c (by omega)]
  unfold rightL
  rw [fieldL_set m i c hn, hr, List.length_set]
  have hf := sumC_set false m i c (by omega) hn 512
  have ht := sumC_set true m i c (by omega) hn 512
  rw [if_pos hi] at hf ht
  obtain ⟨K, hK, hKe⟩ := sumC_signed (m.set i c) 512
  rw [bv_u, bv_u] at hf
  have hb := bAt_range m i
  have hc := c.toNat_lt
  constructor
  · rintro ⟨-, -, h5 | h5⟩
    · simp only at h5; omega
    · simp only at h5; omega
  · intro e
    exact ⟨hs, rfl, .inl (by simp only; omega)⟩
/-- two bytes swapped. -/
theorem rightL_swap (l : List UInt8) (h : l.length = 512) (a b : Nat) (ca cb : UInt8) (ha : a < 148) (hb1 : 156 ≤ b) (hb2 : b < 512) (hca : (sealL l)[a]? = some ca) (hcb : (sealL l)[b]? = some cb) :
    rightL (((sealL l).set a cb).set b ca) := by
  have hs := sealL_length l h
  have hr := readF_seal l h
  have h3 := sumC_seal false l h
  generalize sealL l = m at hs hr h3 hca hcb
  unfold rightL
  rw [fieldL_set _ b ca (by omega), fieldL_set _ a cb (by omega), hr, List.length_set, List.length_set]
  refine ⟨hs, rfl, .inl ?_⟩
  have e1 := sumC_set false m a cb (by omega) (by omega) 512
  have e2 := sumC_set false (m.set a cb) b ca (by simp; omega) (by omega) 512
  rw [if_pos (by omega), bv_u, bv_u] at e1 e2
  rw [bAt_set_ne m a b cb (by omega)] at e2
  have ea : bAt m a = (ca.toNat : Int) := by unfold bAt; rw [List.getD_eq_getElem?_getD, hca]; rfl
  have eb : bAt m b = (cb.toNat : Int) := by unfold bAt; rw [List.getD_eq_getElem?_getD, hcb]; rfl
  simp only
  omega
/-- parts. -/
theorem sumC_parts (sg : Bool) (l a b : List UInt8) (n : Nat) (h : ∀ k, k < n → (bAt a k = 0 ∧ bAt b k = bAt l k) ∨ (bAt a k = bAt l k ∧ bAt b k = 0)) :
    sumC sg a n + sumC sg b n = sumC sg l n + 32 * ((min (n - 148) 8 : Nat) : Int) := by
  induction n with
  | zero => simp [sumC]
  | succ n ih =>
    have := ih fun k hk => h k (by omega)
    have hz : bv sg 0 = 0 := by unfold bv; split <;> omega
    rw [sumC, sumC, sumC]
    split
    · omega
    · rcases h n (by omega) with ⟨e1, e2⟩ | ⟨e1, e2⟩ <;> rw [e1, e2, hz] <;> omega

/-- 512 letters a. -/
theorem sumC_rep (sg : Bool) (n : Nat) (hn : n ≤ 512) : sumC sg (List.replicate 512 97) n = 97 * (n : Int) - 65 * ((min (n - 148) 8 : Nat) : Int) := by
  induction n with
  | zero => simp [sumC]
  | succ n ih =>
    have hb : bAt (List.replicate 512 97) n = 97 := by
      unfold bAt; rw [List.getD_eq_getElem?_getD, List.getElem?_replicate, if_pos (by omega)]; rfl
    rw [sumC, ih (by omega), hb, bv_low _ _ (by omega)]
    split <;> omega
theorem field_rep : fieldL (List.replicate 512 97) = List.replicate 8 97 := by
  unfold fieldL; rw [List.drop_replicate, List.take_replicate]; rfl
theorem right_rep : ¬ rightL (List.replicate 512 97) := by
  rintro ⟨-, h, -⟩
  rw [field_rep] at h
  revert h
  decide +kernel
end Go.Proofs.Ytnjcefmmdghbmaa
end
section
/- Contracts of number.Most, revetmentref.Most, within, power: what each returns, for every int. -/
namespace Go.Proofs.Ytnjcefmmdghbmaa
open Go.RowKit

/-! ### Pad -/
end Go.Proofs.Ytnjcefmmdghbmaa
end
