/- Ba: what the texts of the name hold, joined. -/
import Derived.Test.YthnonmniponahaaGreatDoorQShelf
import Derived.Test.YthnonmniponahaaGreatDoorProg
import Derived.WalkKit
import Derived.ProofKit
import Derived.OpenShut
import Derived.LoopTactic
import Derived.Lib.Hide
import Derived.Lib.SmallJoins
import Derived.BigRegion
import Derived.BigQuiet
import Derived.Deep.QuietTactic
import Derived.Lib.QuietBelow
import Derived.Laws.Concat
import Derived.Laws.DeepStrings4
import Derived.Lib.Strings
import Derived.Lib.IndexBytes
import Derived.Lib.ItoaNum
import Derived.Laws.BytesArg
import Derived.IntWalk
import Derived.LaidEql
import Derived.Stop.Asserts
import Derived.RowKitTokens
import Derived.Handy
import Derived.Outline
import Derived.Lib.SlTrimSet
import Derived.Laws.BitsAllLaws
import Derived.Laws.Bits64b
import Derived.Lib.IfaceEq
import Derived.Shelf.Strings.SlTrimAscii
import Derived.Lib.ConvBytes
import Derived.Stop.IfaceNil
import Derived.Test.YthnonmniponahaaGreatDoorRows
import Derived.Shelf.Strings.Builder2
import Derived.Deep.RegionWith
section
/- Texts as lists of bytes; decimal digits; pairs of texts (api.Pair) as values. -/
namespace Go.Proofs.YthnonmniponahaaGreatDoor
open Go.RowKit Go.Joins
/-- a text of these bytes, behind a name. -/
def mkS (l : List UInt8) : ByteArray := ⟨l.toArray⟩
theorem mkS_self (s : ByteArray) : mkS s.data.toList = s := by cases s; simp [mkS]
theorem mkS_list (l : List UInt8) : (mkS l).data.toList = l := by simp [mkS]
theorem mkS_size (l : List UInt8) : (mkS l).size = l.length := by show l.toArray.size = _; simp
theorem mkS_index (l : List UInt8) (i : Int) (c : UInt8) (h0 : 0 ≤ i) (h : l[i.toNat]? = some c) (w : World) : (Instr.index 9 (.string (mkS l)) (.int .i64 i)).run Tryz.prog w = .ok (.int .u8 (c.toNat : Int)) w := by
  obtain ⟨h1, h2⟩ := List.getElem?_eq_some_iff.1 h
  rw [run_index_string w 9 _ .i64 _ Tryz.underlying9, dif_pos ⟨h0, by rw [mkS_size]; omega⟩]
  have : (mkS l)[i.toNat]'(by rw [mkS_size]; exact h1) = c := by rw [← h2]; rfl
  rw [this]
theorem mkS_upto (l : List UInt8) (j : Nat) (h : j ≤ l.length) (w : World) : (Instr.slice 9 (.string (mkS l)) none (some (.int .i64 (j : Int))) none).run Tryz.prog w = .ok (.string (mkS (l.take j))) w := by
  rw [run_slice_string_to_if w 9 _ .i64 _ Tryz.underlying9, if_pos ⟨by omega, by rw [mkS_size]; omega⟩]
  have : (mkS l).extract 0 (j : Int).toNat = mkS (l.take j) := by
    rw [← mkS_self ((mkS l).extract 0 (j : Int).toNat), Lib.extract_data, mkS_list]
    simp
  rw [this]
theorem mkS_onward (l : List UInt8) (j : Nat) (h : j ≤ l.length) (w : World) : (Instr.slice 9 (.string (mkS l)) (some (.int .i64 (j : Int))) none none).run Tryz.prog w = .ok (.string (mkS (l.drop j))) w := by
  rw [run_slice_string_from_if w 9 _ .i64 _ Tryz.underlying9, if_pos ⟨by omega, by rw [mkS_size]; omega⟩]
  have : (mkS l).extract (j : Int).toNat (mkS l).size = mkS (l.drop j) := by
    rw [← mkS_self ((mkS l).extract (j : Int).toNat (mkS l).size), Lib.extract_to_end, mkS_list]
    simp
  rw [this]
theorem mkS_cat (x y : List UInt8) (h : x.length + y.length ≤ 1000000) (w : World) : (Op.stringOp .add (mkS x) (mkS y)).run Tryz.prog w = .ok (.string (mkS (x ++ y))) w := by
  unfold mkS
  rw [run_string_add_sum _ _ _ (by show x.toArray.size + y.toArray.size ≤ _; simp; omega), ByteArray.mk_append_mk]

theorem mkS_mid (l : List UInt8) (i j : Nat) (hi : i ≤ j) (h : j ≤ l.length) (w : World) : (Instr.slice 9 (.string (mkS l)) (some (.int .i64 (i : Int))) (some (.int .i64 (j : Int))) none).run Tryz.prog w = .ok (.string (mkS ((l.drop i).take (j - i)))) w := by
  rw [run_slice_string_if w 9 _ .i64 .i64 _ _ Tryz.underlying9, if_pos ⟨by omega, by rw [mkS_size]; omega⟩, if_pos ⟨by omega, by omega⟩]
  have : (mkS l).extract (i : Int).toNat (j : Int).toNat = mkS ((l.drop i).take (j - i)) := by
    rw [← mkS_self ((mkS l).extract (i : Int).toNat (j : Int).toNat), Lib.extract_data, mkS_list]
    simp
  rw [this]
theorem mkS_cat2 (x y : List UInt8) (h : x.length + y.length ≤ 9223372036854775807) (w : World) : (Op.stringOp .add (mkS x) (mkS y)).run Tryz.prog w = .ok (.string (mkS (x ++ y))) w := by
  unfold mkS
  rw [run_string_add_sum _ _ _ (by show x.toArray.size + y.toArray.size ≤ _; simp; omega), ByteArray.mk_append_mk]
theorem mkS_emp (l : List UInt8) (h : l ≠ []) : (mkS l).toList.isEmpty = false := by
  rw [ByteArray.toList_eq, mkS_list]
  cases l with
  | nil => exact absurd rfl h
  | cons c r => rfl
theorem mkS_emp_nil : (mkS []).toList.isEmpty = true := by rw [ByteArray.toList_eq, mkS_list]; rfl

/-! ### Decimal digits -/
theorem dec_small (u : Nat) (h : u < 10) : Lib.decDigits u = [UInt8.ofNat (48 + u)] := by rw [Lib.decDigits, dif_pos h]
theorem dec_step (u : Nat) (h : ¬ u < 10) : Lib.decDigits u = Lib.decDigits (u / 10) ++ [UInt8.ofNat (48 + u % 10)] := by rw [Lib.decDigits, dif_neg h]
theorem itoa_nat (n : Int) (h : 0 ≤ n) : Lib.itoa n = Lib.decDigits n.toNat := by unfold Lib.itoa; rw [if_neg (by omega)]
/-- k digits of u. -/
def digs : Nat → Nat → List UInt8
  | 0, _ => []
  | k + 1, u => digs k (u / 10) ++ [UInt8.ofNat (48 + u % 10)]
theorem digs_length : ∀ k u, (digs k u).length = k
  | 0, _ => rfl
  | k + 1, u => by simp [digs, digs_length k]
theorem digs_zero : ∀ k, digs k 0 = List.replicate k 48
  | 0 => rfl
  | k + 1 => by rw [digs, digs_zero k, List.replicate_succ']; rfl
/-- A one ahead of k digits. -/
theorem dec_ahead : ∀ (k u : Nat), u < 10 ^ k → Lib.decDigits (10 ^ k + u) = 49 :: digs k u
  | 0, u, h => by obtain rfl : u = 0 := by simpa using h
                  rw [dec_small _ (by decide)]; rfl
  | k + 1, u, h => by
    have hp : 10 ^ (k + 1) = 10 * 10 ^ k := Nat.pow_succ'
    have h1 : 1 ≤ 10 ^ k := Nat.one_le_pow _ _ (by decide)
    rw [dec_step _ (by omega), show (10 ^ (k + 1) + u) / 10 = 10 ^ k + u / 10 by omega, dec_ahead k (u / 10) (by omega), show (10 ^ (k + 1) + u) % 10 = u % 10 by omega]
    rfl
/-- The digits of u, noughts ahead of them. -/
theorem digs_pad : ∀ (k u : Nat), u < 10 ^ (k + 1) → (Lib.decDigits u).length ≤ k + 1 ∧ digs (k + 1) u = List.replicate (k + 1 - (Lib.decDigits u).length) 48 ++ Lib.decDigits u
  | 0, u, h => by
    rw [dec_small u (by simpa using h)]
    refine ⟨by simp, ?_⟩
    simp only [digs, List.length_singleton, Nat.sub_self, List.replicate_zero, List.nil_append]
    rw [show u % 10 = u by have : u < 10 := by simpa using h
                           omega]
  | k + 1, u, h => by
    by_cases h10 : u < 10
    · rw [dec_small u h10]
      refine ⟨by simp, ?_⟩
      rw [digs, show u / 10 = 0 by omega, digs_zero, show u % 10 = u by omega]; rfl
    · have hp : 10 ^ (k + 1 + 1) = 10 * 10 ^ (k + 1) := Nat.pow_succ'
      obtain ⟨i1, i2⟩ := digs_pad k (u / 10) (by omega)
      rw [dec_step u h10, digs, i2]
      refine ⟨by simp; omega, ?_⟩
      simp only [List.length_append, List.length_singleton, List.append_assoc]
      rw [show k + 1 + 1 - ((Lib.decDigits (u / 10)).length + 1) = k + 1 - (Lib.decDigits (u / 10)).length by omega]
theorem dec_pos (u : Nat) : 1 ≤ (Lib.decDigits u).length := by
  by_cases h : u < 10
  · rw [dec_small u h]; simp
  · rw [dec_step u h]; simp
end Go.Proofs.YthnonmniponahaaGreatDoor
end
section
/- Plain mathematics of numeric fields: no program. Bytes as integers; the bytes of a number, most significant first. -/
namespace Go.Proofs.YthnonmniponahaaGreatDoor

theorem strOfNums_append (x y : List Int) : strOfNums x ++ strOfNums y = strOfNums (x ++ y) := by
  unfold strOfNums
  rw [ByteArray.mk_append_mk, List.map_append]

/-- n / 256^k, behind a name. -/
def shn (n : Int) (k : Nat) : Int := n / 256 ^ k
theorem shn_zero (n : Int) : shn n 0 = n := by simp [shn]
theorem shn_succ (n : Int) (k : Nat) : shn n (k + 1) = shn n k / 256 := by
  unfold shn
  rw [Int.pow_succ, Int.ediv_ediv_of_nonneg (Int.pow_nonneg (by decide))]
theorem shn_le (n : Int) (h1 : -9223372036854775808 ≤ n) (h2 : n ≤ 9223372036854775807) (k : Nat) : -9223372036854775808 ≤ shn n k ∧ shn n k ≤ 9223372036854775807 := by
  induction k with
  | zero => rw [shn_zero]; exact ⟨h1, h2⟩
  | succ k ih => rw [shn_succ]; omega
/-- the k low bytes of n, most significant first. -/
def beB (n : Int) : Nat → List Int
  | 0 => []
  | k + 1 => shn n k % 256 :: beB n k
theorem beB_length (n : Int) (k : Nat) : (beB n k).length = k := by
  induction k with
  | zero => rfl
  | succ k ih => simp [beB, ih]
/-- the first byte by the sign. -/
def markB (n : Int) : Int := if n < 0 then 255 else 128
def binNums (n : Int) (W : Nat) : List Int := markB n :: beB n (W - 1)
theorem binNums_length (n : Int) (W : Nat) (h : 1 ≤ W) : (binNums n W).length = W := by simp [binNums, beB_length]; omega

/-- What the row holds after k rounds. -/
def binRow (n : Int) (W k : Nat) : List Int := markB n :: (List.replicate (W - 1 - k) 0 ++ beB n k)
theorem binRow_length (n : Int) (W k : Nat) (hk : k ≤ W - 1) (h : 1 ≤ W) : (binRow n W k).length = W := by simp [binRow, beB_length]; omega
theorem binRow_start (n : Int) (W : Nat) (h : 1 ≤ W) : (List.replicate W (0 : Int)).set 0 (markB n) = binRow n W 0 := by
  obtain ⟨V, rfl⟩ : ∃ V, W = V + 1 := ⟨W - 1, by omega⟩
  simp [binRow, beB, List.replicate_succ]
theorem binRow_done (n : Int) (W : Nat) : binRow n W (W - 1) = binNums n W := by simp [binRow, binNums]
theorem binRow_step (n : Int) (W k : Nat) (hk : k < W - 1) : (binRow n W k).set (W - 1 - k) (shn n k % 256) = binRow n W (k + 1) := by
  obtain ⟨d, hd⟩ : ∃ d, W - 1 - k = d + 1 := ⟨W - 1 - k - 1, by omega⟩
  have hd2 : W - 1 - (k + 1) = d := by omega
  unfold binRow
  rw [hd, hd2, List.set_cons_succ, List.replicate_succ', List.append_assoc]
  rw [List.set_append_right _ _ (by simp)]
  simp [beB]

/-- the two's complement of 64 bits, shifted. -/
def uwn (n : Int) (k : Nat) : Int := shn (n % 18446744073709551616) k
theorem uwn_zero (n : Int) : uwn n 0 = n % 18446744073709551616 := shn_zero _
theorem uwn_succ (n : Int) (k : Nat) : uwn n (k + 1) = uwn n k / 256 := shn_succ _ _
theorem uwn_le (n : Int) (k : Nat) : 0 ≤ uwn n k ∧ uwn n k ≤ 18446744073709551615 := by
  induction k with
  | zero => rw [uwn_zero]; omega
  | succ k ih => rw [uwn_succ]; omega
theorem uwn_shn (n : Int) (k : Nat) (hk : k < 8) : uwn n k % 256 = shn n k % 256 := by
  have h : k = 0 ∨ k = 1 ∨ k = 2 ∨ k = 3 ∨ k = 4 ∨ k = 5 ∨ k = 6 ∨ k = 7 := by omega
  rcases h with rfl | rfl | rfl | rfl | rfl | rfl | rfl | rfl <;> simp only [uwn, shn_succ, shn_zero] <;> omega
theorem shn_big (n : Int) (h1 : -9223372036854775808 ≤ n) (h2 : n ≤ 9223372036854775807) (k : Nat) (hk : 8 ≤ k) : shn n k = if n < 0 then -1 else 0 := by
  induction k with
  | zero => omega
  | succ k ih =>
    rcases Nat.lt_or_ge k 8 with h | h
    · obtain rfl : k = 7 := by omega
      simp only [shn_succ, shn_zero]
      split <;> omega
    · rw [shn_succ, ih h]; split <;> rfl
end Go.Proofs.YthnonmniponahaaGreatDoor
end
section
/- Contracts of number.Most, within, power, both Pads: what each returns, for every int. -/
namespace Go.Proofs.YthnonmniponahaaGreatDoor
open Go.RowKit

theorem ipow_mono (k N : Nat) (b : Int) (hb : 1 ≤ b) (h : k ≤ N) : b ^ k ≤ b ^ N ∧ 1 ≤ b ^ k := by
  obtain ⟨c, rfl⟩ := Int.eq_ofNat_of_zero_le (by omega : 0 ≤ b)
  have hc : 0 < c := by omega
  have h1 := Nat.pow_le_pow_right hc h
  have h2 := Nat.pow_pos (n := k) hc
  constructor
  · exact_mod_cast h1
  · exact_mod_cast h2

/-- b^n, behind a name. -/
def ipw (b n : Int) : Int := b ^ n.toNat

/-- power(b, n) = b^n where that fits. -/
theorem power_any (b n : Int) (hb : 1 ≤ b) (hn : 0 ≤ n) (hfit : ipw b n ≤ 9223372036854775807) (hN : n ≤ 1000) (w : World) :
    Calls Tryz.prog 191 #[.int .i64 b, .int .i64 n] w fun e w' => e = .returned (.int .i64 (ipw b n)) ∧ w' = w := by
  obtain ⟨N, rfl⟩ := Int.eq_ofNat_of_zero_le hn
  have step : ∀ k : Nat, k + 1 ≤ N → wrap64 (ipw b k * b) = ipw b ((k + 1 : Nat) : Int) := by
    intro k hk
    unfold ipw at hfit ⊢
    rw [Int.toNat_natCast] at hfit ⊢
    rw [Int.toNat_natCast, ← Int.pow_succ]
    have h1 := ipow_mono (k + 1) N b hb hk
    exact IntWalk.wrap64_in _ (by constructor <;> simp only [Nat.succ_eq_add_one] <;> omega)
  have Step := Lib.hid step
  clear step hfit
  go_enter Tryz.func191, Tryz.ntmps191
  go_wp2
  go_loop [1, 5] (fun n out => ∃ k : Nat, k ≤ N ∧ n = .int .i64 ((N : Int) - k) ∧ out = .int .i64 (ipw b k)) (fun n _ => (intOf n).toNat)
  case atStart => exact ⟨0, Nat.zero_le _, by simp, by simp [ipw]⟩
  case round =>
    obtain ⟨k, hk, rfl, rfl⟩ := hrel
    by_cases hlt : k < N
    · have h0 : (0 : Int) < (N : Int) - k := by omega
      go_wp2
      go_round
      case rel => exact ⟨k + 1, by omega, by rw [show (N : Int) - k - 1 = (N : Int) - ((k + 1 : Nat) : Int) by omega], by rw [Step.out k (by omega)]⟩
      case measure => simp [intOf]; omega
    · obtain rfl : k = N := by omega
      go_wp2
      go_ret
      exact ⟨rfl, rfl⟩

/-- within(n, low, high). -/
theorem within_yes (n lo hi : Int) (w : World) (h1 : lo ≤ n) (h2 : n ≤ hi) :
    Calls Tryz.prog 29 #[.int .i64 n, .int .i64 lo, .int .i64 hi] w fun e w' => e = .returned (.bool true) ∧ w' = w := by
  go_enter Tryz.func29, Tryz.ntmps29
  go_wp2
  go_ret
  exact ⟨rfl, rfl⟩
theorem within_no (n lo hi : Int) (w : World) (h : n < lo ∨ hi < n) :
    Calls Tryz.prog 29 #[.int .i64 n, .int .i64 lo, .int .i64 hi] w fun e w' => e = .returned (.bool false) ∧ w' = w := by
  by_cases h1 : lo ≤ n
  · have d2 : decide (n ≤ hi) = false := by simp; omega
    clear h
    go_enter Tryz.func29, Tryz.ntmps29
    go_wp2
    go_ret
    exact ⟨rfl, rfl⟩
  · have d2 : n < lo := by omega
    clear h
    go_enter Tryz.func29, Tryz.ntmps29
    go_wp2
    go_ret
    exact ⟨rfl, rfl⟩

/-- What both Mosts give. -/
def mostF (a : Int) : Int := if 2 ≤ a ∧ a ≤ 20 then ipw 8 (a - 1) - 1 else 0

theorem pow8_le (a : Int) (h : 2 ≤ a ∧ a ≤ 20) : ipw 8 (a - 1) ≤ 144115188075855872 ∧ 1 ≤ ipw 8 (a - 1) := by
  have h1 := ipow_mono (a - 1).toNat 19 8 (by omega) (by omega)
  have h2 : (8 : Int) ^ 19 = 144115188075855872 := by decide +kernel
  unfold ipw; omega

theorem most_any (a : Int) (w : World) :
    Calls Tryz.prog 102 #[.int .i64 a] w fun e w' => e = .returned (.int .i64 (mostF a)) ∧ w' = w := by
  by_cases h1 : a < 2
  · have hm : mostF a = 0 := by unfold mostF; rw [if_neg (by omega)]
    have Hm := Lib.hid hm
    clear hm
    go_enter Tryz.func102, Tryz.ntmps102
    go_wp2
    go_ret
    exact ⟨by rw [Hm.out]; rfl, rfl⟩
  · by_cases h2 : 20 < a
    · have hm : mostF a = 0 := by unfold mostF; rw [if_neg (by omega)]
      have Hm := Lib.hid hm
      clear hm
      go_enter Tryz.func102, Tryz.ntmps102
      go_wp2
      go_ret
      exact ⟨by rw [Hm.out]; rfl, rfl⟩
    · have hm : mostF a = ipw 8 (a - 1) - 1 := by unfold mostF; rw [if_pos (by omega)]
      have hp := pow8_le a (by omega)
      have he : wrap64 (wrap64 (2 ^ (3 * (a - 1)).toNat) - 1) = mostF a := by
        have e1 : (2 : Int) ^ (3 * (a - 1)).toNat = ipw 8 (a - 1) := by
          unfold ipw
          rw [show (3 * (a - 1)).toNat = 3 * (a - 1).toNat by omega, Int.pow_mul]; rfl
        rw [e1, hm, IntWalk.wrap64_in (ipw 8 (a - 1)) ⟨by omega, by omega⟩, IntWalk.wrap64_in _ ⟨by omega, by omega⟩]
      have He := Lib.hid he
      clear hm he
      go_enter Tryz.func102, Tryz.ntmps102
      go_wp2
      go_ret
      exact ⟨congrArg (fun x => Ending.returned (.int .i64 x)) He.out, rfl⟩

/-! ### Pad -/
/-- What both Pads give. -/
def padF (n : Int) : Int := if n < 0 then 0 else (512 - n % 512) % 512

theorem pad_any (n : Int) (w : World) (hn : n ≤ 9223372036854775807) :
    Calls Tryz.prog 141 #[.int .i64 n] w fun e w' => e = .returned (.int .i64 (padF n)) ∧ w' = w := by
  by_cases h1 : n < 0
  · have hm : padF n = 0 := by unfold padF; rw [if_pos h1]
    have Hm := Lib.hid hm
    clear hm
    go_enter Tryz.func141, Tryz.ntmps141
    go_wp2
    go_ret
    exact ⟨by rw [Hm.out]; rfl, rfl⟩
  · have hm : padF n = (512 - n % 512) % 512 := by unfold padF; rw [if_neg h1]
    have Hm := Lib.hid hm
    have h2 : 0 ≤ n := by omega
    clear hm h1
    go_enter Tryz.func141, Tryz.ntmps141
    go_wp2
    go_ret
    exact ⟨by rw [Hm.out]; rfl, rfl⟩

theorem refPad_any (n : Int) (w : World) (hn : n ≤ 9223372036854775807) :
    Calls Tryz.prog 63 #[.int .i64 n] w fun e w' => e = .returned (.int .i64 (padF n)) ∧ w' = w := by
  by_cases h1 : n ≤ 0
  · have hm : padF n = 0 := by unfold padF; split <;> omega
    have Hm := Lib.hid hm
    have hd : decide (0 < n) = false := by simp; omega
    clear hm
    go_enter Tryz.func63, Tryz.ntmps63
    go_wp2
    refine wp_loop_rounds 1 ?_
    rw [rounds_succ]
    go_wp2
    go_ret
    exact ⟨by rw [Hm.out]; rfl, rfl⟩
  · have hm : padF n = (512 - n % 512) % 512 := by unfold padF; rw [if_neg (by omega)]
    have hp : 0 ≤ padF n ∧ padF n ≤ 511 := by omega
    have h2 : 0 < n := by omega
    have Hm := Lib.hid hm
    clear hm
    go_enter Tryz.func63, Tryz.ntmps63
    go_wp2
    go_loop [3] (fun k => ∃ j : Nat, (j : Int) ≤ padF n ∧ k = .int .i64 (j : Int)) (fun k => 600 - (intOf k).toNat)
    case atStart => exact ⟨0, by omega, by simp⟩
    case round =>
      obtain ⟨j, hj, rfl⟩ := hrel
      by_cases hlt : (j : Int) < padF n
      · have hb : ((n % 512 + (j : Int)) % 512 == 0) = false := by rw [beq_eq_false_iff_ne]; have := Hm.out; omega
        have hb2 : ((n % 512 + (j : Int)) % 512 != 0) = true := by rw [bne_iff_ne]; have := Hm.out; omega
        go_wp2
        go_round
        case rel => exact ⟨j + 1, by omega, by go_num⟩
        case measure => simp [intOf]; omega
      · have hb : ((n % 512 + (j : Int)) % 512 == 0) = true := by rw [beq_iff_eq]; have := Hm.out; omega
        have hb2 : ((n % 512 + (j : Int)) % 512 != 0) = false := by rw [bne_eq_false_iff_eq]; have := Hm.out; omega
        have he : (j : Int) = padF n := by omega
        have He := Lib.hid he
        clear he
        go_wp2
        go_ret
        exact ⟨by rw [← He.out]; rfl, rfl⟩
end Go.Proofs.YthnonmniponahaaGreatDoor
end
section
/- errors.As at the target *api.Errno, api.Tell, plain.Place, bare: what each returns for no error and for an Errno. -/
namespace Go.Proofs.YthnonmniponahaaGreatDoor
set_option maxRecDepth 100000
open Go.RowKit Go.Extern.Stop Go.Stop Go.Extern

theorem Tryz.valueOfP (t : Addr) (w : World) : (ReflectliteValue.unpack (.iface 134 (.pointer (some t)))).run Tryz.prog w
    = .ok (.agg #[.pointer (some ⟨9, 134, none⟩), .pointer (some ⟨w.heap.size, 0, none⟩), .int .u64 150]) (w.alloc (.cells #[.pointer (some t)] 134)) := by kernel_rfl
theorem Tryz.typeP (a : Addr) (w : World) : (ReflectliteValue.methodAny (ReflectliteValue.valueError "reflectlite.Value.Type" 0) (fun t _ _ _ => ReflectliteType.toType t) #[.agg #[.pointer (some ⟨9, 134, none⟩), .pointer (some a), .int .u64 150]]).run Tryz.prog w
    = .ok (.iface 243 (.agg #[.pointer (some ⟨9, 134, none⟩)])) w := by kernel_rfl
theorem Tryz.methodKind (h : Value) (w : World) : (Go.method 483 243 (.agg #[h]) "Kind").run Tryz.prog w = .ok (332, h) w := by kernel_rfl
theorem Tryz.kindP (w : World) : ((ReflectliteType.abiMethod fun t => (fun a : Nat => Value.int IntKind.u8 (a : Int)) <$> Rtype.kind t) #[.pointer (some ⟨9, 134, none⟩)]).run Tryz.prog w = .ok (.int .u8 22) w := by kernel_rfl
theorem Tryz.kindE (w : World) : ((ReflectliteType.abiMethod fun t => (fun a : Nat => Value.int IntKind.u8 (a : Int)) <$> Rtype.kind t) #[.pointer (some ⟨9, 29, none⟩)]).run Tryz.prog w = .ok (.int .u8 2) w := by kernel_rfl
theorem rlm (z : Sem Value) (f : TypeId → Addr → Nat → Nat → Sem Value) (v : Value) :
    ReflectliteValue.method z f #[v] = (do match ← ReflectliteValue.parts v with | none => z | some (t, a, fl) => f t a fl (fl % 32)) := rfl
theorem Tryz.partsP (a : Addr) (w : World) : (ReflectliteValue.parts (.agg #[.pointer (some ⟨9, 134, none⟩), .pointer (some a), .int .u64 150])).run Tryz.prog w = .ok (some (134, a, 150)) w := by kernel_rfl
theorem Tryz.isNilP (a p : Addr) (W : World) (ha : W.cell? a = some (.pointer (some p))) :
    (ReflectliteValue.method (ReflectliteValue.valueError "reflectlite.Value.IsNil" 0) ReflectliteValue.isNil #[.agg #[.pointer (some ⟨9, 134, none⟩), .pointer (some a), .int .u64 150]]).run Tryz.prog W = .ok (.bool false) W := by
  rw [rlm]
  simp only [Sem.run_bind, Tryz.partsP, Result.andThen]
  simp [ReflectliteValue.isNil, loadVar, isAgg, underlying, Tryz.underlying134, ha, Result.andThen]
theorem Tryz.methodElem (h : Value) (w : World) : (Go.method 483 243 (.agg #[h]) "Elem").run Tryz.prog w = .ok (345, .agg #[h]) w := by kernel_rfl
theorem Tryz.methodImplements (h : Value) (w : World) : (Go.method 483 243 (.agg #[h]) "Implements").run Tryz.prog w = .ok (346, .agg #[h]) w := by kernel_rfl
theorem Tryz.methodAssignableTo (h : Value) (w : World) : (Go.method 483 243 (.agg #[h]) "AssignableTo").run Tryz.prog w = .ok (343, .agg #[h]) w := by kernel_rfl
theorem Tryz.elemP (w : World) : (ReflectliteType.method ReflectliteType.elem #[.agg #[.pointer (some ⟨9, 134, none⟩)]]).run Tryz.prog w = .ok (.iface 243 (.agg #[.pointer (some ⟨9, 29, none⟩)])) w := by kernel_rfl
theorem Tryz.implementsE (w : World) : (ReflectliteType.relation "Implements" ReflectliteType.implements_ #[.agg #[.pointer (some ⟨9, 29, none⟩)], .iface 243 (.agg #[.pointer (some ⟨9, 35, none⟩)])]).run Tryz.prog w = .ok (.bool true) w := by kernel_rfl
theorem Tryz.typeOfE (v : Value) (w : World) : (ReflectliteType.typeOf #[.iface 29 v]).run Tryz.prog w = .ok (.iface 243 (.agg #[.pointer (some ⟨9, 29, none⟩)])) w := by kernel_rfl
theorem Tryz.assignableE (w : World) : (ReflectliteType.relation "AssignableTo" ReflectliteType.assignableTo #[.agg #[.pointer (some ⟨9, 29, none⟩)], .iface 243 (.agg #[.pointer (some ⟨9, 29, none⟩)])]).run Tryz.prog w = .ok (.bool true) w := by kernel_rfl
theorem Tryz.valueOfE (n : Int) (w : World) : (ReflectliteValue.unpack (.iface 29 (.int .i64 n))).run Tryz.prog w
    = .ok (.agg #[.pointer (some ⟨9, 29, none⟩), .pointer (some ⟨w.heap.size, 0, none⟩), .int .u64 130]) (w.alloc (.cells #[.int .i64 n] 29)) := by kernel_rfl
theorem Tryz.elemOfP (w : World) : (Rtype.elem? 134).run Tryz.prog w = .ok (some 29) w := by kernel_rfl
theorem Tryz.mkE (p : Addr) (w : World) : (ReflectliteValue.mk 29 p ReflectliteValue.flagAddr).run Tryz.prog w = .ok (.agg #[.pointer (some ⟨9, 29, none⟩), .pointer (some p), .int .u64 386]) w := by kernel_rfl
theorem Tryz.elemVP (a p : Addr) (W : World) (ha : W.cell? a = some (.pointer (some p))) :
    (ReflectliteValue.method (ReflectliteValue.valueError "reflectlite.Value.Elem" 0) ReflectliteValue.elem #[.agg #[.pointer (some ⟨9, 134, none⟩), .pointer (some a), .int .u64 150]]).run Tryz.prog W
      = .ok (.agg #[.pointer (some ⟨9, 29, none⟩), .pointer (some p), .int .u64 386]) W := by
  rw [rlm]
  simp only [Sem.run_bind, Tryz.partsP, Result.andThen]
  simp [ReflectliteValue.elem, loadVar, isAgg, underlying, Tryz.underlying134, ha, Result.andThen, Tryz.elemOfP, Tryz.mkE]
theorem rls (v x : Value) : ReflectliteValue.set #[v, x] = (do
    let (some (dst, a, fl), some (src, b, _)) := (← ReflectliteValue.parts v, ← ReflectliteValue.parts x)
      | unsupported (.noEntry "extern/(internal/reflectlite.Value).Set.zeroValue")
    if fl / ReflectliteValue.flagAddr % 2 == 0 then unsupported (.noEntry "extern/(internal/reflectlite.Value).Set.unaddressable")
    let val ← loadVar src b
    if ← Rtype.directlyAssignable dst src then storeVar dst a val
    else if ← Rtype.implements dst src then
      if (← Rtype.kind src) == 20 then
        match val with
        | .nilIface => unsupported (.noEntry "extern/reflectlite: a nil value of one interface type handed on as a value of another")
        | _ => storeVar dst a val
      else storeVar dst a (.iface src val)
    else panicString ("reflectlite.Set: value of type " ++ (← Rtype.spelt src) ++ " is not assignable to type " ++ (← Rtype.spelt dst))
    pure (.tuple #[])) := rfl
theorem Tryz.partsEa (a : Addr) (w : World) : (ReflectliteValue.parts (.agg #[.pointer (some ⟨9, 29, none⟩), .pointer (some a), .int .u64 386])).run Tryz.prog w = .ok (some (29, a, 386)) w := by kernel_rfl
theorem Tryz.partsE (a : Addr) (w : World) : (ReflectliteValue.parts (.agg #[.pointer (some ⟨9, 29, none⟩), .pointer (some a), .int .u64 130])).run Tryz.prog w = .ok (some (29, a, 130)) w := by kernel_rfl
theorem Tryz.directE (w : World) : (Rtype.directlyAssignable 29 29).run Tryz.prog w = .ok true w := by kernel_rfl
theorem Tryz.setE (ta b : Addr) (n : Int) (old : Value) (W : World) (hb : W.cell? b = some (.int .i64 n)) (ht : W.cell? ta = some old) (hf : W.frozen? ta = false) :
    (ReflectliteValue.set #[.agg #[.pointer (some ⟨9, 29, none⟩), .pointer (some ta), .int .u64 386], .agg #[.pointer (some ⟨9, 29, none⟩), .pointer (some b), .int .u64 130]]).run Tryz.prog W
      = .ok (.tuple #[]) (W.setCell ta (.int .i64 n)) := by
  rw [rls]
  simp only [Sem.run_bind, Tryz.partsEa, Tryz.partsE, Result.andThen]
  simp [ReflectliteValue.flagAddr, loadVar, isAgg, underlying, Tryz.underlying29, hb, Result.andThen, Tryz.directE, storeVar, Value.cells, storeCells, Addr.add]
  rw [run_store Tryz.prog W ta _ _ (by rfl)]
  simp [ht, hf]

set_option maxHeartbeats 4000000 in
theorem as_hit (n : Int) (t : Addr) (old : Value) (w : World) (hg : w.cell? ⟨0, 0, none⟩ = some (.iface 243 (.agg #[.pointer (some ⟨9, 35, none⟩)]))) (ht0 : w.cell? t = some old) (hf0 : w.frozen? t = false) :
    Calls Tryz.prog 85 #[.iface 29 (.int .i64 n), .iface 134 (.pointer (some t))] w fun ev w' => ev = .returned (.bool true) ∧ w' = ((((w.alloc (.cells #[.pointer (some t)] 134)).alloc (.cells #[.pointer (some ⟨9, 134, none⟩), .pointer (some ⟨w.heap.size, 0, none⟩), .int .u64 150] 181)).alloc (.cells #[.pointer (some ⟨9, 134, none⟩), .pointer (some ⟨w.heap.size, 0, none⟩), .int .u64 150] 181)).alloc (.cells #[.int .i64 n] 29)).setCell t (.int .i64 n) := by
  have h6 := @run_callFunc_extern Tryz.prog 136 _ (fun args => ReflectliteValue.unpack (args.getD 0 (.tuple #[]))) Tryz.func136 (by kernel_rfl) (by kernel_rfl) (by kernel_rfl) (by kernel_rfl)
  have h7 := @run_callFunc_extern Tryz.prog 155 _ (ReflectliteValue.methodAny (ReflectliteValue.valueError "reflectlite.Value.Type" 0) (fun t _ _ _ => ReflectliteType.toType t)) Tryz.func155 (by kernel_rfl) (by kernel_rfl) (by kernel_rfl) (by kernel_rfl)
  have h8 := @run_callFunc_extern Tryz.prog 156 _ (ReflectliteValue.method (ReflectliteValue.valueError "reflectlite.Value.IsNil" 0) ReflectliteValue.isNil) Tryz.func156 (by kernel_rfl) (by kernel_rfl) (by kernel_rfl) (by kernel_rfl)
  have h27 := @run_callFunc_extern Tryz.prog 332 _ (ReflectliteType.abiMethod fun t => do pure (.int .u8 (← Rtype.kind t))) Tryz.func332 (by kernel_rfl) (by kernel_rfl) (by kernel_rfl) (by kernel_rfl)
  have h37 := @run_callFunc_extern Tryz.prog 345 _ (ReflectliteType.method ReflectliteType.elem) Tryz.func345 (by kernel_rfl) (by kernel_rfl) (by kernel_rfl) (by kernel_rfl)
  have h38 := @run_callFunc_extern Tryz.prog 346 _ (ReflectliteType.relation "Implements" ReflectliteType.implements_) Tryz.func346 (by kernel_rfl) (by kernel_rfl) (by kernel_rfl) (by kernel_rfl)
  have h10 := @run_callFunc_extern Tryz.prog 229 _ ReflectliteType.typeOf Tryz.func229 (by kernel_rfl) (by kernel_rfl) (by kernel_rfl) (by kernel_rfl)
  have h35 := @run_callFunc_extern Tryz.prog 343 _ (ReflectliteType.relation "AssignableTo" ReflectliteType.assignableTo) Tryz.func343 (by kernel_rfl) (by kernel_rfl) (by kernel_rfl) (by kernel_rfl)
  have h11 := @run_callFunc_extern Tryz.prog 230 _ (ReflectliteValue.method (ReflectliteValue.valueError "reflectlite.Value.Elem" 0) ReflectliteValue.elem) Tryz.func230 (by kernel_rfl) (by kernel_rfl) (by kernel_rfl) (by kernel_rfl)
  have h12 := @run_callFunc_extern Tryz.prog 231 _ ReflectliteValue.set Tryz.func231 (by kernel_rfl) (by kernel_rfl) (by kernel_rfl) (by kernel_rfl)
  have tO := Tryz.typeOfE
  have mA := Tryz.methodAssignableTo
  have a25 := Tryz.assignableE
  have v25 := Tryz.valueOfE
  have f6 := Tryz.valueOfP
  have f7 := Tryz.typeP
  have mK := Tryz.methodKind
  have mE := Tryz.methodElem
  have mI := Tryz.methodImplements
  have k27 := Tryz.kindP
  have k25 := Tryz.kindE
  have e27 := Tryz.elemP
  have i25 := Tryz.implementsE
  have n8 := Tryz.isNilP ⟨w.heap.size, 0, none⟩ t ((w.alloc (.cells #[.pointer (some t)] 134)).alloc (.cells #[.pointer (some ⟨9, 134, none⟩), .pointer (some ⟨w.heap.size, 0, none⟩), .int .u64 150] 181)) (by simp)
  have hlt : 0 < w.heap.size := by
    rcases Nat.lt_or_ge 0 w.heap.size with h | h
    · exact h
    · simp [World.cell?, Array.getElem?_eq_none h] at hg
  have hg2 : ((w.alloc (.cells #[.pointer (some t)] 134)).alloc (.cells #[.pointer (some ⟨9, 134, none⟩), .pointer (some ⟨w.heap.size, 0, none⟩), .int .u64 150] 181)).cell? ⟨0, 0, none⟩ = some (.iface 243 (.agg #[.pointer (some ⟨9, 35, none⟩)])) := by
    rw [World.cell?_alloc_lt _ _ ⟨0, 0, none⟩ (by simp <;> omega), World.cell?_alloc_lt _ _ ⟨0, 0, none⟩ hlt]; exact hg
  have htl : t.block < w.heap.size := by
    rcases Nat.lt_or_ge t.block w.heap.size with h | h
    · exact h
    · simp [World.cell?, Array.getElem?_eq_none h] at ht0
  have el := Tryz.elemVP ⟨w.heap.size, 0, none⟩ t (((w.alloc (.cells #[.pointer (some t)] 134)).alloc (.cells #[.pointer (some ⟨9, 134, none⟩), .pointer (some ⟨w.heap.size, 0, none⟩), .int .u64 150] 181)).alloc (.cells #[.pointer (some ⟨9, 134, none⟩), .pointer (some ⟨w.heap.size, 0, none⟩), .int .u64 150] 181)) (by rw [World.cell?_alloc_lt _ _ ⟨w.heap.size, 0, none⟩ (by simp <;> omega)]; simp)
  have st := Tryz.setE t ⟨w.heap.size + 1 + 1 + 1, 0, none⟩ n old ((((w.alloc (.cells #[.pointer (some t)] 134)).alloc (.cells #[.pointer (some ⟨9, 134, none⟩), .pointer (some ⟨w.heap.size, 0, none⟩), .int .u64 150] 181)).alloc (.cells #[.pointer (some ⟨9, 134, none⟩), .pointer (some ⟨w.heap.size, 0, none⟩), .int .u64 150] 181)).alloc (.cells #[.int .i64 n] 29))
    (by rw [World.cell?_alloc_at _ _ _ _ (by simp)]; rfl)
    (by rw [World.cell?_alloc_lt _ _ t (by simp <;> omega), World.cell?_alloc_lt _ _ t (by simp <;> omega), World.cell?_alloc_lt _ _ t (by simp <;> omega), World.cell?_alloc_lt _ _ t htl]; exact ht0)
    (by rw [World.frozen?_alloc_old _ _ t (by simp <;> omega), World.frozen?_alloc_old _ _ t (by simp <;> omega), World.frozen?_alloc_old _ _ t (by simp <;> omega), World.frozen?_alloc_old _ _ t (Nat.ne_of_lt htl)]; exact hf0)
  go_enter Tryz.func85, Tryz.ntmps85
  go_wp2
  refine wp_loop_rounds 1 ?_
  rw [rounds_succ]
  go_wp2
  go_ret
  exact ⟨rfl, rfl⟩
end Go.Proofs.YthnonmniponahaaGreatDoor
end
section
/- api.Tell, plain.Place and the law's 'bare': what each returns for no error and for an Errno. -/
namespace Go.Proofs.YthnonmniponahaaGreatDoor
open Go.RowKit Go.Extern.Stop Go.Stop Go.Extern

/-- errors.errorType holds the handle of the type 'error'. -/
def ErrLaid (w : World) : Prop := w.cell? ⟨0, 0, none⟩ = some (.iface 243 (.agg #[.pointer (some ⟨9, 35, none⟩)]))

theorem ErrLaid.posG {w : World} (h : ErrLaid w) : 0 < w.heap.size := by
  unfold ErrLaid at h
  rcases Nat.lt_or_ge 0 w.heap.size with h0 | h0
  · exact h0
  · simp [World.cell?, Array.getElem?_eq_none h0] at h
theorem ErrLaid.pos {w : World} (h : ErrLaid w) : 0 < w.heap.size := Nat.lt_of_le_of_lt (Nat.zero_le _) h.posG
theorem ErrLaid.below {w w' : World} (h : ErrLaid w) (hb : Below w.heap.size w w') : ErrLaid w' := by
  have hp := h.posG
  unfold ErrLaid at h ⊢
  rw [hb.cell (p := ⟨0, 0, none⟩) hp]; exact h
theorem ErrLaid.alloc {w : World} (h : ErrLaid w) (o : Obj) : ErrLaid (w.alloc o) := h.below ((Below.refl _ _).alloc (Nat.le_refl _) o)

theorem tell_nil (w : World) :
    Calls Tryz.prog 44 #[.nilIface] w fun e w' => e = .returned (.int .i64 0) ∧ w' = w := by
  go_enter Tryz.func44, Tryz.ntmps44
  go_wp2
  go_ret
  exact ⟨rfl, rfl⟩

set_option maxHeartbeats 1000000 in
theorem tell_err (n : Int) (w : World) (hg : ErrLaid w) :
    Calls Tryz.prog 44 #[.iface 29 (.int .i64 n)] w fun e w' => e = .returned (.int .i64 n) ∧ Below w.heap.size w w' := by
  have hgA := hg.alloc (.cells #[.int .i64 0] 29)
  have hpos := hg.pos
  have HG := Lib.hid hg
  unfold ErrLaid at hgA
  clear hg
  have htA : (w.alloc (.cells #[.int .i64 0] 29)).cell? ⟨w.heap.size, 0, none⟩ = some (.int .i64 0) := by simp
  have hfA : (w.alloc (.cells #[.int .i64 0] 29)).frozen? ⟨w.heap.size, 0, none⟩ = false := by simp
  go_enter Tryz.func44, Tryz.ntmps44
  go_wp2_with (go_at_call 85; refine (as_hit _ _ (.int .i64 0) _ hgA htA hfA).mono ?_; rintro e w' ⟨rfl, rfl⟩)
  go_ret
  exact ⟨rfl, by go_grown⟩

theorem Tryz.notAt (n : Int) (w : World) : (Instr.typeAssert (.iface 29 (.int .i64 n)) 35 84 true).run Tryz.prog w = .ok (.tuple #[.pointer none, .bool false]) w := by kernel_rfl
theorem Tryz.noUnwrap (v : Value) (xT : TypeId) (w : World) : (Instr.typeAssert (.iface 29 v) xT 136 true).run Tryz.prog w = .ok (.tuple #[.nilIface, .bool false]) w :=
  run_typeAssert_lacksB Tryz.underlying136 (by kernel_rfl) (by kernel_rfl) v xT w

theorem place_nil (w : World) :
    Calls Tryz.prog 45 #[.nilIface] w fun e w' => e = .returned (.tuple #[.int .i64 0, .int .i64 (-1)]) ∧ w' = w := by
  go_enter Tryz.func45, Tryz.ntmps45
  go_wp2_with (go_at_call 44; refine (tell_nil _).mono ?_; rintro e w' ⟨rfl, rfl⟩)
  refine wp_loop_rounds 1 ?_
  rw [rounds_succ]
  go_wp2
  go_ret2
  exact ⟨rfl, rfl⟩

set_option maxHeartbeats 1000000 in
theorem place_err (n : Int) (w : World) (hg : ErrLaid w) :
    Calls Tryz.prog 45 #[.iface 29 (.int .i64 n)] w fun e w' => e = .returned (.tuple #[.int .i64 n, .int .i64 (-1)]) ∧ Below w.heap.size w w' := by
  have a1 := Tryz.notAt
  have a2 := Tryz.noUnwrap
  go_enter Tryz.func45, Tryz.ntmps45
  go_wp2_with (go_at_call 44; refine (tell_err _ _ hg).mono ?_; rintro e w' ⟨rfl, hb⟩)
  refine wp_loop_rounds 1 ?_
  rw [rounds_succ]
  go_wp2
  go_ret2
  exact ⟨rfl, hb⟩

/-- no error, OK. -/
theorem bare_nil (w : World) :
    Calls Tryz.prog 49 #[.nilIface, .int .i64 0] w fun e w' => e = .returned (.bool true) ∧ w' = w := by
  go_enter Tryz.func49, Tryz.ntmps49
  go_wp2_with (go_at_call 45; refine (place_nil _).mono ?_; rintro e w' ⟨rfl, rfl⟩)
  go_ret
  exact ⟨rfl, rfl⟩

set_option maxHeartbeats 1000000 in
/-- an Errno, the same one. -/
theorem bare_err (n : Int) (w : World) (hg : ErrLaid w) :
    Calls Tryz.prog 49 #[.iface 29 (.int .i64 n), .int .i64 n] w fun e w' => e = .returned (.bool true) ∧ Below w.heap.size w w' := by
  go_enter Tryz.func49, Tryz.ntmps49
  go_wp2_with (go_at_call 45; refine (place_err _ _ hg).mono ?_; rintro e w' ⟨rfl, hb⟩)
  go_ret
  exact ⟨rfl, hb⟩
end Go.Proofs.YthnonmniponahaaGreatDoor
end
section
/- number.Binary and the reference's Binary: what each returns. -/
namespace Go.Proofs.YthnonmniponahaaGreatDoor
open Go.RowKit

theorem Tryz.infoU8 : (Tryz.prog.info? 5).map (fun i => (i.zero, i.size, i.bytes)) = some (some (.int .u8 0), 1, 1) := by kernel_rfl

theorem binary_range (n : Int) (w : World) (h : n < -36028797018963968 ∨ 36028797018963967 < n) :
    Calls Tryz.prog 274 #[.int .i64 n, .int .i64 8] w fun e w' => e = .returned (.tuple #[.string ByteArray.empty, .iface 29 (.int .i64 2)]) ∧ w' = w := by
  rcases h with h | h
  · go_enter Tryz.func274, Tryz.ntmps274
    go_wp2
    go_ret2
    exact ⟨rfl, rfl⟩
  · have h' : ¬ n < -36028797018963968 := by omega
    go_enter Tryz.func274, Tryz.ntmps274
    go_wp2
    go_ret2
    exact ⟨rfl, rfl⟩

theorem ints_set (xs : List Int) (j : Nat) (x : Int) : (xs.map (Value.int .u8)).set j (.int .u8 x) = (xs.set j x).map (Value.int .u8) := by rw [List.map_set]

set_option maxRecDepth 100000 in
set_option maxHeartbeats 2000000 in
theorem binary_ok (n : Int) (W : Nat) (w : World) (hW1 : 8 ≤ W) (hW2 : W ≤ 20) (hn1 : -9223372036854775808 ≤ n) (hn2 : n ≤ 9223372036854775807) (hr : W = 8 → -36028797018963968 ≤ n ∧ n ≤ 36028797018963967) :
    Calls Tryz.prog 274 #[.int .i64 n, .int .i64 W] w fun e w' => e = .returned (.tuple #[.string (strOfNums (binNums n W)), .nilIface]) ∧ Below w.heap.size w w' := by
  obtain ⟨i0, hi, hz0, hz1, hz2⟩ := info_parts Tryz.infoU8
  have d1 : decide ((W : Int) < 8) = false := by simp; omega
  have d2 : decide (20 < (W : Int)) = false := by simp; omega
  have e8 : (((W : Int) == 8) = true ∧ decide (n < -36028797018963968) = false ∧ decide (36028797018963967 < n) = false) ∨ ((W : Int) == 8) = false := by
    by_cases h8 : W = 8
    · have := hr h8
      exact .inl ⟨by rw [beq_iff_eq]; omega, by simp; omega, by simp; omega⟩
    · exact .inr (by rw [beq_eq_false_iff_ne]; omega)
  clear hr
  rcases e8 with ⟨q1, q2, q3⟩ | q1 <;> by_cases hn : n < 0
  all_goals
    go_enter Tryz.func274, Tryz.ntmps274
    go_wp2_with (at_make; refine wpList_make_full _ rfl _ _ 142 rfl w.heap.size 5 i0 (.int .u8 0) 1 Tryz.underlying142 hi hz0 hz1 _ _ _ _ W rfl rfl rfl rfl (by rw [hz2]; omega) (by unfold maxLen; omega) (Nat.le_refl _) ?_)
    intro w1 hown1 hgrow1
    rw [show (madeCells #[Value.int .u8 0] W).toList = (List.replicate W (0 : Int)).map (Value.int .u8) from (toList_madeCells_one _ _).trans (by simp)] at hown1
    have hb1 : Below w.heap.size w w1 := (Below.refl _ _).grown hgrow1 (Nat.le_refl _) (by intro k hk; cases hk)
    have hc0 : w1.cell? ⟨w.heap.size, 0, none⟩ = some (.int .u8 0) := by
      rw [hown1.cellAt 0 (by omega), List.getElem?_map, List.getElem?_replicate, if_pos (by omega)]; rfl
    have hf0 := hown1.frozenAt 0
    have HP : Hid (¬ n < 0 → (w1.setCell ⟨w.heap.size, 0, none⟩ (.int .u8 128)).ownsRow w.heap.size 5 1 (.slice (some ⟨w.heap.size, 0, none⟩) W W) W ((binRow n W 0).map (Value.int .u8))) := Lib.hid (fun h => by
      have := (hown1.stored 0 (.int .u8 128)).1
      rw [ints_set] at this
      rw [← binRow_start n W (by omega), show markB n = 128 by unfold markB; rw [if_neg h]]
      exact this)
    have HN : Hid (n < 0 → ((w1.setCell ⟨w.heap.size, 0, none⟩ (.int .u8 128)).setCell ⟨w.heap.size, 0, none⟩ (.int .u8 255)).ownsRow w.heap.size 5 1 (.slice (some ⟨w.heap.size, 0, none⟩) W W) W ((binRow n W 0).map (Value.int .u8))) := Lib.hid (fun h => by
      have := ((hown1.stored 0 (.int .u8 128)).1.stored 0 (.int .u8 255)).1
      rw [ints_set, ints_set, List.set_set] at this
      rw [← binRow_start n W (by omega), show markB n = 255 by unfold markB; rw [if_pos h]]
      exact this)
    have hbl1 : Below w.heap.size w (w1.setCell ⟨w.heap.size, 0, none⟩ (.int .u8 128)) := hb1.setCell (Nat.le_refl _) _
    have hbl2 : Below w.heap.size w ((w1.setCell ⟨w.heap.size, 0, none⟩ (.int .u8 128)).setCell ⟨w.heap.size, 0, none⟩ (.int .u8 255)) := hbl1.setCell (Nat.le_refl _) _
    clear hown1 hgrow1
    go_wp2
    clear hc0 hf0 hb1
    go_loopw [0, 36] (fun v i wr => ∃ k : Nat, k ≤ W - 1 ∧ i = .int .i64 k ∧ v = .int .i64 (shn n k) ∧ wr.ownsRow w.heap.size 5 1 (.slice (some ⟨w.heap.size, 0, none⟩) W W) W ((binRow n W k).map (Value.int .u8)) ∧ Below w.heap.size w wr) (fun _ i _ => W - (intOf i).toNat)
    case atStart => first | exact ⟨0, by omega, rfl, by rw [shn_zero], HN.out hn, hbl2⟩ | exact ⟨0, by omega, rfl, by rw [shn_zero], HP.out hn, hbl1⟩
    case round =>
      obtain ⟨k, hk, rfl, rfl, hown, hb⟩ := hrel
      clear HN HP hbl1 hbl2
      have hs := shn_le n hn1 hn2 k
      obtain ⟨hs1, hs2⟩ := hs
      by_cases hlt : k < W - 1
      · have hlt2 : (k : Int) < (W : Int) - 1 := by omega
        have hbr := binRow_length n W k hk (by omega)
        have hcell : ∃ c, wr.cell? ⟨w.heap.size, W - 1 - k, none⟩ = some c := by
          rw [hown.cellAt (W - 1 - k) (by omega)]
          exact ⟨_, List.getElem?_eq_getElem (by simp; omega)⟩
        obtain ⟨c, hcell⟩ := hcell
        have hfr := hown.frozenAt (W - 1 - k)
        have hst := (hown.stored (W - 1 - k) (.int .u8 (shn n k % 256))).1
        rw [ints_set, binRow_step n W k hlt] at hst
        have Hst := Lib.hid hst
        clear hst hown hbr
        go_wp2
        go_roundw
        case rel => exact ⟨k + 1, by omega, by go_num, by rw [shn_succ], Hst.out, hb.setCell (Nat.le_refl _) _⟩
        case measure => simp [intOf]; omega
      · obtain rfl : k = W - 1 := by omega
        have hnl : ¬ ((W - 1 : Nat) : Int) < (W : Int) - 1 := by omega
        rw [binRow_done] at hown
        have hlen := binNums_length n W (by omega)
        have hconv := run_convert_bytes_arg (P := Tryz.prog) wr 142 5 Tryz.underlying142 Tryz.underlying5 w.heap.size 0 W W (binNums n W) hlen (fun i hi => by
          rw [show 0 + i = i by omega, hown.cellAt i (by omega), List.getElem?_map, List.getElem?_eq_getElem (by omega)]
          simp [List.getD, List.getElem?_eq_getElem (show i < (binNums n W).length by omega)]) 9 Tryz.underlying9
        clear hown hlen
        go_wp2
        go_ret2
        exact ⟨rfl, hb⟩
end Go.Proofs.YthnonmniponahaaGreatDoor
end
section
/- The reference's Binary, one, char: what each returns. -/
namespace Go.Proofs.YthnonmniponahaaGreatDoor
open Go.RowKit

theorem one_true (w : World) : Calls Tryz.prog 125 #[.bool true] w fun e w' => e = .returned (.int .i64 1) ∧ w' = w := by
  go_enter Tryz.func125, Tryz.ntmps125
  go_wp2
  go_ret
  exact ⟨rfl, rfl⟩
theorem one_false (w : World) : Calls Tryz.prog 125 #[.bool false] w fun e w' => e = .returned (.int .i64 0) ∧ w' = w := by
  go_enter Tryz.func125, Tryz.ntmps125
  go_wp2
  go_ret
  exact ⟨rfl, rfl⟩

theorem char_any (n : Int) (w : World) (h1 : 0 ≤ n) (h2 : n ≤ 255) :
    Calls Tryz.prog 162 #[.int .i64 n] w fun e w' => e = .returned (.string (strOfNums [n])) ∧ Below w.heap.size w w' := by
  have hconv := run_convert_bytes_arg (P := Tryz.prog) (w.alloc (.cells #[.int .u8 n] 5)) 142 5 Tryz.underlying142 Tryz.underlying5 w.heap.size 0 1 1 [n] rfl (fun i hi => by
    obtain rfl : i = 0 := by omega
    simp) 9 Tryz.underlying9
  go_enter Tryz.func162, Tryz.ntmps162
  go_wp2
  go_ret
  exact ⟨rfl, by go_grown⟩

/-- the string after k rounds, one byte more. -/
theorem cat_run (x y : List Int) (w : World) (h : x.length + y.length ≤ 1000000) : (Op.stringOp .add (strOfNums x) (strOfNums y)).run Tryz.prog w = .ok (.string (strOfNums (x ++ y))) w := by
  rw [run_string_add_sum _ _ _ (by rw [strOfNums_size, strOfNums_size]; omega), strOfNums_append]

theorem ipw255 : ipw 2 55 = 36028797018963968 := by unfold ipw; decide +kernel

theorem refBinary_range (n : Int) (w : World) (h : n < -36028797018963968 ∨ 36028797018963967 < n) :
    Calls Tryz.prog 273 #[.int .i64 n, .int .i64 8] w fun e w' => e = .returned (.tuple #[.string ByteArray.empty, .int .i64 2]) ∧ w' = w := by
  have H := Lib.hid h
  have hp : ∀ w, Calls Tryz.prog 191 #[.int .i64 2, .int .i64 55] w fun e w' => e = .returned (.int .i64 36028797018963968) ∧ w' = w := fun w => by
    have := power_any 2 55 (by omega) (by omega) (by rw [ipw255]; omega) (by omega) w
    rwa [ipw255] at this
  have Hp := Lib.hid hp
  clear h hp
  go_enter Tryz.func273, Tryz.ntmps273
  go_wp2_with fail
  refine (within_yes _ _ _ _ (by omega) (by omega)).mono ?_; rintro e w' ⟨rfl, rfl⟩
  go_wp2_with (go_at_call 191; refine (Hp.out _).mono ?_; rintro e w' ⟨rfl, rfl⟩)
  refine (within_no _ _ _ _ (by have := H.out; omega)).mono ?_; rintro e w' ⟨rfl, rfl⟩
  go_wp2_with fail
  go_ret2
  exact ⟨rfl, rfl⟩

theorem refStep (n : Int) (k : Nat) (hk : k < 8) : [uwn n k % 256] ++ beB n k = beB n (k + 1) := by
  rw [uwn_shn n k hk]; rfl
theorem refStepB (n : Int) (h1 : -9223372036854775808 ≤ n) (h2 : n ≤ 9223372036854775807) (k : Nat) (hk : 8 ≤ k) (x : Int) (hx : x = if n < 0 then 255 else 0) : [x] ++ beB n k = beB n (k + 1) := by
  show [x] ++ beB n k = (shn n k % 256 :: beB n k)
  rw [shn_big n h1 h2 k hk, hx]
  split <;> rfl

set_option maxRecDepth 100000 in
set_option maxHeartbeats 2000000 in
theorem refBinary_ok (n : Int) (W : Nat) (w : World) (hW1 : 8 ≤ W) (hW2 : W ≤ 20) (hn1 : -9223372036854775808 ≤ n) (hn2 : n ≤ 9223372036854775807) (hr : W = 8 → -36028797018963968 ≤ n ∧ n ≤ 36028797018963967) :
    Calls Tryz.prog 273 #[.int .i64 n, .int .i64 W] w fun e w' => e = .returned (.tuple #[.string (strOfNums (binNums n W)), .int .i64 0]) ∧ Below w.heap.size w w' := by
  have hp : ∀ w, Calls Tryz.prog 191 #[.int .i64 2, .int .i64 55] w fun e w' => e = .returned (.int .i64 36028797018963968) ∧ w' = w := fun w => by
    have := power_any 2 55 (by omega) (by omega) (by rw [ipw255]; omega) (by omega) w
    rwa [ipw255] at this
  have Hp := Lib.hid hp
  clear hp
  have e8 : (((W : Int) == 8) = true ∧ -36028797018963968 ≤ n ∧ n ≤ 36028797018963967) ∨ ((W : Int) == 8) = false := by
    by_cases h8 : W = 8
    · have := hr h8
      exact .inl ⟨by rw [beq_iff_eq]; omega, this⟩
    · exact .inr (by rw [beq_eq_false_iff_ne]; omega)
  clear hr
  have hd : decide (n < 0) = true ∨ decide (n < 0) = false := by cases decide (n < 0) <;> simp
  have hu : IntKind.u64.wrap n = uwn n 0 := by
    rw [uwn_zero]
    simp only [IntKind.wrap, IntKind.bits, IntKind.signed]; simp
  have Hu := Lib.hid hu
  clear hu
  rcases e8 with ⟨q1, q2, q3⟩ | q1 <;> rcases hd with hd | hd
  all_goals
    go_enter Tryz.func273, Tryz.ntmps273
    go_wp2_with fail
    refine (within_yes _ _ _ _ (by omega) (by omega)).mono ?_; rintro e w' ⟨rfl, rfl⟩
    first
      | (go_wp2_with (go_at_call 191; refine (Hp.out _).mono ?_; rintro e w' ⟨rfl, rfl⟩)
         refine (within_yes _ _ _ _ (by omega) (by omega)).mono ?_; rintro e w' ⟨rfl, rfl⟩
         go_wp2_with fail)
      | go_wp2_with fail
    clear Hp q1
    go_loopw [6, 7, 8] (fun u s i wr => ∃ k : Nat, k ≤ W - 1 ∧ i = .int .i64 ((k : Int) + 1) ∧ u = .int .u64 (uwn n k) ∧ s = .string (strOfNums (beB n k)) ∧ Below w'.heap.size w' wr) (fun _ _ i _ => W - (intOf i).toNat)
    case atStart => exact ⟨0, by omega, rfl, by rw [Hu.out], rfl, Below.refl _ _⟩
    case round =>
      obtain ⟨k, hk, rfl, rfl, rfl, hb⟩ := hrel
      have hu := uwn_le n k
      obtain ⟨hu1, hu2⟩ := hu
      have hl := beB_length n k
      by_cases hlt : k < W - 1
      · have hlt2 : (k : Int) + 1 < (W : Int) := by omega
        by_cases h8 : k < 8
        · have hadd := fun w => cat_run [uwn n k % 256] (beB n k) w (by rw [hl]; simp only [List.length_cons, List.length_nil]; omega)
          rw [refStep n k h8] at hadd
          clear hl
          go_wp2_with (go_at_call 162; refine (char_any _ _ (by omega) (by omega)).mono ?_; rintro e w1 ⟨rfl, hb1⟩)
          exact ⟨⟨k + 1, by omega, by go_num, by rw [uwn_succ], rfl, hb.trans (hb1.mono hb.size)⟩, by simp [intOf]; omega⟩
        · have h8' : 8 < (k : Int) + 1 := by omega
          have hadd := fun w => cat_run [if n < 0 then 255 else 0] (beB n k) w (by rw [hl]; simp only [List.length_cons, List.length_nil]; omega)
          rw [refStepB n hn1 hn2 k (by omega) _ rfl] at hadd
          first | rw [if_pos (by simpa using hd)] at hadd | rw [if_neg (by simpa using hd)] at hadd
          clear hl
          go_wp2_with (first
            | (go_at_call 125; refine (one_true _).mono ?_; rintro e w1 ⟨rfl, rfl⟩)
            | (go_at_call 125; refine (one_false _).mono ?_; rintro e w1 ⟨rfl, rfl⟩)
            | (go_at_call 162; refine (char_any _ _ (by omega) (by omega)).mono ?_; rintro e w1 ⟨rfl, hb1⟩))
          exact ⟨⟨k + 1, by omega, by go_num, by rw [uwn_succ], rfl, hb.trans (hb1.mono hb.size)⟩, by simp [intOf]; omega⟩
      · obtain rfl : k = W - 1 := by omega
        have hlt2 : ¬ ((W - 1 : Nat) : Int) + 1 < (W : Int) := by omega
        have hadd := fun w => cat_run [markB n] (beB n (W - 1)) w (by rw [hl]; simp only [List.length_cons, List.length_nil]; omega)
        rw [show [markB n] ++ beB n (W - 1) = binNums n W from rfl] at hadd
        unfold markB at hadd
        first | rw [if_pos (by simpa using hd)] at hadd | rw [if_neg (by simpa using hd)] at hadd
        clear hl
        go_wp2_with (first
          | (go_at_call 125; refine (one_true _).mono ?_; rintro e w1 ⟨rfl, rfl⟩)
          | (go_at_call 125; refine (one_false _).mono ?_; rintro e w1 ⟨rfl, rfl⟩)
          | (go_at_call 162; refine (char_any _ _ (by omega) (by omega)).mono ?_; rintro e w1 ⟨rfl, hb1⟩))
        go_ret2
        exact ⟨rfl, hb.trans (hb1.mono hb.size)⟩
end Go.Proofs.YthnonmniponahaaGreatDoor
end
section
/- Plain mathematics of octal fields: no program. -/
namespace Go.Proofs.YthnonmniponahaaGreatDoor

/-- n / 8^k, behind a name. -/
def octn (n : Int) (k : Nat) : Int := n / 8 ^ k
theorem octn_zero (n : Int) : octn n 0 = n := by simp [octn]
theorem octn_succ (n : Int) (k : Nat) : octn n (k + 1) = octn n k / 8 := by
  unfold octn
  rw [Int.pow_succ, Int.ediv_ediv_of_nonneg (Int.pow_nonneg (by decide))]
theorem octn_le (n : Int) (h1 : 0 ≤ n) (h2 : n ≤ 9223372036854775807) (k : Nat) : 0 ≤ octn n k ∧ octn n k ≤ 9223372036854775807 := by
  induction k with
  | zero => rw [octn_zero]; exact ⟨h1, h2⟩
  | succ k ih => rw [octn_succ]; omega
theorem octn_mono (n : Int) (k d : Nat) (h : octn n k = 0) : octn n (k + d) = 0 := by
  induction d with
  | zero => exact h
  | succ d ih => rw [← Nat.add_assoc, octn_succ, ih]; rfl

/-- the k low octal digits of n as bytes, most significant first. -/
def octB (n : Int) : Nat → List Int
  | 0 => []
  | k + 1 => (48 + octn n k % 8) :: octB n k
theorem octB_length (n : Int) (k : Nat) : (octB n k).length = k := by
  induction k with
  | zero => rfl
  | succ k ih => simp [octB, ih]
theorem octB_pad (n : Int) (k d : Nat) (h : octn n k = 0) : octB n (k + d) = List.replicate d 48 ++ octB n k := by
  induction d with
  | zero => rfl
  | succ d ih =>
    rw [← Nat.add_assoc, octB, octn_mono n k d h, ih, List.replicate_succ, List.cons_append]
    rfl

def octNums (n : Int) (W : Nat) : List Int := octB n (W - 1) ++ [0]
theorem octNums_length (n : Int) (W : Nat) (h : 1 ≤ W) : (octNums n W).length = W := by simp [octNums, octB_length]; omega
def octRow (n : Int) (W k : Nat) : List Int := List.replicate (W - 1 - k) 0 ++ (octB n k ++ [0])
theorem octRow_length (n : Int) (W k : Nat) (hk : k ≤ W - 1) (h : 1 ≤ W) : (octRow n W k).length = W := by simp [octRow, octB_length]; omega
theorem octRow_start (n : Int) (W : Nat) (h : 1 ≤ W) : List.replicate W (0 : Int) = octRow n W 0 := by
  obtain ⟨V, rfl⟩ : ∃ V, W = V + 1 := ⟨W - 1, by omega⟩
  simp [octRow, octB, List.replicate_succ']
theorem octRow_done (n : Int) (W : Nat) : octRow n W (W - 1) = octNums n W := by simp [octRow, octNums]
theorem octRow_step (n : Int) (W k : Nat) (hk : k < W - 1) : (octRow n W k).set (W - 2 - k) (48 + octn n k % 8) = octRow n W (k + 1) := by
  obtain ⟨d, hd⟩ : ∃ d, W - 1 - k = d + 1 := ⟨W - 1 - k - 1, by omega⟩
  have hd2 : W - 1 - (k + 1) = d := by omega
  have hd3 : W - 2 - k = d := by omega
  unfold octRow
  rw [hd, hd2, hd3, List.replicate_succ', List.append_assoc]
  rw [List.set_append_right _ _ (by simp)]
  simp [octB]

theorem octn_pow (n : Int) (h : 0 ≤ n) (k : Nat) : octn n k = 0 ↔ n < 8 ^ k := by
  have hp : (0 : Int) < 8 ^ k := Int.pow_pos (by decide)
  unfold octn
  constructor
  · intro h0
    have := Int.lt_ediv_add_one_mul_self n hp
    rw [h0] at this; omega
  · intro h0
    exact Int.ediv_eq_zero_of_lt h h0
theorem octn_big (n : Int) (h1 : 0 ≤ n) (h2 : n ≤ 9223372036854775807) (k : Nat) (hk : 21 ≤ k) : octn n k = 0 := by
  have h : octn n 21 = 0 := by
    rw [octn_pow n h1]
    have : (8 : Int) ^ 21 = 9223372036854775808 := by decide +kernel
    omega
  have := octn_mono n 21 (k - 21) h
  rwa [show 21 + (k - 21) = k by omega] at this
theorem octn_pos_small (n : Int) (h1 : 0 ≤ n) (h2 : n ≤ 9223372036854775807) (k : Nat) (hk : 0 < octn n k) : k ≤ 20 := by
  rcases Nat.lt_or_ge k 21 with h | h
  · omega
  · have := octn_big n h1 h2 k h; omega
end Go.Proofs.YthnonmniponahaaGreatDoor
end
section
/- Plain mathematics of reading numeric fields: no program. -/
namespace Go.Proofs.YthnonmniponahaaGreatDoor

/-- octal digits read from n on: the number, and the error. -/
def roF : Int → List UInt8 → Int × Int
  | n, [] => (n, 0)
  | n, c :: l => if (c.toNat : Int) < 48 ∨ 55 < (c.toNat : Int) then (0, 3) else if 1152921504606846976 ≤ n then (0, 2) else roF (n * 8 + ((c.toNat : Int) - 48)) l
/-- base 256 read from n on. -/
def rbF : Int → List UInt8 → Int × Int
  | n, [] => (n, 0)
  | n, c :: l => if n < -36028797018963968 ∨ 36028797018963967 < n then (0, 2) else rbF (n * 256 + (c.toNat : Int)) l

def trimL (l : List UInt8) : List UInt8 := Lib.trimLeftB l 32
def trimR (l : List UInt8) : List UInt8 := Lib.trimRightS l [32, 0]

/-- the first byte's number in base 256. -/
def firstF (c : UInt8) : Int := if (c.toNat : Int) = 255 then -1 else (c.toNat : Int) - 128
/-- What both readers give: the number, and the error. -/
def readF : List UInt8 → Int × Int
  | [] => (0, 3)
  | c :: r => if 128 ≤ (c.toNat : Int) then rbF (firstF c) r else roF 0 (trimR (trimL (c :: r)))
end Go.Proofs.YthnonmniponahaaGreatDoor
end
section
/- Plain mathematics: what is written is read; the order of octal fields. No program. -/
namespace Go.Proofs.YthnonmniponahaaGreatDoor

def u8 (n : Int) : UInt8 := UInt8.ofNat n.toNat
theorem strOf_list (x : List Int) : (strOfNums x).data.toList = x.map u8 := strOfNums_data x

end Go.Proofs.YthnonmniponahaaGreatDoor
end
section
/- Plain mathematics of header sums: no program. -/
namespace Go.Proofs.YthnonmniponahaaGreatDoor

/-- byte k of a list, 0 behind its end. -/
def bAt (l : List UInt8) (k : Nat) : Int := ((l.getD k 0).toNat : Int)
theorem bAt_range (l : List UInt8) (k : Nat) : 0 ≤ bAt l k ∧ bAt l k ≤ 255 := by
  unfold bAt; have := (l.getD k 0).toNat_lt; omega
theorem bAt_get (s : ByteArray) (k : Nat) (h : k < s.size) : (s[k].toNat : Int) = bAt s.data.toList k := by
  have h' : k < s.data.toList.length := by simpa using h
  unfold bAt
  rw [List.getD_eq_getElem?_getD, List.getElem?_eq_getElem h']; rfl
/-- a byte's value, signed or not. -/
def bv (sg : Bool) (c : Int) : Int := if sg = true ∧ 128 ≤ c then c - 256 else c
theorem bv_range (sg : Bool) (c : Int) (h1 : 0 ≤ c) (h2 : c ≤ 255) : -128 ≤ bv sg c ∧ bv sg c ≤ 255 := by
  unfold bv; split <;> omega
/-- the sum of the first k bytes, those of the checksum as blanks. -/
def sumC (sg : Bool) (l : List UInt8) : Nat → Int
  | 0 => 0
  | k + 1 => sumC sg l k + if 148 ≤ k ∧ k < 156 then 32 else bv sg (bAt l k)
/-- the same by 256 and without those of the checksum. -/
def sumR (sg : Bool) (l : List UInt8) : Nat → Int
  | 0 => 256
  | k + 1 => sumR sg l k + if 148 ≤ k ∧ k < 156 then 0 else bv sg (bAt l k)
theorem sumC_range (sg : Bool) (l : List UInt8) (k : Nat) : -128 * (k : Int) ≤ sumC sg l k ∧ sumC sg l k ≤ 255 * (k : Int) := by
  induction k with
  | zero => exact ⟨by simp [sumC], by simp [sumC]⟩
  | succ k ih =>
    have hb := bAt_range l k
    have := bv_range sg (bAt l k) hb.1 hb.2
    rw [sumC]
    split <;> constructor <;> omega
theorem sumR_sumC (sg : Bool) (l : List UInt8) (k : Nat) : sumR sg l k = sumC sg l k + 256 - 32 * ((min (k - 148) 8 : Nat) : Int) := by
  induction k with
  | zero => simp [sumR, sumC]
  | succ k ih =>
    rw [sumR, sumC, ih]
    split <;> omega
theorem sumR_range (sg : Bool) (l : List UInt8) (k : Nat) : -128 * (k : Int) ≤ sumR sg l k ∧ sumR sg l k ≤ 255 * (k : Int) + 256 := by
  have h := sumC_range sg l k
  rw [sumR_sumC]; omega
/-- a header's sum. -/
def sumH (sg : Bool) (s : ByteArray) : Int := sumC sg s.data.toList 512
theorem sumR_done (sg : Bool) (s : ByteArray) : sumR sg s.data.toList 512 = sumH sg s := by
  rw [sumR_sumC]; unfold sumH; omega
theorem sumH_range (sg : Bool) (s : ByteArray) : -65536 ≤ sumH sg s ∧ sumH sg s ≤ 130560 := by
  have := sumC_range sg s.data.toList 512
  unfold sumH; omega
theorem sumC_in (sg : Bool) (l : List UInt8) (k : Nat) (h : 148 ≤ k ∧ k < 156) : sumC sg l (k + 1) = sumC sg l k + 32 := by rw [sumC, if_pos h]
theorem sumC_out (sg : Bool) (l : List UInt8) (k : Nat) (h : ¬ (148 ≤ k ∧ k < 156)) : sumC sg l (k + 1) = sumC sg l k + bv sg (bAt l k) := by rw [sumC, if_neg h]
theorem sumR_in (sg : Bool) (l : List UInt8) (k : Nat) (h : 148 ≤ k ∧ k < 156) : sumR sg l (k + 1) = sumR sg l k := by rw [sumR, if_pos h, Int.add_zero]
theorem sumR_out (sg : Bool) (l : List UInt8) (k : Nat) (h : ¬ (148 ≤ k ∧ k < 156)) : sumR sg l (k + 1) = sumR sg l k + bv sg (bAt l k) := by rw [sumR, if_neg h]
theorem bv_u (c : Int) : bv false c = c := by simp [bv]
theorem bv_low (sg : Bool) (c : Int) (h : c < 128) : bv sg c = c := by unfold bv; rw [if_neg (by omega)]
theorem bv_high (c : Int) (h : 128 ≤ c) : bv true c = c - 256 := by unfold bv; rw [if_pos ⟨rfl, h⟩]
theorem i8_high (c : Int) (h : 128 ≤ c) (h2 : c ≤ 255) : IntKind.i8.wrap c = c - 256 := by
  simp only [IntKind.wrap, IntKind.bits, IntKind.signed]; simp; split <;> omega
end Go.Proofs.YthnonmniponahaaGreatDoor
end
section
/- Plain mathematics: a sealed header is right; one byte bent; two bytes swapped; parts. No program. -/
namespace Go.Proofs.YthnonmniponahaaGreatDoor

/-- the checksum's field. -/
def fieldL (l : List UInt8) : List UInt8 := (l.drop 148).take 8
/-- the sealed header. -/
def sealL (l : List UInt8) : List UInt8 := l.take 148 ++ (octNums (sumC false l 512) 7).map u8 ++ [32] ++ l.drop 156
/-- right: the field is one of the sums. -/
def rightL (l : List UInt8) : Prop := l.length = 512 ∧ (readF (fieldL l)).2 = 0 ∧ ((readF (fieldL l)).1 = sumC false l 512 ∨ (readF (fieldL l)).1 = sumC true l 512)

theorem sealL_length (l : List UInt8) (h : l.length = 512) : (sealL l).length = 512 := by
  simp [sealL, octNums_length, h]
theorem sumC_congr (sg : Bool) (l m : List UInt8) (n : Nat) (h : ∀ k, k < n → ¬ (148 ≤ k ∧ k < 156) → bAt l k = bAt m k) : sumC sg l n = sumC sg m n := by
  induction n with
  | zero => rfl
  | succ n ih =>
    rw [sumC, sumC, ih fun k hk => h k (by omega)]
    split
    · rfl
    · next hn => rw [h n (by omega) hn]
end Go.Proofs.YthnonmniponahaaGreatDoor
end
section
/- number.Octal and the reference's Octal: what each returns. -/
namespace Go.Proofs.YthnonmniponahaaGreatDoor
open Go.RowKit

theorem itoa8 (d : Int) (w : World) (h1 : 0 ≤ d) (h2 : d < 8) :
    Calls Tryz.prog 99 #[.int .i64 d] w fun e w' => e = .returned (.string (strOfNums [48 + d])) ∧ w' = w := by
  obtain ⟨n, rfl⟩ := Int.eq_ofNat_of_zero_le h1
  have hn : n < 8 := by omega
  have h := Tryz.strconv_Itoa_small n (by omega) w
  have e : (⟨(Lib.decDigits n).toArray⟩ : ByteArray) = strOfNums [48 + (n : Int)] := by
    rcases n with _ | _ | _ | _ | _ | _ | _ | _ | n
    all_goals first | omega | decide +kernel
  rwa [e] at h

theorem rep48 (n : Nat) (w : World) (h2 : n ≤ 1000) :
    Calls Tryz.prog 121 #[.string ⟨#[48]⟩, .int .i64 n] w fun e w' => e = .returned (.string (strOfNums (List.replicate n 48))) ∧ Below w.heap.size w w' := by
  have h := Tryz.strings_Repeat ⟨#[48]⟩ n w (by omega) (by show 1 * n ≤ _; omega)
  have e : (⟨(Lib.repeatL [48] n).toArray⟩ : ByteArray) = strOfNums (List.replicate n 48) := by
    have h48 : ∀ m, Lib.repeatL [48] m = (List.replicate m (48 : Int)).map fun n => UInt8.ofNat n.toNat := by
      intro m
      induction m with
      | zero => rfl
      | succ m ih => rw [Lib.repeatL, ih]; rfl
    unfold strOfNums
    rw [h48]
  rwa [e] at h

theorem octal_arg (n W : Int) (w : World) (h : W < 2 ∨ 20 < W) :
    Calls Tryz.prog 238 #[.int .i64 n, .int .i64 W] w fun e w' => e = .returned (.tuple #[.string ByteArray.empty, .iface 29 (.int .i64 1)]) ∧ w' = w := by
  rcases h with h | h
  · go_enter Tryz.func238, Tryz.ntmps238
    go_wp2
    go_ret2
    exact ⟨rfl, rfl⟩
  · have h' : ¬ W < 2 := by omega
    go_enter Tryz.func238, Tryz.ntmps238
    go_wp2
    go_ret2
    exact ⟨rfl, rfl⟩

theorem octal_range (n W : Int) (w : World) (h1 : 2 ≤ W) (h2 : W ≤ 20) (h : n < 0 ∨ mostF W < n) :
    Calls Tryz.prog 238 #[.int .i64 n, .int .i64 W] w fun e w' => e = .returned (.tuple #[.string ByteArray.empty, .iface 29 (.int .i64 2)]) ∧ w' = w := by
  rcases Int.lt_or_le n 0 with hn | hn
  · clear h
    go_enter Tryz.func238, Tryz.ntmps238
    go_wp2
    go_ret2
    exact ⟨rfl, rfl⟩
  · have hm : mostF W < n := by omega
    clear h
    go_enter Tryz.func238, Tryz.ntmps238
    go_wp2_with (go_at_call 102; refine (most_any _ _).mono ?_; rintro e w' ⟨rfl, rfl⟩)
    go_ret2
    exact ⟨rfl, rfl⟩

theorem i64_and7 (n : Int) : bits .and .i64 n 7 = n % 8 := by
  have h7 : (BitVec.ofInt 64 7).toNat = 2 ^ 3 - 1 := by decide
  have key : (BitVec.ofInt 64 n &&& BitVec.ofInt 64 7).toNat = (n % ((2 ^ 64 : Nat) : Int)).toNat % 2 ^ 3 := by
    rw [BitVec.toNat_and, BitVec.toNat_ofInt, h7, Nat.and_two_pow_sub_one_eq_mod]
  show IntKind.i64.wrap ((BitVec.ofInt 64 n &&& BitVec.ofInt 64 7).toNat : Nat) = n % 8
  rw [key, IntKind.wrap_i64]
  omega

set_option maxRecDepth 100000 in
set_option maxHeartbeats 2000000 in
theorem octal_ok (n : Int) (W : Nat) (w : World) (hW1 : 2 ≤ W) (hW2 : W ≤ 20) (hn1 : 0 ≤ n) (hn2 : n ≤ mostF W) :
    Calls Tryz.prog 238 #[.int .i64 n, .int .i64 W] w fun e w' => e = .returned (.tuple #[.string (strOfNums (octNums n W)), .nilIface]) ∧ Below w.heap.size w w' := by
  obtain ⟨i0, hi, hz0, hz1, hz2⟩ := info_parts Tryz.infoU8
  have d1 : decide ((W : Int) < 2) = false := by simp; omega
  have d2 : decide (20 < (W : Int)) = false := by simp; omega
  have d3 : decide (mostF W < n) = false := by simp; omega
  have d4 : decide (n < 0) = false := by simp; omega
  have hn3 : n ≤ 9223372036854775807 := by
    have := pow8_le W ⟨by omega, by omega⟩
    unfold mostF at hn2; rw [if_pos ⟨by omega, by omega⟩] at hn2; omega
  have h7 := fun n => i64_and7 n
  go_enter Tryz.func238, Tryz.ntmps238
  go_wp2_with (first
    | (go_at_call 102; refine (most_any _ _).mono ?_; rintro e w' ⟨rfl, hw⟩; replace hw := hw.symm; subst hw)
    | (at_make; refine wpList_make_full _ rfl _ _ 142 rfl w.heap.size 5 i0 (.int .u8 0) 1 Tryz.underlying142 hi hz0 hz1 _ _ _ _ W rfl rfl rfl rfl (by rw [hz2]; omega) (by unfold maxLen; omega) (Nat.le_refl _) ?_))
  intro w1 hown1 hgrow1
  rw [show (madeCells #[Value.int .u8 0] W).toList = (List.replicate W (0 : Int)).map (Value.int .u8) from (toList_madeCells_one _ _).trans (by simp), octRow_start n W (by omega)] at hown1
  have hb1 : Below w.heap.size w w1 := (Below.refl _ _).grown hgrow1 (Nat.le_refl _) (by intro k hk; cases hk)
  have Hown1 := Lib.hid hown1
  clear hown1 hgrow1
  go_wp2
  go_loopw [0, 28] (fun v i wr => ∃ k : Nat, k ≤ W - 1 ∧ i = .int .i64 k ∧ v = .int .i64 (octn n k) ∧ wr.ownsRow w.heap.size 5 1 (.slice (some ⟨w.heap.size, 0, none⟩) W W) W ((octRow n W k).map (Value.int .u8)) ∧ Below w.heap.size w wr) (fun _ i _ => W - (intOf i).toNat)
  case atStart => exact ⟨0, by omega, rfl, by rw [octn_zero], Hown1.out, hb1⟩
  case round =>
    obtain ⟨k, hk, rfl, rfl, hown, hb⟩ := hrel
    clear Hown1 hb1
    obtain ⟨hs1, hs2⟩ := octn_le n hn1 hn3 k
    by_cases hlt : k < W - 1
    · have hlt2 : (k : Int) < (W : Int) - 1 := by omega
      have hbr := octRow_length n W k hk (by omega)
      have hcell : ∃ c, wr.cell? ⟨w.heap.size, W - 2 - k, none⟩ = some c := by
        rw [hown.cellAt (W - 2 - k) (by omega)]
        exact ⟨_, List.getElem?_eq_getElem (by simp; omega)⟩
      obtain ⟨c, hcell⟩ := hcell
      have hfr := hown.frozenAt (W - 2 - k)
      have hst := (hown.stored (W - 2 - k) (.int .u8 (48 + octn n k % 8))).1
      rw [ints_set, octRow_step n W k hlt] at hst
      have Hst := Lib.hid hst
      clear hst hown hbr
      go_wp2
      go_roundw
      case rel =>
        exact ⟨k + 1, by omega, by go_num, by rw [octn_succ], Hst.out, hb.setCell (Nat.le_refl _) _⟩
      case measure => simp [intOf]; omega
    · obtain rfl : k = W - 1 := by omega
      have hnl : ¬ ((W - 1 : Nat) : Int) < (W : Int) - 1 := by omega
      rw [octRow_done] at hown
      have hlen := octNums_length n W (by omega)
      have hconv := run_convert_bytes_arg (P := Tryz.prog) wr 142 5 Tryz.underlying142 Tryz.underlying5 w.heap.size 0 W W (octNums n W) hlen (fun i hi => by
        rw [show 0 + i = i by omega, hown.cellAt i (by omega), List.getElem?_map, List.getElem?_eq_getElem (by omega)]
        simp [List.getD, List.getElem?_eq_getElem (show i < (octNums n W).length by omega)]) 9 Tryz.underlying9
      clear hown hlen
      go_wp2
      go_ret2
      exact ⟨rfl, hb⟩
end Go.Proofs.YthnonmniponahaaGreatDoor
end
section
/- The reference's Octal: what it returns. -/
namespace Go.Proofs.YthnonmniponahaaGreatDoor
open Go.RowKit

theorem mostF_octn (n : Int) (W : Nat) (h1 : 2 ≤ W) (h2 : W ≤ 20) (hn : 0 ≤ n) : n ≤ mostF W ↔ octn n (W - 1) = 0 := by
  rw [octn_pow n hn]
  unfold mostF
  rw [if_pos ⟨by omega, by omega⟩]
  unfold ipw
  rw [show ((W : Int) - 1).toNat = W - 1 by omega]
  omega

theorem refOctal_arg (n W : Int) (w : World) (h : W < 2 ∨ 20 < W) :
    Calls Tryz.prog 159 #[.int .i64 n, .int .i64 W] w fun e w' => e = .returned (.tuple #[.string ByteArray.empty, .int .i64 1]) ∧ w' = w := by
  have H := Lib.hid h
  clear h
  go_enter Tryz.func159, Tryz.ntmps159
  go_wp2_with (go_at_call 29; refine (within_no _ _ _ _ H.out).mono ?_; rintro e w' ⟨rfl, rfl⟩)
  go_ret2
  exact ⟨rfl, rfl⟩

theorem refOctal_neg (n W : Int) (w : World) (h1 : 2 ≤ W) (h2 : W ≤ 20) (hn : n < 0) :
    Calls Tryz.prog 159 #[.int .i64 n, .int .i64 W] w fun e w' => e = .returned (.tuple #[.string ByteArray.empty, .int .i64 2]) ∧ w' = w := by
  have hn2 : ¬ 0 < n := by omega
  go_enter Tryz.func159, Tryz.ntmps159
  go_wp2_with (go_at_call 29; refine (within_yes _ _ _ _ (by omega) (by omega)).mono ?_; rintro e w' ⟨rfl, rfl⟩)
  refine wp_loop_rounds 1 ?_
  rw [rounds_succ]
  go_wp2
  go_ret2
  exact ⟨rfl, rfl⟩

theorem octStep (n : Int) (k : Nat) : [48 + octn n k % 8] ++ octB n k = octB n (k + 1) := rfl

set_option maxHeartbeats 1000000 in
theorem refOctal_range (n : Int) (W : Nat) (w : World) (h1 : 2 ≤ W) (h2 : W ≤ 20) (hn : 0 ≤ n) (hn3 : n ≤ 9223372036854775807) (hm : mostF W < n) :
    Calls Tryz.prog 159 #[.int .i64 n, .int .i64 W] w fun e w' => e = .returned (.tuple #[.string ByteArray.empty, .int .i64 2]) ∧ w' = w := by
  have hno : octn n (W - 1) ≠ 0 := fun e => by have := (mostF_octn n W h1 h2 hn).2 e; omega
  have d1 : decide (n < 0) = false := by simp; omega
  have Hno := Lib.hid hno
  clear hno hm
  go_enter Tryz.func159, Tryz.ntmps159
  go_wp2_with (go_at_call 29; refine (within_yes _ _ _ _ (by omega) (by omega)).mono ?_; rintro e w' ⟨rfl, rfl⟩)
  go_loop [6, 7] (fun s m => ∃ k : Nat, k ≤ 21 ∧ m = .int .i64 (octn n k) ∧ s = .string (strOfNums (octB n k))) (fun _ m => (intOf m).toNat)
  case atStart => exact ⟨0, by omega, by rw [octn_zero], rfl⟩
  case round =>
    obtain ⟨k, hk, rfl, rfl⟩ := hrel
    have hl := octB_length n k
    obtain ⟨hs1, hs2⟩ := octn_le n hn hn3 k
    by_cases hp : 0 < octn n k
    · have hk20 := octn_pos_small n hn hn3 k hp
      have hadd := fun w => cat_run [48 + octn n k % 8] (octB n k) w (by rw [hl]; simp only [List.length_cons, List.length_nil]; omega)
      rw [octStep n k] at hadd
      clear hl
      go_wp2_with (go_at_call 99; refine (itoa8 _ _ (by omega) (by omega)).mono ?_; rintro e w' ⟨rfl, rfl⟩)
      exact ⟨⟨k + 1, by omega, by rw [octn_succ], rfl⟩, by simp only [intOf]; omega⟩
    · have hz : octn n k = 0 := by omega
      have hkW : ¬ k ≤ W - 1 := fun h => Hno.out (by have := octn_mono n k (W - 1 - k) hz; rwa [show k + (W - 1 - k) = W - 1 by omega] at this)
      have hsz : (strOfNums (octB n k)).size = k := by rw [strOfNums_size, hl]
      have hlt : (W : Int) - 1 < (k : Int) := by omega
      clear hl hz
      go_wp2
      go_ret2
      exact ⟨rfl, rfl⟩

set_option maxHeartbeats 1000000 in
theorem refOctal_ok (n : Int) (W : Nat) (w : World) (h1 : 2 ≤ W) (h2 : W ≤ 20) (hn : 0 ≤ n) (hn3 : n ≤ 9223372036854775807) (hm : n ≤ mostF W) :
    Calls Tryz.prog 159 #[.int .i64 n, .int .i64 W] w fun e w' => e = .returned (.tuple #[.string (strOfNums (octNums n W)), .int .i64 0]) ∧ Below w.heap.size w w' := by
  have hno : octn n (W - 1) = 0 := (mostF_octn n W h1 h2 hn).1 hm
  have d1 : decide (n < 0) = false := by simp; omega
  have Hno := Lib.hid hno
  clear hno hm
  go_enter Tryz.func159, Tryz.ntmps159
  go_wp2_with (go_at_call 29; refine (within_yes _ _ _ _ (by omega) (by omega)).mono ?_; rintro e w' ⟨rfl, rfl⟩)
  go_loop [6, 7] (fun s m => ∃ k : Nat, k ≤ W - 1 ∧ m = .int .i64 (octn n k) ∧ s = .string (strOfNums (octB n k))) (fun _ m => (intOf m).toNat)
  case atStart => exact ⟨0, by omega, by rw [octn_zero], rfl⟩
  case round =>
    obtain ⟨k, hk, rfl, rfl⟩ := hrel
    have hl := octB_length n k
    obtain ⟨hs1, hs2⟩ := octn_le n hn hn3 k
    by_cases hp : 0 < octn n k
    · have hkW : k < W - 1 := by
        rcases Nat.lt_or_ge k (W - 1) with h | h
        · exact h
        · have : k = W - 1 := by omega
          subst this; have := Hno.out; omega
      have hadd := fun w => cat_run [48 + octn n k % 8] (octB n k) w (by rw [hl]; simp only [List.length_cons, List.length_nil]; omega)
      rw [octStep n k] at hadd
      clear hl
      go_wp2_with (go_at_call 99; refine (itoa8 _ _ (by omega) (by omega)).mono ?_; rintro e w' ⟨rfl, rfl⟩)
      exact ⟨⟨k + 1, by omega, by rw [octn_succ], rfl⟩, by simp only [intOf]; omega⟩
    · have hz : octn n k = 0 := by omega
      have hsz : (strOfNums (octB n k)).size = k := by rw [strOfNums_size, hl]
      have hlt : decide ((W : Int) - 1 < (k : Int)) = false := by simp; omega
      have hpad := octB_pad n k (W - 1 - k) hz
      rw [show k + (W - 1 - k) = W - 1 by omega] at hpad
      have hadd1 := fun w => cat_run (List.replicate (W - 1 - k) 48) (octB n k) w (by rw [hl, List.length_replicate]; omega)
      rw [← hpad] at hadd1
      have hadd2 := fun w => cat_run (octB n (W - 1)) [0] w (by rw [octB_length]; simp only [List.length_cons, List.length_nil]; omega)
      rw [show octB n (W - 1) ++ [0] = octNums n W from rfl] at hadd2
      clear hl hz hpad
      have h0 : (⟨#[0]⟩ : ByteArray) = strOfNums [0] := by decide +kernel
      rw [← h0] at hadd2
      clear h0
      go_wp2_with fail
      rw [show (W : Int) - 1 - (k : Int) = ((W - 1 - k : Nat) : Int) by omega]
      refine (rep48 _ _ (by omega)).mono ?_; rintro e w1 ⟨rfl, hb⟩
      go_wp2_with fail
      go_ret2
      exact ⟨rfl, hb⟩
end Go.Proofs.YthnonmniponahaaGreatDoor
end
section
/- The law NumberOctal's walk: true at every number and width. -/
namespace Go.Proofs.YthnonmniponahaaGreatDoor
open Go.RowKit

end Go.Proofs.YthnonmniponahaaGreatDoor
end
section
/- number.Write and the reference's NumberWrite: what each returns; the law NumberWrites' walk. -/
namespace Go.Proofs.YthnonmniponahaaGreatDoor
open Go.RowKit

/-- What both writers give: the error's number, and the text. -/
inductive Wr : Int → Int → Bool → Int → ByteArray → Prop
  | arg (n W : Int) (b : Bool) : (W < 2 ∨ 20 < W) → Wr n W b 1 ByteArray.empty
  | oct (n : Int) (W : Nat) (b : Bool) : 2 ≤ W → W ≤ 20 → 0 ≤ n → n ≤ mostF W → Wr n W b 0 (strOfNums (octNums n W))
  | no (n : Int) (W : Nat) (b : Bool) : 2 ≤ W → W ≤ 20 → (n < 0 ∨ mostF W < n) → (b = false ∨ W < 8) → Wr n W b 2 ByteArray.empty
  | range (n : Int) : (n < -36028797018963968 ∨ 36028797018963967 < n) → Wr n 8 true 2 ByteArray.empty
  | bin (n : Int) (W : Nat) : 8 ≤ W → W ≤ 20 → (n < 0 ∨ mostF W < n) → (W = 8 → -36028797018963968 ≤ n ∧ n ≤ 36028797018963967) → Wr n W true 0 (strOfNums (binNums n W))

theorem Wr.any (n W : Int) (b : Bool) : ∃ e s, Wr n W b e s := by
  by_cases h1 : W < 2 ∨ 20 < W
  · exact ⟨_, _, .arg n W b h1⟩
  · obtain ⟨V, rfl⟩ := Int.eq_ofNat_of_zero_le (show 0 ≤ W by omega)
    by_cases h2 : n < 0 ∨ mostF V < n
    · by_cases h3 : b = false ∨ V < 8
      · exact ⟨_, _, .no n V b (by omega) (by omega) h2 h3⟩
      · have hb : b = true := by cases b <;> simp_all
        subst hb
        by_cases h4 : V = 8 ∧ (n < -36028797018963968 ∨ 36028797018963967 < n)
        · obtain ⟨rfl, h4⟩ := h4
          exact ⟨_, _, .range n h4⟩
        · exact ⟨_, _, .bin n V (by simp at h3; omega) (by omega) h2 (fun h => by omega)⟩
    · exact ⟨_, _, .oct n V b (by omega) (by omega) (by omega) (by omega)⟩

/-- the error value of an error's number. -/
def errV (e : Int) : Value := if e = 0 then .nilIface else .iface 29 (.int .i64 e)
def WrGo (e : Int) (s : ByteArray) (w : World) (x : Ending) (w' : World) : Prop := x = .returned (.tuple #[.string s, errV e]) ∧ Below w.heap.size w w'
def WrRef (e : Int) (s : ByteArray) (w : World) (x : Ending) (w' : World) : Prop := x = .returned (.tuple #[.string s, .int .i64 e]) ∧ Below w.heap.size w w'

theorem most8 : mostF 8 = 2097151 := by unfold mostF ipw; decide +kernel

theorem Tryz.eqErr (a b : Int) (w : World) : (binOp .eql 35 (.iface 29 (.int .i64 a)) (.iface 29 (.int .i64 b))).run Tryz.prog w = .ok (.bool (a == b)) w :=
  Lib.run_eql_iface_int w a b Tryz.underlying35 (by kernel_rfl) Tryz.underlying29
theorem Tryz.eqNilErr (v : Value) (w : World) : (binOp .eql 35 .nilIface (.iface 29 v)).run Tryz.prog w = .ok (.bool false) w :=
  run_eql_iface_nil_left w 29 v Tryz.underlying35

set_option maxHeartbeats 1000000 in
theorem write_any (n W : Int) (b : Bool) (e : Int) (s : ByteArray) (h : Wr n W b e s) (hn1 : -9223372036854775808 ≤ n) (hn2 : n ≤ 9223372036854775807) (w : World) :
    Calls Tryz.prog 235 #[.int .i64 n, .int .i64 W, .bool b] w (WrGo e s w) := by
  have q1 := Tryz.eqErr
  have q2 := Tryz.eqNilErr
  cases h with
  | arg _ _ h =>
    have H := Lib.hid h
    clear h
    go_enter Tryz.func235, Tryz.ntmps235
    go_wp2_with (go_at_call 238; refine (octal_arg _ _ _ H.out).mono ?_; rintro e w' ⟨rfl, rfl⟩)
    go_ret2
    exact ⟨rfl, Below.refl _ _⟩
  | oct V _ h1 h2 h3 h4 =>
    go_enter Tryz.func235, Tryz.ntmps235
    go_wp2_with (go_at_call 238; refine (octal_ok _ V _ h1 h2 h3 h4).mono ?_; rintro e w' ⟨rfl, hb⟩)
    go_ret2
    exact ⟨rfl, hb⟩
  | no V _ h1 h2 h3 h4 =>
    have H := Lib.hid h3
    have hW1 : (2 : Int) ≤ (V : Int) := by omega
    have hW2 : (V : Int) ≤ 20 := by omega
    clear h3
    rcases h4 with rfl | h4
    · go_enter Tryz.func235, Tryz.ntmps235
      go_wp2_with (go_at_call 238; refine (octal_range _ _ _ hW1 hW2 H.out).mono ?_; rintro e w' ⟨rfl, rfl⟩)
      go_ret2
      exact ⟨rfl, Below.refl _ _⟩
    · have h5 : ¬ (8 : Int) ≤ (V : Int) := by omega
      cases b
      all_goals
        go_enter Tryz.func235, Tryz.ntmps235
        go_wp2_with (go_at_call 238; refine (octal_range _ _ _ hW1 hW2 H.out).mono ?_; rintro e w' ⟨rfl, rfl⟩)
        go_ret2
        exact ⟨rfl, Below.refl _ _⟩
  | range h =>
    have H := Lib.hid h
    have hm : n < 0 ∨ mostF 8 < n := by rw [most8]; omega
    have Hm := Lib.hid hm
    clear h hm
    go_enter Tryz.func235, Tryz.ntmps235
    go_wp2_with (first
      | (go_at_call 238; refine (octal_range _ _ _ (by omega) (by omega) Hm.out).mono ?_; rintro e w' ⟨rfl, rfl⟩)
      | (go_at_call 274; refine (binary_range _ _ H.out).mono ?_; rintro e w' ⟨rfl, rfl⟩))
    go_ret2
    exact ⟨rfl, Below.refl _ _⟩
  | bin V h1 h2 h3 h4 =>
    have H := Lib.hid h3
    have H4 := Lib.hid h4
    have hW1 : (2 : Int) ≤ (V : Int) := by omega
    have hW2 : (V : Int) ≤ 20 := by omega
    have hW3 : (8 : Int) ≤ (V : Int) := by omega
    clear h3 h4
    go_enter Tryz.func235, Tryz.ntmps235
    go_wp2_with (first
      | (go_at_call 238; refine (octal_range _ _ _ hW1 hW2 H.out).mono ?_; rintro e w' ⟨rfl, rfl⟩)
      | (go_at_call 274; refine (binary_ok _ V _ h1 h2 hn1 hn2 H4.out).mono ?_; rintro e w' ⟨rfl, hb⟩))
    go_ret2
    exact ⟨rfl, hb⟩

set_option maxHeartbeats 1000000 in
theorem refWrite_any (n W : Int) (b : Bool) (e : Int) (s : ByteArray) (h : Wr n W b e s) (hn1 : -9223372036854775808 ≤ n) (hn2 : n ≤ 9223372036854775807) (w : World) :
    Calls Tryz.prog 234 #[.int .i64 n, .int .i64 W, .bool b] w (WrRef e s w) := by
  cases h with
  | arg _ _ h =>
    have H := Lib.hid h
    clear h
    go_enter Tryz.func234, Tryz.ntmps234
    go_wp2_with (go_at_call 159; refine (refOctal_arg _ _ _ H.out).mono ?_; rintro e w' ⟨rfl, rfl⟩)
    go_ret2
    exact ⟨rfl, Below.refl _ _⟩
  | oct V _ h1 h2 h3 h4 =>
    go_enter Tryz.func234, Tryz.ntmps234
    go_wp2_with (go_at_call 159; refine (refOctal_ok _ V _ h1 h2 h3 hn2 h4).mono ?_; rintro e w' ⟨rfl, hb⟩)
    go_ret2
    exact ⟨rfl, hb⟩
  | no V _ h1 h2 h3 h4 =>
    have hW1 : (2 : Int) ≤ (V : Int) := by omega
    have hW2 : (V : Int) ≤ 20 := by omega
    have hc : ∀ w, Calls Tryz.prog 159 #[.int .i64 n, .int .i64 V] w fun e w' => e = .returned (.tuple #[.string ByteArray.empty, .int .i64 2]) ∧ w' = w := fun w => by
      rcases Int.lt_or_le n 0 with h | h
      · exact refOctal_neg n V w hW1 hW2 h
      · exact refOctal_range n V w h1 h2 h hn2 (by omega)
    have Hc := Lib.hid hc
    clear h3 hc
    rcases h4 with rfl | h4
    · go_enter Tryz.func234, Tryz.ntmps234
      go_wp2_with (go_at_call 159; refine (Hc.out _).mono ?_; rintro e w' ⟨rfl, rfl⟩)
      go_ret2
      exact ⟨rfl, Below.refl _ _⟩
    · have h5 : ¬ (8 : Int) ≤ (V : Int) := by omega
      cases b
      all_goals
        go_enter Tryz.func234, Tryz.ntmps234
        go_wp2_with (go_at_call 159; refine (Hc.out _).mono ?_; rintro e w' ⟨rfl, rfl⟩)
        go_ret2
        exact ⟨rfl, Below.refl _ _⟩
  | range h =>
    have hc : ∀ w, Calls Tryz.prog 159 #[.int .i64 n, .int .i64 (8 : Int)] w fun e w' => e = .returned (.tuple #[.string ByteArray.empty, .int .i64 2]) ∧ w' = w := fun w => by
      rcases Int.lt_or_le n 0 with h0 | h0
      · exact refOctal_neg n 8 w (by omega) (by omega) h0
      · exact refOctal_range n (8 : Nat) w (by omega) (by omega) h0 hn2 (by rw [show mostF ((8 : Nat) : Int) = 2097151 from most8]; omega)
    have Hc := Lib.hid hc
    have H := Lib.hid h
    clear h hc
    go_enter Tryz.func234, Tryz.ntmps234
    go_wp2_with (first
      | (go_at_call 159; refine (Hc.out _).mono ?_; rintro e w' ⟨rfl, rfl⟩)
      | (go_at_call 273; refine (refBinary_range _ _ H.out).mono ?_; rintro e w' ⟨rfl, rfl⟩))
    go_ret2
    exact ⟨rfl, Below.refl _ _⟩
  | bin V h1 h2 h3 h4 =>
    have hW1 : (2 : Int) ≤ (V : Int) := by omega
    have hW2 : (V : Int) ≤ 20 := by omega
    have hW3 : (8 : Int) ≤ (V : Int) := by omega
    have hc : ∀ w, Calls Tryz.prog 159 #[.int .i64 n, .int .i64 V] w fun e w' => e = .returned (.tuple #[.string ByteArray.empty, .int .i64 2]) ∧ w' = w := fun w => by
      rcases Int.lt_or_le n 0 with h | h
      · exact refOctal_neg n V w hW1 hW2 h
      · exact refOctal_range n V w (by omega) h2 h hn2 (by omega)
    have Hc := Lib.hid hc
    have H4 := Lib.hid h4
    clear h3 h4 hc
    go_enter Tryz.func234, Tryz.ntmps234
    go_wp2_with (first
      | (go_at_call 159; refine (Hc.out _).mono ?_; rintro e w' ⟨rfl, rfl⟩)
      | (go_at_call 273; refine (refBinary_ok _ V _ h1 h2 hn1 hn2 H4.out).mono ?_; rintro e w' ⟨rfl, hb⟩))
    go_ret2
    exact ⟨rfl, hb⟩

theorem write_nil (n W : Int) (b : Bool) (s : ByteArray) (h : Wr n W b 0 s) (hn1 : -9223372036854775808 ≤ n) (hn2 : n ≤ 9223372036854775807) (w : World) :
    Calls Tryz.prog 235 #[.int .i64 n, .int .i64 W, .bool b] w fun x w' => x = .returned (.tuple #[.string s, .nilIface]) ∧ Below w.heap.size w w' :=
  (write_any n W b 0 s h hn1 hn2 w).mono fun _ _ ⟨a, c⟩ => ⟨a, c⟩
theorem write_err (n W : Int) (b : Bool) (e : Int) (he : e ≠ 0) (s : ByteArray) (h : Wr n W b e s) (hn1 : -9223372036854775808 ≤ n) (hn2 : n ≤ 9223372036854775807) (w : World) :
    Calls Tryz.prog 235 #[.int .i64 n, .int .i64 W, .bool b] w fun x w' => x = .returned (.tuple #[.string s, .iface 29 (.int .i64 e)]) ∧ Below w.heap.size w w' :=
  (write_any n W b e s h hn1 hn2 w).mono fun _ _ ⟨a, c⟩ => ⟨by rw [a]; unfold errV; rw [if_neg he], c⟩

end Go.Proofs.YthnonmniponahaaGreatDoor
end
section
/- number.Read: what it returns. -/
namespace Go.Proofs.YthnonmniponahaaGreatDoor
open Go.RowKit

def readS (s : ByteArray) : Int × Int := readF s.data.toList

end Go.Proofs.YthnonmniponahaaGreatDoor
end
section
/- The reference's NumberRead: what it returns. -/
namespace Go.Proofs.YthnonmniponahaaGreatDoor
open Go.RowKit

theorem below_drewN {B : Nat} {a w : World} (h : Below B a w) (n : Nat) : Below B a (w.drewN n) := ⟨h.os, h.tape, h.output, h.size, h.block⟩

end Go.Proofs.YthnonmniponahaaGreatDoor
end
section
/- The reference's NumberRead at octal digits; the law NumberReads' walk. -/
namespace Go.Proofs.YthnonmniponahaaGreatDoor
open Go.RowKit

theorem trimR_stay (c : UInt8) (r : List UInt8) (h : c ≠ 32) (h0 : c ≠ 0) : trimR (r ++ [c]) = r ++ [c] := by
  simp [trimR, Lib.trimRightS, h, h0]
end Go.Proofs.YthnonmniponahaaGreatDoor
end
section
/- The reference's NumberRead at every short string; the law NumberReads' walk. -/
namespace Go.Proofs.YthnonmniponahaaGreatDoor
open Go.RowKit

end Go.Proofs.YthnonmniponahaaGreatDoor
end
section
/- block.Sum and the reference's Sum: what each returns; the law BlockSums' walk. -/
namespace Go.Proofs.YthnonmniponahaaGreatDoor
open Go.RowKit

set_option maxRecDepth 100000 in
set_option maxHeartbeats 1000000 in
theorem sum_ok (s : ByteArray) (sg : Bool) (w : World) (h : s.size = 512) :
    Calls Tryz.prog 214 #[.string s, .bool sg] w fun e w' => e = .returned (.tuple #[.int .i64 (sumH sg s), .nilIface]) ∧ w' = w := by
  have q1 : ((s.size : Int) == 512) = true := by rw [beq_iff_eq]; omega
  have q2 : ((s.size : Int) != 512) = false := by rw [bne_eq_false_iff_eq]; omega
  have H := Lib.hid h
  have hs1 : s.size ≤ 512 := by omega
  clear h
  go_enter Tryz.func214, Tryz.ntmps214
  go_wp2
  go_loop [6, 14] (fun v i => ∃ k : Nat, k ≤ 512 ∧ i = .int .i64 (k : Int) ∧ v = .int .i64 (sumC sg s.data.toList k)) (fun _ i => 512 - (intOf i).toNat)
  case atStart => exact ⟨0, by omega, rfl, rfl⟩
  case round =>
    obtain ⟨k, hk, rfl, rfl⟩ := hrel
    obtain ⟨hr1, hr2⟩ := sumC_range sg s.data.toList k
    by_cases hlt : k < 512
    · have hlt2 : k < s.size := by have := H.out; omega
      have hlt3 : (k : Int) < (s.size : Int) := by omega
      have hba := bAt_get s k hlt2
      have Hba := Lib.hid hba
      have hu : (s[k].toNat : Int) ≤ 255 := by have := s[k].toNat_lt; omega
      clear hba
      have hu0 : 0 ≤ (s[k].toNat : Int) := by omega
      by_cases c1 : 148 ≤ k ∧ k < 156
      · obtain ⟨c2, c3⟩ := c1
        go_wp2
        go_round
        case rel => exact ⟨k + 1, by omega, by go_num, by rw [sumC_in sg _ k ⟨c2, c3⟩]⟩
        case measure => simp [intOf]; omega
      · have hside : k < 148 ∨ 156 ≤ k := by omega
        have c9 : ¬ (148 ≤ k ∧ k < 156) := c1
        have C9 := Lib.hid c9
        clear c1 c9
        cases sg
        · rcases hside with c2 | c2
          all_goals
            go_wp2
            go_round
            case rel => exact ⟨k + 1, by omega, by go_num, by rw [sumC_out false _ k C9.out, bv_u, ← Hba.out]⟩
            case measure => simp [intOf]; omega
        · by_cases c4 : (s[k].toNat : Int) < 128
          · rcases hside with c2 | c2
            all_goals
              go_wp2
              go_round
              case rel => exact ⟨k + 1, by omega, by go_num, by rw [sumC_out true _ k C9.out, bv_low true _ (by rw [← Hba.out]; exact c4), ← Hba.out]⟩
              case measure => simp [intOf]; omega
          · have e8 := i8_high (s[k].toNat : Int) (by omega) hu
            rcases hside with c2 | c2
            all_goals
              go_wp2
              go_round
              case rel => exact ⟨k + 1, by omega, by go_num, by rw [sumC_out true _ k C9.out, bv_high _ (by rw [← Hba.out]; omega), ← Hba.out]⟩
              case measure => simp [intOf]; omega
    · obtain rfl : k = 512 := by omega
      have hnl : ¬ ((512 : Nat) : Int) < (s.size : Int) := by omega
      go_wp2
      go_ret2
      exact ⟨rfl, rfl⟩

theorem below_bytesWorld (w : World) (e : TypeId) (s : ByteArray) : Below w.heap.size w (Lib.bytesWorld w e s) :=
  ⟨rfl, rfl, rfl, by rw [Lib.bytesWorld_size]; omega, fun k hk => Lib.bytesWorld_at_old w e s k hk⟩

set_option maxRecDepth 100000 in
set_option maxHeartbeats 1000000 in
theorem refSum_ok (s : ByteArray) (sg : Bool) (w : World) (h : s.size = 512) :
    Calls Tryz.prog 120 #[.string s, .bool sg] w fun e w' => e = .returned (.tuple #[.int .i64 (sumH sg s), .int .i64 0]) ∧ Below w.heap.size w w' := by
  have q1 : ((s.size : Int) == 512) = true := by rw [beq_iff_eq]; omega
  have q2 : ((s.size : Int) != 512) = false := by rw [bne_eq_false_iff_eq]; omega
  have H := Lib.hid h
  have hs1 : s.size ≤ 512 := by omega
  have hcv := Lib.run_convert_string_bytes (P := Tryz.prog) w 9 142 5 s Tryz.underlying9 Tryz.underlying142 Tryz.underlying5
  have hbl := below_bytesWorld w 5 s
  have hcells := Lib.bytesWorld_cell w 5 s
  generalize Lib.bytesWorld w 5 s = w1 at hcv hbl hcells
  generalize grownCap w s.size 0 5 = cap at hcv
  have Hc := Lib.hid hcells
  clear h hcells
  go_enter Tryz.func120, Tryz.ntmps120
  go_wp2
  go_loop [6, 15] (fun v i => ∃ k : Nat, k ≤ 512 ∧ i = .int .i64 (k : Int) ∧ v = .int .i64 (sumR sg s.data.toList k)) (fun _ i => 512 - (intOf i).toNat)
  case atStart => exact ⟨0, by omega, rfl, rfl⟩
  case round =>
    obtain ⟨k, hk, rfl, rfl⟩ := hrel
    obtain ⟨hr1, hr2⟩ := sumR_range sg s.data.toList k
    by_cases hlt : k < 512
    · have hlt2 : k < s.size := by have := H.out; omega
      have hlt3 : (k : Int) < (s.size : Int) := by omega
      have hcell : w1.cell? ⟨w.heap.size, k, none⟩ = some (.int .u8 (bAt s.data.toList k)) := Hc.out k hlt2
      obtain ⟨hu0, hu⟩ := bAt_range s.data.toList k
      by_cases c1 : 148 ≤ k ∧ k < 156
      · obtain ⟨c2, c3⟩ := c1
        go_wp2_with (go_at_call 29; refine (within_yes _ _ _ _ (by omega) (by omega)).mono ?_; rintro e w' ⟨rfl, rfl⟩)
        go_round
        case rel => exact ⟨k + 1, by omega, by go_num, by rw [sumR_in sg _ k ⟨c2, c3⟩]⟩
        case measure => simp [intOf]; omega
      · have hside : (k : Int) < 148 ∨ 155 < (k : Int) := by omega
        have c9 : ¬ (148 ≤ k ∧ k < 156) := c1
        have C9 := Lib.hid c9
        have Hs := Lib.hid hside
        clear c1 c9 hside
        cases sg
        · go_wp2_with (go_at_call 29; refine (within_no _ _ _ _ Hs.out).mono ?_; rintro e w' ⟨rfl, rfl⟩)
          go_round
          case rel => exact ⟨k + 1, by omega, by go_num, by rw [sumR_out false _ k C9.out, bv_u]⟩
          case measure => simp [intOf]; omega
        · by_cases c4 : bAt s.data.toList k < 128
          · have d4 : decide ((128 : Int) ≤ bAt s.data.toList k) = false := by simp; omega
            go_wp2_with (go_at_call 29; refine (within_no _ _ _ _ Hs.out).mono ?_; rintro e w' ⟨rfl, rfl⟩)
            go_round
            case rel => exact ⟨k + 1, by omega, by go_num, by rw [sumR_out true _ k C9.out, bv_low true _ c4]⟩
            case measure => simp [intOf]; omega
          · have c5 : (128 : Int) ≤ bAt s.data.toList k := by omega
            go_wp2_with (go_at_call 29; refine (within_no _ _ _ _ Hs.out).mono ?_; rintro e w' ⟨rfl, rfl⟩)
            go_round
            case rel => exact ⟨k + 1, by omega, by go_num, by rw [sumR_out true _ k C9.out, bv_high _ c5, Int.add_sub_assoc]⟩
            case measure => simp [intOf]; omega
    · obtain rfl : k = 512 := by omega
      have hnl : ¬ ((512 : Nat) : Int) < (s.size : Int) := by omega
      have hd := sumR_done sg s
      have Hd := Lib.hid hd
      clear hd
      go_wp2
      go_ret2
      exact ⟨by rw [← Hd.out]; rfl, hbl⟩

end Go.Proofs.YthnonmniponahaaGreatDoor
end
section
/- block.Seal and the reference's Seal: what each returns; the law BlockSeals' walk. -/
namespace Go.Proofs.YthnonmniponahaaGreatDoor
open Go.RowKit

/-- The sealed header. -/
def sealB (s : ByteArray) : ByteArray := ⟨(s.data.toList.take 148 ++ ((octNums (sumH false s) 7).map fun n : Int => UInt8.ofNat n.toNat) ++ [32] ++ s.data.toList.drop 156).toArray⟩

set_option maxRecDepth 100000
theorem self_mk (s : ByteArray) : s = ⟨s.data.toList.toArray⟩ := by cases s; simp
theorem seal_to (s : ByteArray) (h : s.size = 512) (w : World) : (Instr.slice 9 (.string s) none (some (.int .i64 148)) none).run Tryz.prog w = .ok (.string ⟨(s.data.toList.take 148).toArray⟩) w := by
  rw [run_slice_string_to_if w 9 _ .i64 _ Tryz.underlying9, if_pos ⟨by omega, by omega⟩]
  have : s.extract 0 (148 : Int).toNat = ⟨(s.data.toList.take 148).toArray⟩ := by
    rw [self_mk (s.extract 0 (148 : Int).toNat), Lib.extract_data]
    rfl
  rw [this]
theorem seal_from (s : ByteArray) (h : s.size = 512) (w : World) : (Instr.slice 9 (.string s) (some (.int .i64 156)) none none).run Tryz.prog w = .ok (.string ⟨(s.data.toList.drop 156).toArray⟩) w := by
  rw [run_slice_string_from_if w 9 _ .i64 _ Tryz.underlying9, if_pos ⟨by omega, by omega⟩]
  have : s.extract (156 : Int).toNat s.size = ⟨(s.data.toList.drop 156).toArray⟩ := by
    rw [self_mk (s.extract (156 : Int).toNat s.size), Lib.extract_to_end]
    rfl
  rw [this]
theorem cat_lists (x y : List UInt8) (h : x.length + y.length ≤ 1000000) (w : World) : (Op.stringOp .add ⟨x.toArray⟩ ⟨y.toArray⟩).run Tryz.prog w = .ok (.string ⟨(x ++ y).toArray⟩) w := by
  rw [run_string_add_sum _ _ _ (by show x.toArray.size + y.toArray.size ≤ _; simp; omega), ByteArray.mk_append_mk]

theorem sumC_nonneg (l : List UInt8) (k : Nat) : 0 ≤ sumC false l k := by
  induction k with
  | zero => simp [sumC]
  | succ k ih =>
    have hb := bAt_range l k
    rw [sumC, bv_u]
    split <;> omega
theorem most7 : mostF 7 = 262143 := by unfold mostF ipw; decide +kernel
theorem sumH_oct (s : ByteArray) : 0 ≤ sumH false s ∧ sumH false s ≤ mostF 7 := by
  rw [most7]
  have h1 := sumC_nonneg s.data.toList 512
  have h2 := sumH_range false s
  unfold sumH at *; omega

/-- The pieces of a sealed header, joined one by one; opaque. -/
theorem seal_pieces (s : ByteArray) (h : s.size = 512) : ∃ T X Y D : ByteArray,
    (∀ w, (Instr.slice 9 (.string s) none (some (.int .i64 148)) none).run Tryz.prog w = .ok (.string T) w) ∧
    (∀ w, (Op.stringOp .add T (strOfNums (octNums (sumH false s) 7))).run Tryz.prog w = .ok (.string X) w) ∧
    (∀ w, (Op.stringOp .add X ⟨#[32]⟩).run Tryz.prog w = .ok (.string Y) w) ∧
    (∀ w, (Instr.slice 9 (.string s) (some (.int .i64 156)) none none).run Tryz.prog w = .ok (.string D) w) ∧
    (∀ w, (Op.stringOp .add Y D).run Tryz.prog w = .ok (.string (sealB s)) w) := by
  have hl : s.data.toList.length = 512 := by simpa using h
  refine ⟨_, _, _, _, seal_to s h, fun w => cat_lists _ _ ?_ w, fun w => cat_lists _ [32] ?_ w, seal_from s h, fun w => cat_lists _ _ ?_ w⟩
  · simp [octNums_length]; omega
  · simp [octNums_length]; omega
  · simp [octNums_length]; omega

set_option maxHeartbeats 1000000 in
theorem seal_ok (s : ByteArray) (w : World) (h : s.size = 512) :
    Calls Tryz.prog 174 #[.string s] w fun e w' => e = .returned (.tuple #[.string (sealB s), .nilIface]) ∧ Below w.heap.size w w' := by
  obtain ⟨T, X, Y, D, z1, z2, z3, z4, z5⟩ := seal_pieces s h
  have ho := sumH_oct s
  have H := Lib.hid h
  have Ho := Lib.hid ho
  clear h ho
  go_enter Tryz.func174, Tryz.ntmps174
  go_wp2_with (first
    | (go_at_call 214; refine (sum_ok _ _ _ H.out).mono ?_; rintro x w2 ⟨rfl, hw⟩; replace hw := hw.symm; subst hw)
    | (go_at_call 238; refine (octal_ok _ 7 _ (by omega) (by omega) Ho.out.1 Ho.out.2).mono ?_; rintro x w2 ⟨rfl, hb⟩))
  go_quiet (fail)
  clear z1 z2 z3 z4 z5
  go_wp2
  go_ret2
  exact ⟨rfl, below_drewN hb _⟩

set_option maxHeartbeats 1000000 in
theorem refSeal_ok (s : ByteArray) (w : World) (h : s.size = 512) :
    Calls Tryz.prog 160 #[.string s] w fun e w' => e = .returned (.tuple #[.string (sealB s), .int .i64 0]) ∧ Below w.heap.size w w' := by
  obtain ⟨T, X, Y, D, z1, z2, z3, z4, z5⟩ := seal_pieces s h
  have ho := sumH_oct s
  have hr := sumH_range false s
  have H := Lib.hid h
  have Ho := Lib.hid ho
  have Hr := Lib.hid hr
  clear h ho hr
  go_enter Tryz.func160, Tryz.ntmps160
  go_wp2_with (first
    | (go_at_call 120; refine (refSum_ok _ _ _ H.out).mono ?_; rintro x w1 ⟨rfl, hb1⟩)
    | (go_at_call 159; refine (refOctal_ok _ 7 _ (by omega) (by omega) Ho.out.1 (by have := Hr.out; omega) Ho.out.2).mono ?_; rintro x w2 ⟨rfl, hb2⟩))
  go_quiet (fail)
  clear z1 z2 z3 z4 z5
  go_wp2
  go_ret2
  exact ⟨rfl, below_drewN (hb1.trans (hb2.mono hb1.size)) _⟩

end Go.Proofs.YthnonmniponahaaGreatDoor
end
section
/- block.Right and the reference's HeadRight: what each returns; the law BlockRights' walk. -/
namespace Go.Proofs.YthnonmniponahaaGreatDoor
open Go.RowKit

/-- the checksum's field. -/
def fieldS (s : ByteArray) : ByteArray := s.extract 148 156
/-- A header's checksum is one of its two sums. -/
def rightP (s : ByteArray) : Prop := s.size = 512 ∧ (readS (fieldS s)).2 = 0 ∧ ((readS (fieldS s)).1 = sumH false s ∨ (readS (fieldS s)).1 = sumH true s)

end Go.Proofs.YthnonmniponahaaGreatDoor
end
section
/- fielded, pick; what is written is read; the laws NumberBack, NumberOrder, NumberOne: their walks. -/
namespace Go.Proofs.YthnonmniponahaaGreatDoor
open Go.RowKit

end Go.Proofs.YthnonmniponahaaGreatDoor
end
section
/- The laws NumberOrder, NumberOne, NumberBack: their walks. -/
namespace Go.Proofs.YthnonmniponahaaGreatDoor
open Go.RowKit
set_option linter.unusedVariables false
set_option linter.unusedSimpArgs false

theorem mostF_lt (n : Int) (W : Nat) (h1 : 2 ≤ W) (h2 : W ≤ 20) (hn : 0 ≤ n) : n ≤ mostF W ↔ n < 8 ^ (W - 1) := by
  rw [mostF_octn n W h1 h2 hn, octn_pow n hn]

/-! ### NumberOne -/
end Go.Proofs.YthnonmniponahaaGreatDoor
end
section
/- Contracts of number.Most, revetmentref.Most, within, power: what each returns, for every int. -/
namespace Go.Proofs.YthnonmniponahaaGreatDoor
open Go.RowKit

theorem refMost_any (a : Int) (w : World) :
    Calls Tryz.prog 164 #[.int .i64 a] w fun e w' => e = .returned (.int .i64 (mostF a)) ∧ w' = w := by
  by_cases h : 2 ≤ a ∧ a ≤ 20
  · have hp := pow8_le a h
    have hm : mostF a = ipw 8 (a - 1) - 1 := by unfold mostF; rw [if_pos h]
    have Hm := Lib.hid hm
    obtain ⟨g1, g2⟩ := h
    obtain ⟨p1, p2⟩ := hp
    clear hm
    go_enter Tryz.func164, Tryz.ntmps164
    go_wp2_with (first
      | (go_at_call 29; refine (within_yes _ _ _ _ (by omega) (by omega)).mono ?_; rintro e w' ⟨rfl, rfl⟩)
      | (go_at_call 191; refine (power_any _ _ (by omega) (by omega) (by omega) (by omega) _).mono ?_; rintro e w' ⟨rfl, rfl⟩))
    go_ret
    exact ⟨by rw [Hm.out]; rfl, rfl⟩
  · have hm : mostF a = 0 := by unfold mostF; rw [if_neg h]
    have Hm := Lib.hid hm
    have h' : a < 2 ∨ 20 < a := by omega
    have H' := Lib.hid h'
    clear hm h h'
    go_enter Tryz.func164, Tryz.ntmps164
    go_wp2_with (go_at_call 29; refine (within_no _ _ _ _ H'.out).mono ?_; rintro e w' ⟨rfl, rfl⟩)
    go_ret
    exact ⟨by rw [Hm.out]; rfl, rfl⟩

/-! ### Pad -/
end Go.Proofs.YthnonmniponahaaGreatDoor
end
section
/- strings.Builder at this program: Grow, WriteString, WriteByte, String, by the shelf's contracts. -/
namespace Go.Proofs.YthnonmniponahaaGreatDoor
open Go.RowKit Go.Shelf

def bldRen : Go.Shelf.Ren := ⟨fun | 167 => 178 | n => Tryz.lays105_ren.f n, Tryz.lays105_ren.t, Tryz.lays105_ren.g⟩
theorem bld167 : Go.Proofs.Lays.n167 Tryz.prog bldRen := { Tryz.lays105 with f167 := Tryz.func178.trans (congrArg some (by kernel_rfl)) }
theorem bld166 : Go.Proofs.Lays.n166 Tryz.prog Tryz.lays105_ren := { Tryz.lays105 with }
theorem bldX : Builder.Extra Tryz.prog bldRen := {
  sizeBuilder := by kernel_rfl
  liesBuilder := by kernel_rfl
  t5 := Tryz.underlying5
  a5 := Tryz.isAgg5
  z5 := Tryz.sizeOf5
  v5 := Tryz.zeroValue5
  infoByte := by kernel_rfl
  cellsByte := by kernel_rfl
  sizeByte := by kernel_rfl
  neB5 := by decide }

theorem bld_WriteString (B b : Nat) (bs : List Value) (s : ByteArray) (w : World) (h : Lib.IsBuilder 144 5 B b bs w) (hlen : bs.length + s.size ≤ 140737488355328) (hBw : B ≤ w.heap.size) :
    Calls Tryz.prog 92 #[.pointer (some ⟨b, 0, none⟩), .string s] w fun e w' => e = .returned (.tuple #[.int .i64 s.size, .nilIface]) ∧ (Lib.BuilderAt 144 5 B b (.pointer (some ⟨b, 0, none⟩)) (bs ++ Lib.strCells s) w' ∧ Below B w w') :=
  Any.Builder_WriteString bld166 Tryz.Builder_Extra_105 B b bs s w h hlen hBw
theorem bld_WriteByte (B b : Nat) (bs : List Value) (c : Int) (w : World) (h : Lib.IsBuilder 144 5 B b bs w) (hlen : bs.length + 1 ≤ 140737488355328) (hBw : B ≤ w.heap.size) :
    Calls Tryz.prog 178 #[.pointer (some ⟨b, 0, none⟩), .int .u8 c] w fun e w' => e = .returned .nilIface ∧ (Lib.BuilderAt 144 5 B b (.pointer (some ⟨b, 0, none⟩)) (bs ++ [.int .u8 c]) w' ∧ Below B w w') :=
  Any.Builder_WriteByte bld167 bldX B b bs c w h hlen hBw
theorem bld_Grow (B b n : Nat) (w : World) (hB : B ≤ b) (hbk : w.heap[b]? = some (.cells #[.pointer none, .slice none 0 0] 144 (0, 0))) (hBw : B ≤ w.heap.size) (hn : n ≤ 281474976710656) :
    Calls Tryz.prog 177 #[.pointer (some ⟨b, 0, none⟩), .int .i64 n] w fun e w' => e = .returned (.tuple #[]) ∧ (Lib.BuilderAt 144 5 B b (.pointer (some ⟨b, 0, none⟩)) [] w' ∧ Below B w w') :=
  Tryz.Builder_Grow_fresh B b n w hB hbk hBw hn
theorem bld_String (B b : Nat) (l : List UInt8) (w : World) (h : Lib.IsBuilder 144 5 B b (Lib.byteCells l) w) (hBw : B ≤ w.heap.size) :
    Calls Tryz.prog 97 #[.pointer (some ⟨b, 0, none⟩)] w fun e w' => e = .returned (.string (mkS l)) ∧ Below B w w' :=
  Tryz.Builder_String_any B b l w h hBw
end Go.Proofs.YthnonmniponahaaGreatDoor
end
section
/- The law NumberBack's walk. -/
namespace Go.Proofs.YthnonmniponahaaGreatDoor
open Go.RowKit
set_option linter.unusedVariables false

end Go.Proofs.YthnonmniponahaaGreatDoor
end
section
/- The law NumberBlind's walk. -/
namespace Go.Proofs.YthnonmniponahaaGreatDoor
open Go.RowKit
set_option linter.unusedVariables false

theorem repeat_any (c : UInt8) (n : Nat) (w : World) (h2 : n ≤ 1000) :
    Calls Tryz.prog 121 #[.string ⟨#[c]⟩, .int .i64 n] w fun e w' => e = .returned (.string (mkS (List.replicate n c))) ∧ Below w.heap.size w w' := by
  have h := Tryz.strings_Repeat ⟨#[c]⟩ n w (by omega) (by show 1 * n ≤ _; omega)
  have e : (⟨(Lib.repeatL [c] n).toArray⟩ : ByteArray) = mkS (List.replicate n c) := by
    have hc : ∀ m, Lib.repeatL [c] m = List.replicate m c := by
      intro m
      induction m with
      | zero => rfl
      | succ m ih => rw [Lib.repeatL, ih]; rfl
    unfold mkS
    rw [hc]
  rwa [e] at h

theorem cat_mkS (x y : List UInt8) (h : x.length + y.length ≤ 1000000) (w : World) : (Op.stringOp .add (mkS x) (mkS y)).run Tryz.prog w = .ok (.string (mkS (x ++ y))) w := cat_lists x y h w

end Go.Proofs.YthnonmniponahaaGreatDoor
end
section
/- block.Fill, block.Zero and the reference's: what each returns; the law BlockWhole's walk. -/
namespace Go.Proofs.YthnonmniponahaaGreatDoor
open Go.RowKit
set_option linter.unusedVariables false
set_option linter.unusedSimpArgs false

/-- A filled text. -/
def fillL (l : List UInt8) : List UInt8 := l ++ List.replicate (padF l.length).toNat 0
theorem padF_range (n : Int) : 0 ≤ padF n ∧ padF n ≤ 511 := by unfold padF; split <;> omega

theorem bytes_zero (l : List UInt8) (k : Nat) : Lib.byteCells (l ++ List.replicate k 0) ++ [Value.int .u8 0] = Lib.byteCells (l ++ List.replicate (k + 1) 0) := by
  unfold Lib.byteCells
  rw [List.replicate_succ', ← List.append_assoc, List.map_append (l₂ := [0])]
  rfl

set_option maxRecDepth 100000 in
set_option maxHeartbeats 2000000 in
theorem fill_any (l : List UInt8) (w : World) (hl : l.length ≤ 100000) :
    Calls Tryz.prog 100 #[.string (mkS l)] w fun e w' => e = .returned (.string (mkS (fillL l))) ∧ Below w.heap.size w w' := by
  obtain ⟨hp1, hp2⟩ := padF_range (l.length : Int)
  have hsz := mkS_size l
  obtain ⟨P, hP⟩ := Int.eq_ofNat_of_zero_le hp1
  have hP2 : P ≤ 511 := by omega
  have hfill : fillL l = l ++ List.replicate P 0 := by unfold fillL; rw [hP]; rfl
  have Hf := Lib.hid hfill
  have hbk : (w.alloc (.cells #[.pointer none, .slice none 0 0] 144)).heap[w.heap.size]? = some (.cells #[.pointer none, .slice none 0 0] 144 (0, 0)) := by
    show (w.heap.push _)[w.heap.size]? = _
    rw [Array.getElem?_push_size]
  have Hbk := Lib.hid hbk
  have hba : Below w.heap.size w (w.alloc (.cells #[.pointer none, .slice none 0 0] 144)) := (Below.refl _ _).alloc (Nat.le_refl _) _
  clear hbk hfill
  go_enter Tryz.func100, Tryz.ntmps100
  go_wp2_with (go_at_call 141; refine (pad_any _ _ (by omega)).mono ?_; rintro x w2 ⟨rfl, hw⟩; replace hw := hw.symm; subst hw)
  rw [show ((l.length : Int) + (P : Int)) = ((l.length + P : Nat) : Int) by omega]
  refine (bld_Grow w.heap.size w.heap.size (l.length + P) _ (Nat.le_refl _) Hbk.out (by have := hba.size; exact this) (by omega)).mono ?_; rintro x w1 ⟨rfl, hg1, hb1⟩
  have hb1' := hba.trans hb1
  clear hba hb1
  go_wp2_with fail
  refine (bld_WriteString w.heap.size w.heap.size [] (mkS l) _ (.inr hg1) (by rw [mkS_size]; simp only [List.length_nil]; omega) hb1'.size).mono ?_; rintro x w2 ⟨rfl, hg2, hb2⟩
  have hb2' := hb1'.trans hb2
  have hc2 : [] ++ Lib.strCells (mkS l) = Lib.byteCells (l ++ List.replicate 0 0) := by
    unfold Lib.strCells Lib.byteCells; rw [mkS_list]; simp
  rw [hc2] at hg2
  have Hg2 := Lib.hid hg2
  clear hg1 hg2 hb1' hb2 hc2
  go_wp2_with fail
  go_loopw [16] (fun i wr => ∃ k : Nat, k ≤ P ∧ i = .int .i64 (k : Int) ∧ Lib.BuilderAt 144 5 w.heap.size w.heap.size (.pointer (some ⟨w.heap.size, 0, none⟩)) (Lib.byteCells (l ++ List.replicate k 0)) wr ∧ Below w.heap.size w wr) (fun i _ => P - (intOf i).toNat)
  case atStart => exact ⟨0, by omega, rfl, Hg2.out, hb2'⟩
  case round =>
    obtain ⟨k, hk, rfl, hg, hb⟩ := hrel
    clear Hg2 hb2'
    have Hg := Lib.hid hg
    clear hg
    by_cases hlt : k < P
    · have hlt2 : (k : Int) < (P : Int) := by omega
      go_wp2_with (go_at_call 178; refine (bld_WriteByte w.heap.size w.heap.size _ 0 _ (.inr Hg.out) ?_ hb.size).mono ?_; (rw [Lib.byteCells_length]; simp; omega); rintro x w3 ⟨rfl, hg3, hb3⟩)
      rw [bytes_zero] at hg3
      go_roundw
      case rel => exact ⟨k + 1, by omega, by go_num, hg3, hb.trans hb3⟩
      case measure => simp [intOf]; omega
    · obtain rfl : k = P := by omega
      go_wp2_with (go_at_call 97; refine (bld_String w.heap.size w.heap.size _ _ (.inr Hg.out) hb.size).mono ?_; rintro x w3 ⟨rfl, hb3⟩)
      go_ret
      exact ⟨by rw [Hf.out]; rfl, hb.trans hb3⟩
end Go.Proofs.YthnonmniponahaaGreatDoor
end
section
/- block.Zero, the reference's Fill and Zero: what each returns; the law BlockWhole's walk. -/
namespace Go.Proofs.YthnonmniponahaaGreatDoor
open Go.RowKit
set_option linter.unusedVariables false
set_option linter.unusedSimpArgs false

set_option maxRecDepth 100000 in
theorem refFill_any (l : List UInt8) (w : World) (hl : l.length ≤ 100000) :
    Calls Tryz.prog 163 #[.string (mkS l)] w fun e w' => e = .returned (.string (mkS (fillL l))) ∧ Below w.heap.size w w' := by
  obtain ⟨hp1, hp2⟩ := padF_range (l.length : Int)
  have hsz := mkS_size l
  obtain ⟨P, hP⟩ := Int.eq_ofNat_of_zero_le hp1
  have hfill : fillL l = l ++ List.replicate P 0 := by unfold fillL; rw [hP]; rfl
  have hcat := fun w => cat_mkS l (List.replicate P 0) (by rw [List.length_replicate]; omega) w
  rw [← hfill] at hcat
  have hP2 : P ≤ 511 := by omega
  have HP := Lib.hid hP
  clear hfill hP
  go_enter Tryz.func163, Tryz.ntmps163
  go_wp2_with fail
  refine (refPad_any _ _ (by omega)).mono ?_; rintro x w2 ⟨rfl, hw⟩; replace hw := hw.symm; subst hw
  rw [HP.out]
  go_wp2_with fail
  refine (repeat_any 0 P _ (by omega)).mono ?_; rintro x w3 ⟨rfl, hb⟩
  go_wp2_with fail
  go_ret
  exact ⟨rfl, hb⟩

end Go.Proofs.YthnonmniponahaaGreatDoor
end
