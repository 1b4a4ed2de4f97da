/- number.Octal and the reference's Octal: what each returns. -/
import Derived.Test.YtapfkjdkpcgoiaaDoorPlainO
import Derived.Test.YtapfkjdkpcgoiaaDoorLow
import Derived.Test.YtapfkjdkpcgoiaaDoorShelf
import Derived.Test.YtapfkjdkpcgoiaaDoorBinR
namespace Go.Proofs.YtapfkjdkpcgoiaaDoor
open Go.RowKit

theorem itoa8 (d : Int) (w : World) (h1 : 0 ≤ d) (h2 : d < 8) :
    Calls Tryd.prog 69 #[.int .i64 d] w fun e w' => e = .returned (.string (strOfNums [48 + d])) ∧ w' = w := by
  obtain ⟨n, rfl⟩ := Int.eq_ofNat_of_zero_le h1
  have hn : n < 8 := by omega
  have h := Tryd.strconv_Itoa_small n (by omega) w
  have e : (⟨(Lib.decDigits n).toArray⟩ : ByteArray) = strOfNums [48 + (n : Int)] := by
    rcases n with _ | _ | _ | _ | _ | _ | _ | _ | n
    all_goals first | omega | decide +kernel
  rwa [e] at h

theorem rep48 (n : Nat) (w : World) (h2 : n ≤ 1000) :
    Calls Tryd.prog 23 #[.string ⟨#[48]⟩, .int .i64 n] w fun e w' => e = .returned (.string (strOfNums (List.replicate n 48))) ∧ Below w.heap.size w w' := by
  have h := Tryd.strings_Repeat ⟨#[48]⟩ n w (by omega) (by show 1 * n ≤ _; omega)
  have e : (⟨(Lib.repeatL [48] n).toArray⟩ : ByteArray) = strOfNums (List.replicate n 48) := by
    have h48 : ∀ m, Lib.repeatL [48] m = (List.replicate m (48 : Int)).map fun n => UInt8.ofNat n.toNat := by
      intro m
      induction m with
      | zero => rfl
      | succ m ih => rw [Lib.repeatL, ih]; rfl
    unfold strOfNums
    rw [h48]
  rwa [e] at h

theorem octal_arg (n W : Int) (w : World) (h : W < 2 ∨ 20 < W) :
    Calls Tryd.prog 52 #[.int .i64 n, .int .i64 W] w fun e w' => e = .returned (.tuple #[.string ByteArray.empty, .iface 25 (.int .i64 1)]) ∧ w' = w := by
  rcases h with h | h
  · go_enter Tryd.func52, Tryd.ntmps52
    go_wp2
    go_ret2
    exact ⟨rfl, rfl⟩
  · have h' : ¬ W < 2 := by omega
    go_enter Tryd.func52, Tryd.ntmps52
    go_wp2
    go_ret2
    exact ⟨rfl, rfl⟩

theorem octal_range (n W : Int) (w : World) (h1 : 2 ≤ W) (h2 : W ≤ 20) (h : n < 0 ∨ mostF W < n) :
    Calls Tryd.prog 52 #[.int .i64 n, .int .i64 W] w fun e w' => e = .returned (.tuple #[.string ByteArray.empty, .iface 25 (.int .i64 2)]) ∧ w' = w := by
  rcases Int.lt_or_le n 0 with hn | hn
  · clear h
    go_enter Tryd.func52, Tryd.ntmps52
    go_wp2
    go_ret2
    exact ⟨rfl, rfl⟩
  · have hm : mostF W < n := by omega
    clear h
    go_enter Tryd.func52, Tryd.ntmps52
    go_wp2_with (go_at_call 72; refine (most_any _ _).mono ?_; rintro e w' ⟨rfl, rfl⟩)
    go_ret2
    exact ⟨rfl, rfl⟩

theorem i64_and7 (n : Int) : bits .and .i64 n 7 = n % 8 := by
  have h7 : (BitVec.ofInt 64 7).toNat = 2 ^ 3 - 1 := by decide
  have key : (BitVec.ofInt 64 n &&& BitVec.ofInt 64 7).toNat = (n % ((2 ^ 64 : Nat) : Int)).toNat % 2 ^ 3 := by
    rw [BitVec.toNat_and, BitVec.toNat_ofInt, h7, Nat.and_two_pow_sub_one_eq_mod]
  show IntKind.i64.wrap ((BitVec.ofInt 64 n &&& BitVec.ofInt 64 7).toNat : Nat) = n % 8
  rw [key, IntKind.wrap_i64]
  omega

set_option maxRecDepth 100000 in
set_option maxHeartbeats 2000000 in
theorem octal_ok (n : Int) (W : Nat) (w : World) (hW1 : 2 ≤ W) (hW2 : W ≤ 20) (hn1 : 0 ≤ n) (hn2 : n ≤ mostF W) :
    Calls Tryd.prog 52 #[.int .i64 n, .int .i64 W] w fun e w' => e = .returned (.tuple #[.string (strOfNums (octNums n W)), .nilIface]) ∧ Below w.heap.size w w' := by
  obtain ⟨i0, hi, hz0, hz1, hz2⟩ := info_parts Tryd.infoU8
  have d1 : decide ((W : Int) < 2) = false := by simp; omega
  have d2 : decide (20 < (W : Int)) = false := by simp; omega
  have d3 : decide (mostF W < n) = false := by simp; omega
  have d4 : decide (n < 0) = false := by simp; omega
  have hn3 : n ≤ 9223372036854775807 := by
    have := pow8_le W ⟨by omega, by omega⟩
    unfold mostF at hn2; rw [if_pos ⟨by omega, by omega⟩] at hn2; omega
  have h7 := fun n => i64_and7 n
  go_enter Tryd.func52, Tryd.ntmps52
  go_wp2_with (first
    | (go_at_call 72; refine (most_any _ _).mono ?_; rintro e w' ⟨rfl, hw⟩; replace hw := hw.symm; subst hw)
    | (at_make; refine wpList_make_full _ rfl _ _ 42 rfl w.heap.size 5 i0 (.int .u8 0) 1 Tryd.underlying42 hi hz0 hz1 _ _ _ _ W rfl rfl rfl rfl (by rw [hz2]; omega) (by unfold maxLen; omega) (Nat.le_refl _) ?_))
  intro w1 hown1 hgrow1
  rw [show (madeCells #[Value.int .u8 0] W).toList = (List.replicate W (0 : Int)).map (Value.int .u8) from (toList_madeCells_one _ _).trans (by simp), octRow_start n W (by omega)] at hown1
  have hb1 : Below w.heap.size w w1 := (Below.refl _ _).grown hgrow1 (Nat.le_refl _) (by intro k hk; cases hk)
  have Hown1 := Lib.hid hown1
  clear hown1 hgrow1
  go_wp2
  go_loopw [0, 28] (fun v i wr => ∃ k : Nat, k ≤ W - 1 ∧ i = .int .i64 k ∧ v = .int .i64 (octn n k) ∧ wr.ownsRow w.heap.size 5 1 (.slice (some ⟨w.heap.size, 0, none⟩) W W) W ((octRow n W k).map (Value.int .u8)) ∧ Below w.heap.size w wr) (fun _ i _ => W - (intOf i).toNat)
  case atStart => exact ⟨0, by omega, rfl, by rw [octn_zero], Hown1.out, hb1⟩
  case round =>
    obtain ⟨k, hk, rfl, rfl, hown, hb⟩ := hrel
    clear Hown1 hb1
    obtain ⟨hs1, hs2⟩ := octn_le n hn1 hn3 k
    by_cases hlt : k < W - 1
    · have hlt2 : (k : Int) < (W : Int) - 1 := by omega
      have hbr := octRow_length n W k hk (by omega)
      have hcell : ∃ c, wr.cell? ⟨w.heap.size, W - 2 - k, none⟩ = some c := by
        rw [hown.cellAt (W - 2 - k) (by omega)]
        exact ⟨_, List.getElem?_eq_getElem (by simp; omega)⟩
      obtain ⟨c, hcell⟩ := hcell
      have hfr := hown.frozenAt (W - 2 - k)
      have hst := (hown.stored (W - 2 - k) (.int .u8 (48 + octn n k % 8))).1
      rw [ints_set, octRow_step n W k hlt] at hst
      have Hst := Lib.hid hst
      clear hst hown hbr
      go_wp2
      go_roundw
      case rel =>
        exact ⟨k + 1, by omega, by go_num, by rw [octn_succ], Hst.out, hb.setCell (Nat.le_refl _) _⟩
      case measure => simp [intOf]; omega
    · obtain rfl : k = W - 1 := by omega
      have hnl : ¬ ((W - 1 : Nat) : Int) < (W : Int) - 1 := by omega
      rw [octRow_done] at hown
      have hlen := octNums_length n W (by omega)
      have hconv := run_convert_bytes_arg (P := Tryd.prog) wr 42 5 Tryd.underlying42 Tryd.underlying5 w.heap.size 0 W W (octNums n W) hlen (fun i hi => by
        rw [show 0 + i = i by omega, hown.cellAt i (by omega), List.getElem?_map, List.getElem?_eq_getElem (by omega)]
        simp [List.getD, List.getElem?_eq_getElem (show i < (octNums n W).length by omega)]) 9 Tryd.underlying9
      clear hown hlen
      go_wp2
      go_ret2
      exact ⟨rfl, hb⟩
end Go.Proofs.YtapfkjdkpcgoiaaDoor
