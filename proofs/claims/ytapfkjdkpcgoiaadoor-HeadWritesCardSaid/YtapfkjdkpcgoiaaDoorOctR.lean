/- The reference's Octal: what it returns. -/
import Derived.Test.YtapfkjdkpcgoiaaDoorOct
namespace Go.Proofs.YtapfkjdkpcgoiaaDoor
open Go.RowKit

theorem mostF_octn (n : Int) (W : Nat) (h1 : 2 ≤ W) (h2 : W ≤ 20) (hn : 0 ≤ n) : n ≤ mostF W ↔ octn n (W - 1) = 0 := by
  rw [octn_pow n hn]
  unfold mostF
  rw [if_pos ⟨by omega, by omega⟩]
  unfold ipw
  rw [show ((W : Int) - 1).toNat = W - 1 by omega]
  omega

theorem refOctal_arg (n W : Int) (w : World) (h : W < 2 ∨ 20 < W) :
    Calls Tryd.prog 49 #[.int .i64 n, .int .i64 W] w fun e w' => e = .returned (.tuple #[.string ByteArray.empty, .int .i64 1]) ∧ w' = w := by
  have H := Lib.hid h
  clear h
  go_enter Tryd.func49, Tryd.ntmps49
  go_wp2_with (go_at_call 20; refine (within_no _ _ _ _ H.out).mono ?_; rintro e w' ⟨rfl, rfl⟩)
  go_ret2
  exact ⟨rfl, rfl⟩

theorem refOctal_neg (n W : Int) (w : World) (h1 : 2 ≤ W) (h2 : W ≤ 20) (hn : n < 0) :
    Calls Tryd.prog 49 #[.int .i64 n, .int .i64 W] w fun e w' => e = .returned (.tuple #[.string ByteArray.empty, .int .i64 2]) ∧ w' = w := by
  have hn2 : ¬ 0 < n := by omega
  go_enter Tryd.func49, Tryd.ntmps49
  go_wp2_with (go_at_call 20; refine (within_yes _ _ _ _ (by omega) (by omega)).mono ?_; rintro e w' ⟨rfl, rfl⟩)
  refine wp_loop_rounds 1 ?_
  rw [rounds_succ]
  go_wp2
  go_ret2
  exact ⟨rfl, rfl⟩

theorem octStep (n : Int) (k : Nat) : [48 + octn n k % 8] ++ octB n k = octB n (k + 1) := rfl

set_option maxHeartbeats 1000000 in
theorem refOctal_range (n : Int) (W : Nat) (w : World) (h1 : 2 ≤ W) (h2 : W ≤ 20) (hn : 0 ≤ n) (hn3 : n ≤ 9223372036854775807) (hm : mostF W < n) :
    Calls Tryd.prog 49 #[.int .i64 n, .int .i64 W] w fun e w' => e = .returned (.tuple #[.string ByteArray.empty, .int .i64 2]) ∧ w' = w := by
  have hno : octn n (W - 1) ≠ 0 := fun e => by have := (mostF_octn n W h1 h2 hn).2 e; omega
  have d1 : decide (n < 0) = false := by simp; omega
  have Hno := Lib.hid hno
  clear hno hm
  go_enter Tryd.func49, Tryd.ntmps49
  go_wp2_with (go_at_call 20; refine (within_yes _ _ _ _ (by omega) (by omega)).mono ?_; rintro e w' ⟨rfl, rfl⟩)
  go_loop [6, 7] (fun s m => ∃ k : Nat, k ≤ 21 ∧ m = .int .i64 (octn n k) ∧ s = .string (strOfNums (octB n k))) (fun _ m => (intOf m).toNat)
  case atStart => exact ⟨0, by omega, by rw [octn_zero], rfl⟩
  case round =>
    obtain ⟨k, hk, rfl, rfl⟩ := hrel
    have hl := octB_length n k
    obtain ⟨hs1, hs2⟩ := octn_le n hn hn3 k
    by_cases hp : 0 < octn n k
    · have hk20 := octn_pos_small n hn hn3 k hp
      have hadd := fun w => cat_run [48 + octn n k % 8] (octB n k) w (by rw [hl]; simp only [List.length_cons, List.length_nil]; omega)
      rw [octStep n k] at hadd
      clear hl
      go_wp2_with (go_at_call 69; refine (itoa8 _ _ (by omega) (by omega)).mono ?_; rintro e w' ⟨rfl, rfl⟩)
      exact ⟨⟨k + 1, by omega, by rw [octn_succ], rfl⟩, by simp only [intOf]; omega⟩
    · have hz : octn n k = 0 := by omega
      have hkW : ¬ k ≤ W - 1 := fun h => Hno.out (by have := octn_mono n k (W - 1 - k) hz; rwa [show k + (W - 1 - k) = W - 1 by omega] at this)
      have hsz : (strOfNums (octB n k)).size = k := by rw [strOfNums_size, hl]
      have hlt : (W : Int) - 1 < (k : Int) := by omega
      clear hl hz
      go_wp2
      go_ret2
      exact ⟨rfl, rfl⟩

set_option maxHeartbeats 1000000 in
theorem refOctal_ok (n : Int) (W : Nat) (w : World) (h1 : 2 ≤ W) (h2 : W ≤ 20) (hn : 0 ≤ n) (hn3 : n ≤ 9223372036854775807) (hm : n ≤ mostF W) :
    Calls Tryd.prog 49 #[.int .i64 n, .int .i64 W] w fun e w' => e = .returned (.tuple #[.string (strOfNums (octNums n W)), .int .i64 0]) ∧ Below w.heap.size w w' := by
  have hno : octn n (W - 1) = 0 := (mostF_octn n W h1 h2 hn).1 hm
  have d1 : decide (n < 0) = false := by simp; omega
  have Hno := Lib.hid hno
  clear hno hm
  go_enter Tryd.func49, Tryd.ntmps49
  go_wp2_with (go_at_call 20; refine (within_yes _ _ _ _ (by omega) (by omega)).mono ?_; rintro e w' ⟨rfl, rfl⟩)
  go_loop [6, 7] (fun s m => ∃ k : Nat, k ≤ W - 1 ∧ m = .int .i64 (octn n k) ∧ s = .string (strOfNums (octB n k))) (fun _ m => (intOf m).toNat)
  case atStart => exact ⟨0, by omega, by rw [octn_zero], rfl⟩
  case round =>
    obtain ⟨k, hk, rfl, rfl⟩ := hrel
    have hl := octB_length n k
    obtain ⟨hs1, hs2⟩ := octn_le n hn hn3 k
    by_cases hp : 0 < octn n k
    · have hkW : k < W - 1 := by
        rcases Nat.lt_or_ge k (W - 1) with h | h
        · exact h
        · have : k = W - 1 := by omega
          subst this; have := Hno.out; omega
      have hadd := fun w => cat_run [48 + octn n k % 8] (octB n k) w (by rw [hl]; simp only [List.length_cons, List.length_nil]; omega)
      rw [octStep n k] at hadd
      clear hl
      go_wp2_with (go_at_call 69; refine (itoa8 _ _ (by omega) (by omega)).mono ?_; rintro e w' ⟨rfl, rfl⟩)
      exact ⟨⟨k + 1, by omega, by rw [octn_succ], rfl⟩, by simp only [intOf]; omega⟩
    · have hz : octn n k = 0 := by omega
      have hsz : (strOfNums (octB n k)).size = k := by rw [strOfNums_size, hl]
      have hlt : decide ((W : Int) - 1 < (k : Int)) = false := by simp; omega
      have hpad := octB_pad n k (W - 1 - k) hz
      rw [show k + (W - 1 - k) = W - 1 by omega] at hpad
      have hadd1 := fun w => cat_run (List.replicate (W - 1 - k) 48) (octB n k) w (by rw [hl, List.length_replicate]; omega)
      rw [← hpad] at hadd1
      have hadd2 := fun w => cat_run (octB n (W - 1)) [0] w (by rw [octB_length]; simp only [List.length_cons, List.length_nil]; omega)
      rw [show octB n (W - 1) ++ [0] = octNums n W from rfl] at hadd2
      clear hl hz hpad
      have h0 : (⟨#[0]⟩ : ByteArray) = strOfNums [0] := by decide +kernel
      rw [← h0] at hadd2
      clear h0
      go_wp2_with fail
      rw [show (W : Int) - 1 - (k : Int) = ((W - 1 - k : Nat) : Int) by omega]
      refine (rep48 _ _ (by omega)).mono ?_; rintro e w1 ⟨rfl, hb⟩
      go_wp2_with fail
      go_ret2
      exact ⟨rfl, hb⟩
end Go.Proofs.YtapfkjdkpcgoiaaDoor
