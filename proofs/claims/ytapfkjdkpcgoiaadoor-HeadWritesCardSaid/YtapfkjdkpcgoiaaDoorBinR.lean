/- The reference's Binary, one, char: what each returns. -/
import Derived.Test.YtapfkjdkpcgoiaaDoorPlain
import Derived.Test.YtapfkjdkpcgoiaaDoorLow
import Derived.Test.YtapfkjdkpcgoiaaDoorBin
namespace Go.Proofs.YtapfkjdkpcgoiaaDoor
open Go.RowKit

theorem one_true (w : World) : Calls Tryd.prog 71 #[.bool true] w fun e w' => e = .returned (.int .i64 1) ∧ w' = w := by
  go_enter Tryd.func71, Tryd.ntmps71
  go_wp2
  go_ret
  exact ⟨rfl, rfl⟩
theorem one_false (w : World) : Calls Tryd.prog 71 #[.bool false] w fun e w' => e = .returned (.int .i64 0) ∧ w' = w := by
  go_enter Tryd.func71, Tryd.ntmps71
  go_wp2
  go_ret
  exact ⟨rfl, rfl⟩

theorem char_any (n : Int) (w : World) (h1 : 0 ≤ n) (h2 : n ≤ 255) :
    Calls Tryd.prog 26 #[.int .i64 n] w fun e w' => e = .returned (.string (strOfNums [n])) ∧ Below w.heap.size w w' := by
  have hconv := run_convert_bytes_arg (P := Tryd.prog) (w.alloc (.cells #[.int .u8 n] 5)) 42 5 Tryd.underlying42 Tryd.underlying5 w.heap.size 0 1 1 [n] rfl (fun i hi => by
    obtain rfl : i = 0 := by omega
    simp) 9 Tryd.underlying9
  go_enter Tryd.func26, Tryd.ntmps26
  go_wp2
  go_ret
  exact ⟨rfl, by go_grown⟩

/-- the string after k rounds, one byte more. -/
theorem cat_run (x y : List Int) (w : World) (h : x.length + y.length ≤ 1000000) : (Op.stringOp .add (strOfNums x) (strOfNums y)).run Tryd.prog w = .ok (.string (strOfNums (x ++ y))) w := by
  rw [run_string_add_sum _ _ _ (by rw [strOfNums_size, strOfNums_size]; omega), strOfNums_append]

theorem refBinary_arg (n W : Int) (w : World) (h : W < 8 ∨ 20 < W) :
    Calls Tryd.prog 50 #[.int .i64 n, .int .i64 W] w fun e w' => e = .returned (.tuple #[.string ByteArray.empty, .int .i64 1]) ∧ w' = w := by
  have H := Lib.hid h
  clear h
  go_enter Tryd.func50, Tryd.ntmps50
  go_wp2_with (go_at_call 20; refine (within_no _ _ _ _ H.out).mono ?_; rintro e w' ⟨rfl, rfl⟩)
  go_ret2
  exact ⟨rfl, rfl⟩

theorem ipw255 : ipw 2 55 = 36028797018963968 := by unfold ipw; decide +kernel

theorem refBinary_range (n : Int) (w : World) (h : n < -36028797018963968 ∨ 36028797018963967 < n) :
    Calls Tryd.prog 50 #[.int .i64 n, .int .i64 8] w fun e w' => e = .returned (.tuple #[.string ByteArray.empty, .int .i64 2]) ∧ w' = w := by
  have H := Lib.hid h
  have hp : ∀ w, Calls Tryd.prog 70 #[.int .i64 2, .int .i64 55] w fun e w' => e = .returned (.int .i64 36028797018963968) ∧ w' = w := fun w => by
    have := power_any 2 55 (by omega) (by omega) (by rw [ipw255]; omega) (by omega) w
    rwa [ipw255] at this
  have Hp := Lib.hid hp
  clear h hp
  go_enter Tryd.func50, Tryd.ntmps50
  go_wp2_with fail
  refine (within_yes _ _ _ _ (by omega) (by omega)).mono ?_; rintro e w' ⟨rfl, rfl⟩
  go_wp2_with (go_at_call 70; refine (Hp.out _).mono ?_; rintro e w' ⟨rfl, rfl⟩)
  refine (within_no _ _ _ _ (by have := H.out; omega)).mono ?_; rintro e w' ⟨rfl, rfl⟩
  go_wp2_with fail
  go_ret2
  exact ⟨rfl, rfl⟩

theorem refStep (n : Int) (k : Nat) (hk : k < 8) : [uwn n k % 256] ++ beB n k = beB n (k + 1) := by
  rw [uwn_shn n k hk]; rfl
theorem refStepB (n : Int) (h1 : -9223372036854775808 ≤ n) (h2 : n ≤ 9223372036854775807) (k : Nat) (hk : 8 ≤ k) (x : Int) (hx : x = if n < 0 then 255 else 0) : [x] ++ beB n k = beB n (k + 1) := by
  show [x] ++ beB n k = (shn n k % 256 :: beB n k)
  rw [shn_big n h1 h2 k hk, hx]
  split <;> rfl

set_option maxRecDepth 100000 in
set_option maxHeartbeats 2000000 in
theorem refBinary_ok (n : Int) (W : Nat) (w : World) (hW1 : 8 ≤ W) (hW2 : W ≤ 20) (hn1 : -9223372036854775808 ≤ n) (hn2 : n ≤ 9223372036854775807) (hr : W = 8 → -36028797018963968 ≤ n ∧ n ≤ 36028797018963967) :
    Calls Tryd.prog 50 #[.int .i64 n, .int .i64 W] w fun e w' => e = .returned (.tuple #[.string (strOfNums (binNums n W)), .int .i64 0]) ∧ Below w.heap.size w w' := by
  have hp : ∀ w, Calls Tryd.prog 70 #[.int .i64 2, .int .i64 55] w fun e w' => e = .returned (.int .i64 36028797018963968) ∧ w' = w := fun w => by
    have := power_any 2 55 (by omega) (by omega) (by rw [ipw255]; omega) (by omega) w
    rwa [ipw255] at this
  have Hp := Lib.hid hp
  clear hp
  have e8 : (((W : Int) == 8) = true ∧ -36028797018963968 ≤ n ∧ n ≤ 36028797018963967) ∨ ((W : Int) == 8) = false := by
    by_cases h8 : W = 8
    · have := hr h8
      exact .inl ⟨by rw [beq_iff_eq]; omega, this⟩
    · exact .inr (by rw [beq_eq_false_iff_ne]; omega)
  clear hr
  have hd : decide (n < 0) = true ∨ decide (n < 0) = false := by cases decide (n < 0) <;> simp
  have hu : IntKind.u64.wrap n = uwn n 0 := by
    rw [uwn_zero]
    simp only [IntKind.wrap, IntKind.bits, IntKind.signed]; simp
  have Hu := Lib.hid hu
  clear hu
  rcases e8 with ⟨q1, q2, q3⟩ | q1 <;> rcases hd with hd | hd
  all_goals
    go_enter Tryd.func50, Tryd.ntmps50
    go_wp2_with fail
    refine (within_yes _ _ _ _ (by omega) (by omega)).mono ?_; rintro e w' ⟨rfl, rfl⟩
    first
      | (go_wp2_with (go_at_call 70; refine (Hp.out _).mono ?_; rintro e w' ⟨rfl, rfl⟩)
         refine (within_yes _ _ _ _ (by omega) (by omega)).mono ?_; rintro e w' ⟨rfl, rfl⟩
         go_wp2_with fail)
      | go_wp2_with fail
    clear Hp q1
    go_loopw [6, 7, 8] (fun u s i wr => ∃ k : Nat, k ≤ W - 1 ∧ i = .int .i64 ((k : Int) + 1) ∧ u = .int .u64 (uwn n k) ∧ s = .string (strOfNums (beB n k)) ∧ Below w'.heap.size w' wr) (fun _ _ i _ => W - (intOf i).toNat)
    case atStart => exact ⟨0, by omega, rfl, by rw [Hu.out], rfl, Below.refl _ _⟩
    case round =>
      obtain ⟨k, hk, rfl, rfl, rfl, hb⟩ := hrel
      have hu := uwn_le n k
      obtain ⟨hu1, hu2⟩ := hu
      have hl := beB_length n k
      by_cases hlt : k < W - 1
      · have hlt2 : (k : Int) + 1 < (W : Int) := by omega
        by_cases h8 : k < 8
        · have hadd := fun w => cat_run [uwn n k % 256] (beB n k) w (by rw [hl]; simp only [List.length_cons, List.length_nil]; omega)
          rw [refStep n k h8] at hadd
          clear hl
          go_wp2_with (go_at_call 26; refine (char_any _ _ (by omega) (by omega)).mono ?_; rintro e w1 ⟨rfl, hb1⟩)
          exact ⟨⟨k + 1, by omega, by go_num, by rw [uwn_succ], rfl, hb.trans (hb1.mono hb.size)⟩, by simp [intOf]; omega⟩
        · have h8' : 8 < (k : Int) + 1 := by omega
          have hadd := fun w => cat_run [if n < 0 then 255 else 0] (beB n k) w (by rw [hl]; simp only [List.length_cons, List.length_nil]; omega)
          rw [refStepB n hn1 hn2 k (by omega) _ rfl] at hadd
          first | rw [if_pos (by simpa using hd)] at hadd | rw [if_neg (by simpa using hd)] at hadd
          clear hl
          go_wp2_with (first
            | (go_at_call 71; refine (one_true _).mono ?_; rintro e w1 ⟨rfl, rfl⟩)
            | (go_at_call 71; refine (one_false _).mono ?_; rintro e w1 ⟨rfl, rfl⟩)
            | (go_at_call 26; refine (char_any _ _ (by omega) (by omega)).mono ?_; rintro e w1 ⟨rfl, hb1⟩))
          exact ⟨⟨k + 1, by omega, by go_num, by rw [uwn_succ], rfl, hb.trans (hb1.mono hb.size)⟩, by simp [intOf]; omega⟩
      · obtain rfl : k = W - 1 := by omega
        have hlt2 : ¬ ((W - 1 : Nat) : Int) + 1 < (W : Int) := by omega
        have hadd := fun w => cat_run [markB n] (beB n (W - 1)) w (by rw [hl]; simp only [List.length_cons, List.length_nil]; omega)
        rw [show [markB n] ++ beB n (W - 1) = binNums n W from rfl] at hadd
        unfold markB at hadd
        first | rw [if_pos (by simpa using hd)] at hadd | rw [if_neg (by simpa using hd)] at hadd
        clear hl
        go_wp2_with (first
          | (go_at_call 71; refine (one_true _).mono ?_; rintro e w1 ⟨rfl, rfl⟩)
          | (go_at_call 71; refine (one_false _).mono ?_; rintro e w1 ⟨rfl, rfl⟩)
          | (go_at_call 26; refine (char_any _ _ (by omega) (by omega)).mono ?_; rintro e w1 ⟨rfl, hb1⟩))
        go_ret2
        exact ⟨rfl, hb.trans (hb1.mono hb.size)⟩
end Go.Proofs.YtapfkjdkpcgoiaaDoor
