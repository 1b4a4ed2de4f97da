/- The law NumberBack's walk. -/
import Derived.Test.YtananpcpkjohcaaDoorKeepN
import Derived.Deep.QuietTactic
import Derived.BigQuiet
namespace Go.Proofs.YtananpcpkjohcaaDoor
open Go.RowKit
set_option linter.unusedVariables false

set_option maxRecDepth 100000 in
set_option maxHeartbeats 2000000 in
theorem numberBack_err (a0 a1 : Int) (e : Int) (s : ByteArray) (h : Wr a0 (2 + pickF a1 19) true e s) (he : e ≠ 0) (hn1 : -9223372036854775808 ≤ a0) (hn2 : a0 ≤ 9223372036854775807) (w : World) (hg : ErrLaid w) :
    Calls Tryd.prog 7 #[.int .i64 a0, .int .i64 a1] w fun e w' => e = .returned (.bool true) ∧ Below w.heap.size w w' := by
  obtain ⟨hp1, hp2⟩ := pickF_range a1 19 (by omega)
  have hc : e = 2 ∧ (2 + pickF a1 19 < 8 ∨ 2 + pickF a1 19 = 8) := by
    generalize hE : 2 + pickF a1 19 = E at h
    cases h with
    | arg _ _ h => omega
    | oct V _ h1 h2 h3 h4 => omega
    | no V _ h1 h2 h3 h4 => simp at h4; exact ⟨rfl, .inl (by omega)⟩
    | range h => exact ⟨rfl, .inr rfl⟩
    | bin V h1 h2 h3 h4 => omega
  obtain ⟨rfl, hc⟩ := hc
  have ca := fun w => write_err a0 _ true 2 he s h hn1 hn2 w
  have Ca := Lib.hid ca
  clear ca h he
  have hcase : decide (2 + pickF a1 19 < 8) = true ∨ decide (2 + pickF a1 19 < 8) = false ∧ (2 + pickF a1 19 == 8) = true := by
    rcases hc with hc | hc
    · exact .inl (by simpa using hc)
    · exact .inr ⟨by simp; omega, by rw [beq_iff_eq]; exact hc⟩
  clear hc
  rcases hcase with q1 | ⟨q1, q2⟩
  all_goals
    go_enter Tryd.func7, Tryd.ntmps7
    go_wp2_with (first
      | (go_at_call 29; refine (fielded_true _).mono ?_; rintro x w1 ⟨rfl, hb1⟩)
      | (go_at_call 30; refine (pick_any _ _ _ (by omega) (by omega)).mono ?_; rintro x w2 ⟨rfl, hw⟩; replace hw := hw.symm; subst hw))
    refine (Ca.out _).mono ?_; rintro x w2 ⟨rfl, hb2⟩
    go_wp2_with fail
    refine (tell_err _ _ ((hg.below hb1).below hb2)).mono ?_; rintro x w3 ⟨rfl, hb3⟩
    go_wp2_with fail
    go_ret
    exact ⟨rfl, (hb1.trans (hb2.mono hb1.size)).trans (hb3.mono (Nat.le_trans hb1.size hb2.size))⟩

theorem str_index0 (x : List Int) (c : Int) (r : List Int) (hx : x = c :: r) (h1 : 0 ≤ c) (h2 : c ≤ 255) (w : World) : (Instr.index 9 (.string (strOfNums x)) (.int .i64 0)).run Tryd.prog w = .ok (.int .u8 c) w := by
  have e : strOfNums x = mkS (u8 c :: r.map u8) := by
    rw [← mkS_self (strOfNums x), strOf_list, hx]; rfl
  rw [e, mkS_index _ 0 (u8 c) (by omega) rfl, u8_toNat c h1 h2]

set_option maxRecDepth 100000 in
set_option maxHeartbeats 4000000 in
theorem numberBack_ok (a0 a1 : Int) (s : ByteArray) (h : Wr a0 (2 + pickF a1 19) true 0 s) (hn1 : -9223372036854775808 ≤ a0) (hn2 : a0 ≤ 9223372036854775807) (w : World) :
    Calls Tryd.prog 7 #[.int .i64 a0, .int .i64 a1] w fun e w' => e = .returned (.bool true) ∧ Below w.heap.size w w' := by
  obtain ⟨hp1, hp2⟩ := pickF_range a1 19 (by omega)
  have hrd := wr_back a0 _ true s h hn1 hn2
  have ca := fun w => write_nil a0 _ true s h hn1 hn2 w
  have hcase : ∃ (v : Value) (c : Int), (∀ w, (Instr.index 9 (.string s) (.int .i64 0)).run Tryd.prog w = .ok (.int .u8 c) w) ∧ ((s.size : Int) == 2 + pickF a1 19) = true ∧ s.size ≤ 100 ∧
      (∀ w, Calls Tryd.prog 24 #[.int .i64 a0, .int .i64 (2 + pickF a1 19)] w fun e w' => (∃ t, e = .returned (.tuple #[.string t, v])) ∧ Below w.heap.size w w') ∧
      (v = .nilIface ∧ decide (c < 128) = true ∧ decide (0 ≤ a0) = true ∧ decide (a0 ≤ mostF (2 + pickF a1 19)) = true
        ∨ v = .iface 22 (.int .i64 2) ∧ decide (c < 128) = false ∧ (decide (0 ≤ a0) = false ∨ decide (0 ≤ a0) = true ∧ decide (a0 ≤ mostF (2 + pickF a1 19)) = false)) := by
    clear ca hrd
    generalize hE : 2 + pickF a1 19 = E at *
    cases h with
    | oct V _ h1 h2 h3 h4 =>
      obtain ⟨d, r, hd⟩ : ∃ d r, octNums a0 V = d :: r := by
        have hl := octNums_length a0 V (by omega)
        cases hx : octNums a0 V with
        | nil => rw [hx] at hl; simp at hl; omega
        | cons d r => exact ⟨d, r, rfl⟩
      have hr : 0 ≤ d ∧ d ≤ 55 := by
        have hm : d ∈ octNums a0 V := by rw [hd]; simp
        unfold octNums at hm
        rcases List.mem_append.1 hm with hm | hm
        · have := octB_range a0 _ d hm; omega
        · simp at hm; omega
      refine ⟨_, d, str_index0 _ d r hd (by omega) (by omega), ?_, ?_, fun w => (octal_ok a0 V w h1 h2 h3 h4).mono fun _ _ ⟨a, b⟩ => ⟨⟨_, a⟩, b⟩, .inl ⟨rfl, by simp; omega, by simpa using h3, by simpa using h4⟩⟩
      · rw [beq_iff_eq, strOfNums_size, octNums_length a0 V (by omega)]
      · rw [strOfNums_size, octNums_length a0 V (by omega)]; omega
    | bin V h1 h2 h3 h4 =>
      have hd : binNums a0 V = markB a0 :: beB a0 (V - 1) := rfl
      have hr : 128 ≤ markB a0 ∧ markB a0 ≤ 255 := by unfold markB; split <;> omega
      refine ⟨_, markB a0, str_index0 _ _ _ hd (by omega) (by omega), ?_, ?_, fun w => (octal_range a0 V w (by omega) (by omega) h3).mono fun _ w' ⟨a, b⟩ => ⟨⟨_, a⟩, b ▸ Below.refl _ _⟩, .inr ⟨rfl, by simp; omega, ?_⟩⟩
      · rw [beq_iff_eq, strOfNums_size, binNums_length a0 V (by omega)]
      · rw [strOfNums_size, binNums_length a0 V (by omega)]; omega
      · rcases Int.lt_or_le a0 0 with h5 | h5
        · exact .inl (by simp; omega)
        · exact .inr ⟨by simpa using h5, by simp; omega⟩
  obtain ⟨v, c, hix, hsz, hsz2, co, hv⟩ := hcase
  have Ca := Lib.hid ca
  have Co := Lib.hid co
  have Hrd := Lib.hid hrd
  have hm : s.size ≤ 9223372036854775807 := by omega
  clear ca co hrd h
  rcases hv with ⟨rfl, q1, q2, q3⟩ | ⟨rfl, q1, q2 | ⟨q2, q3⟩⟩
  all_goals
    go_enter Tryd.func7, Tryd.ntmps7
    go_wp2_with (first
      | (go_at_call 29; refine (fielded_true _).mono ?_; rintro x w1 ⟨rfl, hb1⟩)
      | (go_at_call 30; refine (pick_any _ _ _ (by omega) (by omega)).mono ?_; rintro x w2 ⟨rfl, hw⟩; replace hw := hw.symm; subst hw))
    refine (Ca.out _).mono ?_; rintro x w2 ⟨rfl, hb2⟩
    go_wp2_with fail
    refine (read_ok _ _ Hrd.out _ hm).mono ?_; rintro x w3 ⟨rfl, hb3⟩
    go_wp2_with fail
    refine (Co.out _).mono ?_; rintro x w4 ⟨⟨t, rfl⟩, hb4⟩
    go_wp2_with fail
    go_quiet ((go_at_call 32; exact Calls.quiet_of_same (most_any _ _)))
    go_wp2_with fail
    go_ret
    exact ⟨rfl, below_drewN (((hb1.trans (hb2.mono hb1.size)).trans (hb3.mono (Nat.le_trans hb1.size hb2.size))).trans (hb4.mono (Nat.le_trans hb1.size (Nat.le_trans hb2.size hb3.size)))) _⟩

theorem numberBack_walk (a0 : Int) (w0 : (Lit.int .i64 a0).wf = true) (a1 : Int) (_w1 : (Lit.int .i64 a1).wf = true) (w : World) (hg : ErrLaid w) :
    Calls Tryd.prog 7 #[.int .i64 a0, .int .i64 a1] w fun e w' => e = .returned (.bool true) ∧ Below w.heap.size w w' := by
  obtain ⟨hn1, hn2⟩ := bounds_i64 w0
  obtain ⟨e, s, h⟩ := Wr.any a0 (2 + pickF a1 19) true
  by_cases he : e = 0
  · subst he; exact numberBack_ok a0 a1 s h hn1 hn2 w
  · exact numberBack_err a0 a1 e s h he hn1 hn2 w hg
end Go.Proofs.YtananpcpkjohcaaDoor
