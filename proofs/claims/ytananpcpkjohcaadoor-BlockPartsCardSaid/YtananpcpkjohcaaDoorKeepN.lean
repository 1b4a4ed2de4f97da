/- The laws NumberOrder, NumberOne, NumberBack: their walks. -/
import Derived.Test.YtananpcpkjohcaaDoorField
namespace Go.Proofs.YtananpcpkjohcaaDoor
open Go.RowKit
set_option linter.unusedVariables false
set_option linter.unusedSimpArgs false

theorem mostF_lt (n : Int) (W : Nat) (h1 : 2 ≤ W) (h2 : W ≤ 20) (hn : 0 ≤ n) : n ≤ mostF W ↔ n < 8 ^ (W - 1) := by
  rw [mostF_octn n W h1 h2 hn, octn_pow n hn]

theorem str_eq (x y : List Int) : ((strOfNums x).toList == (strOfNums y).toList) = decide ((x.map u8) = (y.map u8)) := by
  rw [ByteArray.toList_eq, ByteArray.toList_eq, strOf_list, strOf_list, Bool.eq_iff_iff]
  simp

theorem oct_inj (a b : Int) (W : Nat) (h1 : 2 ≤ W) (h2 : W ≤ 20) (ha : 0 ≤ a) (ha2 : a ≤ mostF W) (hb : 0 ≤ b) (hb2 : b ≤ mostF W) (h : (octNums a W).map u8 = (octNums b W).map u8) : a = b := by
  have e1 := back_oct a W h1 h2 ha ((mostF_lt a W h1 h2 ha).1 ha2)
  have e2 := back_oct b W h1 h2 hb ((mostF_lt b W h1 h2 hb).1 hb2)
  rw [h, e2] at e1
  exact (Prod.mk.inj e1).1.symm

/-- Octal: it fits or it does not. -/
theorem octal_case (n : Int) (V : Nat) (h1 : 2 ≤ V) (h2 : V ≤ 20) : (0 ≤ n ∧ n ≤ mostF V) ∨ (n < 0 ∨ mostF V < n) := by omega

set_option maxRecDepth 100000 in
set_option maxHeartbeats 1000000 in
theorem numberOrder_walk (a0 : Int) (w0 : (Lit.int .i64 a0).wf = true) (a1 : Int) (w1 : (Lit.int .i64 a1).wf = true) (a2 : Int) (w2 : (Lit.int .i64 a2).wf = true) (w : World) :
    Calls Tryd.prog 8 #[.int .i64 a0, .int .i64 a1, .int .i64 a2] w fun e w' => e = .returned (.bool true) ∧ Below w.heap.size w w' := by
  have hp := pickF_range a2 19 (by omega)
  obtain ⟨V, hV⟩ : ∃ V : Nat, 2 + pickF a2 19 = (V : Int) := ⟨(2 + pickF a2 19).toNat, by omega⟩
  have h1 : 2 ≤ V := by omega
  have h2 : V ≤ 20 := by omega
  clear w0 w1 w2
  have HV := Lib.hid hV
  obtain ⟨hp1, hp2⟩ := hp
  clear hV
  rcases octal_case a0 V h1 h2 with ⟨ha, ha2⟩ | ha
  · have ca : ∀ w, Calls Tryd.prog 24 #[.int .i64 a0, .int .i64 (2 + pickF a2 19)] w fun e w' => e = .returned (.tuple #[.string (strOfNums (octNums a0 V)), .nilIface]) ∧ Below w.heap.size w w' := fun w => by rw [HV.out]; exact octal_ok a0 V w h1 h2 ha ha2
    have Ca := Lib.hid ca
    clear ca
    rcases octal_case a1 V h1 h2 with ⟨hb, hb2⟩ | hb
    · have cb : ∀ w, Calls Tryd.prog 24 #[.int .i64 a1, .int .i64 (2 + pickF a2 19)] w fun e w' => e = .returned (.tuple #[.string (strOfNums (octNums a1 V)), .nilIface]) ∧ Below w.heap.size w w' := fun w => by rw [HV.out]; exact octal_ok a1 V w h1 h2 hb hb2
      have Cb := Lib.hid cb
      clear cb
      have hl := less_oct a0 a1 V ha hb ((mostF_lt a0 V h1 h2 ha).1 ha2) ((mostF_lt a1 V h1 h2 hb).1 hb2)
      have he := str_eq (octNums a0 V) (octNums a1 V)
      have hi := oct_inj a0 a1 V h1 h2 ha ha2 hb hb2
      have hcase : (decide (a0 < a1) = true ∧ (a0 == a1) = false ∧ Op.bytesLess (strOfNums (octNums a0 V)).toList (strOfNums (octNums a1 V)).toList = true ∧ ((strOfNums (octNums a0 V)).toList == (strOfNums (octNums a1 V)).toList) = false)
          ∨ (decide (a0 < a1) = false ∧ (a0 == a1) = true ∧ Op.bytesLess (strOfNums (octNums a0 V)).toList (strOfNums (octNums a1 V)).toList = false ∧ ((strOfNums (octNums a0 V)).toList == (strOfNums (octNums a1 V)).toList) = true)
          ∨ (decide (a0 < a1) = false ∧ (a0 == a1) = false ∧ Op.bytesLess (strOfNums (octNums a0 V)).toList (strOfNums (octNums a1 V)).toList = false ∧ ((strOfNums (octNums a0 V)).toList == (strOfNums (octNums a1 V)).toList) = false) := by
        rcases Int.lt_trichotomy a0 a1 with h | h | h
        · refine .inl ⟨by simpa using h, by rw [beq_eq_false_iff_ne]; omega, by rw [hl]; simpa using h, ?_⟩
          rw [he]; simp only [decide_eq_false_iff_not]; intro e; have := hi e; omega
        · refine .inr (.inl ⟨by simp; omega, by rw [beq_iff_eq]; exact h, by rw [hl]; simp; omega, ?_⟩)
          rw [he, h]; simp
        · refine .inr (.inr ⟨by simp; omega, by rw [beq_eq_false_iff_ne]; omega, by rw [hl]; simp; omega, ?_⟩)
          rw [he]; simp only [decide_eq_false_iff_not]; intro e; have := hi e; omega
      clear hl he hi ha ha2 hb hb2
      generalize strOfNums (octNums a0 V) = s at *
      generalize strOfNums (octNums a1 V) = t at *
      rcases hcase with ⟨q1, q2, q3, q4⟩ | ⟨q1, q2, q3, q4⟩ | ⟨q1, q2, q3, q4⟩
      all_goals
        go_enter Tryd.func8, Tryd.ntmps8
        go_wp2_with (first
          | (go_at_call 29; refine (fielded_true _).mono ?_; rintro x w1 ⟨rfl, hb1⟩)
          | (go_at_call 30; refine (pick_any _ _ _ (by omega) (by omega)).mono ?_; rintro x w2 ⟨rfl, hw⟩; replace hw := hw.symm; subst hw))
        refine (Ca.out _).mono ?_; rintro x w2 ⟨rfl, hb2⟩
        go_wp2_with fail
        refine (Cb.out _).mono ?_; rintro x w3 ⟨rfl, hb3⟩
        go_wp2_with fail
        go_ret
        exact ⟨rfl, (hb1.trans (hb2.mono hb1.size)).trans (hb3.mono (Nat.le_trans hb1.size hb2.size))⟩
    · have cb : ∀ w, Calls Tryd.prog 24 #[.int .i64 a1, .int .i64 (2 + pickF a2 19)] w fun e w' => e = .returned (.tuple #[.string ByteArray.empty, .iface 22 (.int .i64 2)]) ∧ w' = w := fun w => by rw [HV.out]; exact octal_range a1 V w (by omega) (by omega) hb
      have Cb := Lib.hid cb
      clear cb ha ha2 hb
      go_enter Tryd.func8, Tryd.ntmps8
      go_wp2_with (first
        | (go_at_call 29; refine (fielded_true _).mono ?_; rintro x w1 ⟨rfl, hb1⟩)
        | (go_at_call 30; refine (pick_any _ _ _ (by omega) (by omega)).mono ?_; rintro x w2 ⟨rfl, hw⟩; replace hw := hw.symm; subst hw))
      refine (Ca.out _).mono ?_; rintro x w2 ⟨rfl, hb2⟩
      go_wp2_with fail
      refine (Cb.out _).mono ?_; rintro x w3 ⟨rfl, hw⟩; replace hw := hw.symm; subst hw
      go_wp2_with fail
      go_ret
      exact ⟨rfl, hb1.trans (hb2.mono hb1.size)⟩
  · have ca : ∀ w, Calls Tryd.prog 24 #[.int .i64 a0, .int .i64 (2 + pickF a2 19)] w fun e w' => e = .returned (.tuple #[.string ByteArray.empty, .iface 22 (.int .i64 2)]) ∧ w' = w := fun w => by rw [HV.out]; exact octal_range a0 V w (by omega) (by omega) ha
    have Ca := Lib.hid ca
    clear ca
    rcases octal_case a1 V h1 h2 with ⟨hb, hb2⟩ | hb
    · have cb : ∀ w, Calls Tryd.prog 24 #[.int .i64 a1, .int .i64 (2 + pickF a2 19)] w fun e w' => e = .returned (.tuple #[.string (strOfNums (octNums a1 V)), .nilIface]) ∧ Below w.heap.size w w' := fun w => by rw [HV.out]; exact octal_ok a1 V w h1 h2 hb hb2
      have Cb := Lib.hid cb
      clear cb ha hb hb2
      go_enter Tryd.func8, Tryd.ntmps8
      go_wp2_with (first
        | (go_at_call 29; refine (fielded_true _).mono ?_; rintro x w1 ⟨rfl, hb1⟩)
        | (go_at_call 30; refine (pick_any _ _ _ (by omega) (by omega)).mono ?_; rintro x w2 ⟨rfl, hw⟩; replace hw := hw.symm; subst hw))
      refine (Ca.out _).mono ?_; rintro x w2 ⟨rfl, hw⟩; replace hw := hw.symm; subst hw
      go_wp2_with fail
      refine (Cb.out _).mono ?_; rintro x w3 ⟨rfl, hb3⟩
      go_wp2_with fail
      go_ret
      exact ⟨rfl, hb1.trans (hb3.mono hb1.size)⟩
    · have cb : ∀ w, Calls Tryd.prog 24 #[.int .i64 a1, .int .i64 (2 + pickF a2 19)] w fun e w' => e = .returned (.tuple #[.string ByteArray.empty, .iface 22 (.int .i64 2)]) ∧ w' = w := fun w => by rw [HV.out]; exact octal_range a1 V w (by omega) (by omega) hb
      have Cb := Lib.hid cb
      clear cb ha hb
      go_enter Tryd.func8, Tryd.ntmps8
      go_wp2_with (first
        | (go_at_call 29; refine (fielded_true _).mono ?_; rintro x w1 ⟨rfl, hb1⟩)
        | (go_at_call 30; refine (pick_any _ _ _ (by omega) (by omega)).mono ?_; rintro x w2 ⟨rfl, hw⟩; replace hw := hw.symm; subst hw))
      refine (Ca.out _).mono ?_; rintro x w2 ⟨rfl, hw⟩; replace hw := hw.symm; subst hw
      go_wp2_with fail
      refine (Cb.out _).mono ?_; rintro x w3 ⟨rfl, hw⟩; replace hw := hw.symm; subst hw
      go_wp2_with fail
      go_ret
      exact ⟨rfl, hb1⟩

/-! ### NumberOne -/
/-- What is written is read. -/
theorem wr_back (n W : Int) (b : Bool) (s : ByteArray) (h : Wr n W b 0 s) (hn1 : -9223372036854775808 ≤ n) (hn2 : n ≤ 9223372036854775807) : readS s = (n, 0) := by
  unfold readS
  cases h with
  | oct V _ h1 h2 h3 h4 => rw [strOf_list]; exact back_oct n V h1 h2 h3 ((mostF_lt n V h1 h2 h3).1 h4)
  | bin V h1 h2 h3 h4 => rw [strOf_list]; exact back_bin n V h1 hn1 hn2 h4
/-- The text hangs on the number and the width alone. -/
theorem wr_same (n W : Int) (b c : Bool) (s t : ByteArray) (h : Wr n W b 0 s) (k : Wr n W c 0 t) : s = t := by
  cases h with
  | oct V _ h1 h2 h3 h4 =>
    generalize hE : (V : Int) = E at k h4
    cases k with
    | oct U _ k1 k2 k3 k4 =>
      have : U = V := by omega
      subst this; rfl
    | bin U k1 k2 k3 k4 => exact absurd k3 (by omega)
  | bin V h1 h2 h3 h4 =>
    generalize hE : (V : Int) = E at k h3
    cases k with
    | oct U _ k1 k2 k3 k4 => exact absurd h3 (by omega)
    | bin U k1 k2 k3 k4 =>
      have : U = V := by omega
      subst this; rfl

set_option maxRecDepth 100000 in
set_option maxHeartbeats 1000000 in
theorem numberOne_walk (a0 : Int) (w0 : (Lit.int .i64 a0).wf = true) (a1 : Int) (w1 : (Lit.int .i64 a1).wf = true) (a2 : Int) (_w2 : (Lit.int .i64 a2).wf = true) (a3 a4 : Bool) (w : World) :
    Calls Tryd.prog 10 #[.int .i64 a0, .int .i64 a1, .int .i64 a2, .bool a3, .bool a4] w fun e w' => e = .returned (.bool true) ∧ Below w.heap.size w w' := by
  obtain ⟨ha1, ha2⟩ := bounds_i64 w0
  obtain ⟨hb1, hb2⟩ := bounds_i64 w1
  clear w0 w1 _w2
  obtain ⟨hp1, hp2⟩ := pickF_range a2 19 (by omega)
  obtain ⟨e, s, h⟩ := Wr.any a0 (2 + pickF a2 19) a3
  obtain ⟨f, t, k⟩ := Wr.any a1 (2 + pickF a2 19) a4
  by_cases he : e = 0
  · subst he
    have ca := fun w => write_nil a0 _ a3 s h ha1 ha2 w
    have Ca := Lib.hid ca
    clear ca
    by_cases hf : f = 0
    · subst hf
      have cb := fun w => write_nil a1 _ a4 t k hb1 hb2 w
      have Cb := Lib.hid cb
      clear cb
      have hst : (s.toList == t.toList) = true ∧ (a0 == a1) = true ∨ (s.toList == t.toList) = false ∧ (a0 == a1) = false := by
        by_cases hab : a0 = a1
        · subst hab
          refine .inl ⟨?_, by simp⟩
          rw [wr_same a0 _ a3 a4 s t h k]; simp
        · refine .inr ⟨?_, by simpa using hab⟩
          rw [beq_eq_false_iff_ne]
          intro hl
          rw [ByteArray.toList_eq, ByteArray.toList_eq] at hl
          have e1 := wr_back a0 _ a3 s h ha1 ha2
          have e2 := wr_back a1 _ a4 t k hb1 hb2
          unfold readS at e1 e2
          rw [hl, e2] at e1
          exact hab (Prod.mk.inj e1).1.symm
      clear h k ha1 ha2 hb1 hb2
      rcases hst with ⟨q1, q2⟩ | ⟨q1, q2⟩
      all_goals
        go_enter Tryd.func10, Tryd.ntmps10
        go_wp2_with (first
          | (go_at_call 29; refine (fielded_true _).mono ?_; rintro x w1 ⟨rfl, hb1⟩)
          | (go_at_call 30; refine (pick_any _ _ _ (by omega) (by omega)).mono ?_; rintro x w2 ⟨rfl, hw⟩; replace hw := hw.symm; subst hw))
        refine (Ca.out _).mono ?_; rintro x w2 ⟨rfl, hb2⟩
        go_wp2_with fail
        refine (Cb.out _).mono ?_; rintro x w3 ⟨rfl, hb3⟩
        go_wp2_with fail
        go_ret
        exact ⟨rfl, (hb1.trans (hb2.mono hb1.size)).trans (hb3.mono (Nat.le_trans hb1.size hb2.size))⟩
    · have cb := fun w => write_err a1 _ a4 f hf t k hb1 hb2 w
      have Cb := Lib.hid cb
      clear cb h k hf ha1 ha2 hb1 hb2
      go_enter Tryd.func10, Tryd.ntmps10
      go_wp2_with (first
        | (go_at_call 29; refine (fielded_true _).mono ?_; rintro x w1 ⟨rfl, hb1⟩)
        | (go_at_call 30; refine (pick_any _ _ _ (by omega) (by omega)).mono ?_; rintro x w2 ⟨rfl, hw⟩; replace hw := hw.symm; subst hw))
      refine (Ca.out _).mono ?_; rintro x w2 ⟨rfl, hb2⟩
      go_wp2_with fail
      refine (Cb.out _).mono ?_; rintro x w3 ⟨rfl, hb3⟩
      go_wp2_with fail
      go_ret
      exact ⟨rfl, (hb1.trans (hb2.mono hb1.size)).trans (hb3.mono (Nat.le_trans hb1.size hb2.size))⟩
  · have ca := fun w => write_err a0 _ a3 e he s h ha1 ha2 w
    have Ca := Lib.hid ca
    have cb : ∃ v : Value, (v = .nilIface ∨ ∃ f : Int, v = .iface 22 (.int .i64 f)) ∧ ∀ w, Calls Tryd.prog 28 #[.int .i64 a1, .int .i64 (2 + pickF a2 19), .bool a4] w fun x w' => x = .returned (.tuple #[.string t, v]) ∧ Below w.heap.size w w' := by
      by_cases hf : f = 0
      · subst hf; exact ⟨_, .inl rfl, fun w => write_nil a1 _ a4 t k hb1 hb2 w⟩
      · exact ⟨_, .inr ⟨f, rfl⟩, fun w => write_err a1 _ a4 f hf t k hb1 hb2 w⟩
    obtain ⟨v, hv, cb⟩ := cb
    have Cb := Lib.hid cb
    clear ca cb h k he ha1 ha2 hb1 hb2
    rcases hv with rfl | ⟨f, rfl⟩
    all_goals
      go_enter Tryd.func10, Tryd.ntmps10
      go_wp2_with (first
        | (go_at_call 29; refine (fielded_true _).mono ?_; rintro x w1 ⟨rfl, hb1⟩)
        | (go_at_call 30; refine (pick_any _ _ _ (by omega) (by omega)).mono ?_; rintro x w2 ⟨rfl, hw⟩; replace hw := hw.symm; subst hw))
      refine (Ca.out _).mono ?_; rintro x w2 ⟨rfl, hb2⟩
      go_wp2_with fail
      refine (Cb.out _).mono ?_; rintro x w3 ⟨rfl, hb3⟩
      go_wp2_with fail
      go_ret
      exact ⟨rfl, (hb1.trans (hb2.mono hb1.size)).trans (hb3.mono (Nat.le_trans hb1.size hb2.size))⟩
end Go.Proofs.YtananpcpkjohcaaDoor
