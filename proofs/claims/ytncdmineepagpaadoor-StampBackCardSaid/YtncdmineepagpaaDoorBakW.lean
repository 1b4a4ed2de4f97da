/- StampBack: true, at every argument. -/
import Derived.Test.YtncdmineepagpaaDoorBakL
namespace Go.Proofs.YtncdmineepagpaaDoor
open Go.RowKit Go.Joins

set_option maxHeartbeats 4000000 in
theorem back_none (s n : Int) (x m : List UInt8) (a0 a1 a3 : Int) (w : World) (hp : PowLaid w) (hmax : (m.length : Int) ≤ 9223372036854775807)
    (hS : Calls Tryd.prog 19 #[] w fun e w' => e = .returned (.bool true) ∧ Below w.heap.size w w')
    (t1 : ∀ w, Calls Tryd.prog 20 #[.int .i64 a0, .int .i64 a1] w fun e w' => e = .returned (tmV s n) ∧ w' = w.alloc (.cells #[.int .i64 s, .int .i64 n] 23))
    (b1 : ∀ w, PowLaid w → Calls Tryd.prog 18 #[tmV s n] w fun e w' => e = .returned (.tuple #[.string (mkS x), .nilIface]) ∧ Below w.heap.size w w')
    (b2 : ∀ w, Calls Tryd.prog 12 #[.string (mkS x)] w fun e w' => e = .returned (.tuple #[tmV s n, .nilIface]) ∧ Below w.heap.size w w')
    (hq : 20 < m.length ∨ (m.length ≤ 20 ∧ Lib.trimS m digitsL ≠ [])) :
    Calls Tryd.prog 6 #[.int .i64 a0, .int .i64 a1, .string (mkS m), .int .i64 a3] w fun e w' => e = .returned (.bool true) ∧ Below w.heap.size w w' := by
  have HS := Lib.hid hS
  have HP := Lib.hid (fun w1 (h : Below w.heap.size w w1) => hp.below h)
  have T1 := Lib.hid t1
  have B1 := Lib.hid b1
  have B2 := Lib.hid b2
  have hsm : (mkS m).size = m.length := mkS_size m
  clear hS hp t1 b1 b2
  go_enter Tryd.func6, Tryd.ntmps6
  go_upto_region 6 with (first
    | (go_at_call 19; refine HS.out.mono ?_; rintro e w1 ⟨rfl, h1⟩)
    | (go_at_call 20; with_reducible refine (T1.out _).mono ?_; rintro e w2 ⟨rfl, rfl⟩)
    | (go_at_call 18; with_reducible refine (B1.out _ (HP.out _ ((h1.alloc h1.size _).alloc (by have := h1.size; simp; omega) _))).mono ?_; rintro e w3 ⟨rfl, h3⟩)
    | (go_at_call 12; with_reducible refine (B2.out _).mono ?_; rintro e w4 ⟨rfl, h4⟩)
    | fail)
  obtain ⟨W, hW⟩ : ∃ W, W = w4.alloc (.cells #[.int .i64 s, .int .i64 n] 23) := ⟨_, rfl⟩
  rw [← hW]
  have z1 := h1.size
  have z3 := h3.size
  have z4 := h4.size
  simp only [World.size_alloc] at z3
  have g3 : Below w.heap.size w w4 := ((h1.alloc h1.size _).alloc (by simp; omega) _).trans ((h3.mono (by simp; omega)).trans (h4.mono (by omega)))
  have hbW : Below w.heap.size w W := hW ▸ g3.alloc g3.size _
  have sW : W.heap.size = w4.heap.size + 1 := by rw [hW]; simp
  have c : (∀ w', Below W.heap.size W w' → w'.cell? ⟨w1.heap.size + 1, 0, none⟩ = some (.int .i64 s) ∧ w'.cell? ⟨w1.heap.size + 1, 1, none⟩ = some (.int .i64 n) ∧ w'.cell? ⟨w4.heap.size, 0, none⟩ = some (.int .i64 s) ∧ w'.cell? ⟨w4.heap.size, 1, none⟩ = some (.int .i64 n)) := fun w' hb => by
    refine ⟨?_, ?_, ?_, ?_⟩
    · rw [hb.cell (by simp only []; omega), hW, (Below.refl w4.heap.size w4 |>.alloc (Nat.le_refl _) _).cell (by simp only []; omega), h4.cell (by simp only []; omega), h3.cell (by simp)]; simp [go_sem]
    · rw [hb.cell (by simp only []; omega), hW, (Below.refl w4.heap.size w4 |>.alloc (Nat.le_refl _) _).cell (by simp only []; omega), h4.cell (by simp only []; omega), h3.cell (by simp)]; simp [go_sem]
    · rw [hb.cell (by simp only []; omega), hW]; simp [go_sem]
    · rw [hb.cell (by simp only []; omega), hW]; simp [go_sem]
  generalize hA : w1.heap.size + 1 = A at *
  generalize hB : w4.heap.size = B at *
  obtain ⟨c0, c1, c2, c3⟩ := c W (Below.refl _ _)
  clear c hW z1 z3 z4 g3 h3 h4 h1 sW hA hB HS T1 B1 B2
  rcases hq with hq | ⟨hq, hT⟩
  · have lm : decide ((20 : Int) < (m.length : Int)) = true := by simp; omega
    clear hq
    go_wp2
    go_ret
    exact ⟨rfl, hbW⟩
  · have lm : decide ((20 : Int) < (m.length : Int)) = false := by simp; omega
    have em := mkS_emp _ hT
    have Tr := Lib.hid (fun w => trimDigits_any m w (by omega))
    generalize Lib.trimS m digitsL = T at *
    clear hq hT
    go_wp2_with (go_at_call 21; refine (Tr.out _).mono ?_; rintro e w5 ⟨rfl, h5⟩)
    go_ret
    exact ⟨rfl, hbW.trans (h5.mono hbW.size)⟩

theorem stampBack_walk (a0 : Int) (_ : (Lit.int .i64 a0).wf = true) (a1 : Int) (_ : (Lit.int .i64 a1).wf = true) (a2 : ByteArray) (w2 : a2.size ≤ maxLen) (a3 : Int) (_ : (Lit.int .i64 a3).wf = true) (w : World) (hp : PowLaid w) (hT : TabLaid w) :
    Calls Tryd.prog 6 #[.int .i64 a0, .int .i64 a1, .string a2, .int .i64 a3] w fun e w' => e = .returned (.bool true) ∧ Below w.heap.size w w' := by
  have hmax : (a2.data.toList.length : Int) ≤ 9223372036854775807 := by rw [← Lib.size_eq]; unfold maxLen at w2; omega
  rw [← mkS_self a2]
  generalize a2.data.toList = m at hmax
  clear w2 a2
  have hS := stamped_ok w hp hT
  have t1 := fun w => timed_ex a0 a1 w
  have hr := timed_right a0 a1
  generalize secF a0 = s at t1 hr
  generalize nanF a1 = n at t1 hr
  have hrb := rightB_true s n hr
  have b1 := fun w hp => text_ok s n w hp hr
  obtain ⟨neg, S, P, hS', hP, ht, hc⟩ := text_parts s n hr
  have lx : (textL s n).length ≤ 100 := by
    rw [ht, List.length_append, List.length_append]
    have h1 := dec_len15 S hS'
    have h2 : (sgL neg).length ≤ 1 := by cases neg <;> simp [sgL]
    have h3 : (fracL P).length ≤ 10 := by
      rcases Nat.eq_zero_or_pos P with rfl | h
      · simp [fracL]
      · rw [frac_part P h, List.length_cons]; have := part_len P; omega
    omega
  have b2 : ∀ w, Calls Tryd.prog 12 #[.string (mkS (textL s n))] w fun e w' => e = .returned (.tuple #[tmV s n, .nilIface]) ∧ Below w.heap.size w w' := fun w => by
    have h := parse_any (textL s n) w (by omega)
    rw [parse_text s n hr] at h
    exact h
  by_cases hq : 20 < m.length
  · exact back_none s n (textL s n) m a0 a1 a3 w hp hmax hS t1 b1 b2 (.inl hq)
  by_cases hT0 : Lib.trimS m digitsL = []
  case neg => exact back_none s n (textL s n) m a0 a1 a3 w hp hmax hS t1 b1 b2 (.inr ⟨by omega, hT0⟩)
  have hdig := (trimS_nil m).1 hT0
  obtain ⟨p1, p2⟩ := pickF_range a3 5 (by omega)
  obtain ⟨z, hz⟩ : ∃ z : Nat, pickF a3 5 = (z : Int) := ⟨(pickF a3 5).toNat, by omega⟩
  obtain ⟨h1, h2⟩ := sign_off neg (Lib.decDigits S) (fracL P) (isDig_dec S)
  rw [← ht] at h1 h2
  have hall := all_dec S
  have hV := split_at (part P) (Lib.decDigits S) hall
  have hlen := part_len P
  have hpad := part_pad P
  have hmore := parse_more neg S P z hS' hP m hdig
  have htime := time_more s n hr neg S P hP hc (!decide (Lib.trimLeftB m 48 = []))
  have hbb : (!decide (Lib.trimLeftB m 48 = [])) = !decide (Lib.trimB m 48 = []) := by
    congr 1
    exact decide_eq_decide.2 (trimB_nil m).symm
  rw [hbb] at hmore htime
  have hY : ∀ Y, Y = List.replicate z 48 ++ (Lib.decDigits S ++ 46 :: part P) ++ List.replicate (9 - (part P).length) 48 ++ m → sgL neg ++ Y = sgL neg ++ (List.replicate z 48 ++ Lib.decDigits S) ++ 46 :: (digs 9 P ++ m) := by
    rintro Y rfl
    rw [← hpad]
    simp [List.append_assoc]
  have hYY := hY _ rfl
  have b3 : ∀ w, Calls Tryd.prog 12 #[.string (mkS (sgL neg ++ (List.replicate z 48 ++ Lib.decDigits S) ++ 46 :: (digs 9 P ++ m)))] w fun e w' => e = .returned (.tuple #[tmV (timeF neg S P (!decide (Lib.trimB m 48 = []))).2.1 (timeF neg S P (!decide (Lib.trimB m 48 = []))).2.2, errV (timeF neg S P (!decide (Lib.trimB m 48 = []))).1]) ∧ Below w.heap.size w w' := fun w => by
    have h := parse_any (sgL neg ++ (List.replicate z 48 ++ Lib.decDigits S) ++ 46 :: (digs 9 P ++ m)) w (by
      have e1 := dec_len15 S hS'
      have e2 : (sgL neg).length ≤ 1 := by cases neg <;> simp [sgL]
      have e3 := digs_length 9 P
      simp only [List.length_append, List.length_cons, List.length_replicate]
      omega)
    rw [hmore] at h
    exact h
  refine back_core s n (textL s n) m (part P) neg _ (decide (0 < P)) (Lib.decDigits S ++ fracL P) (Lib.decDigits S ++ 46 :: part P) _ _ z (part P).length _ _ _ a0 a1 a3 w hp hrb.1 hrb.2.1 hrb.2.2.1 hrb.2.2.2 hz (by omega) hS t1 b1 b2 (by omega) lx hT0 h1 h2 ?_ ?_ hV.2.1 rfl hlen rfl hYY.symm b3 rfl ?_
  · rcases Nat.eq_zero_or_pos P with rfl | h
    · refine .inl ⟨rfl, ?_, by simp [fracL, part]⟩
      rw [show fracL 0 = [] from rfl, List.append_nil, index_no _ (no_point _ hall)]
      omega
    · refine .inr ⟨by simpa using h, ?_, by rw [frac_part P h]⟩
      rw [frac_part P h, (index_yes _ hV.2.2).1]
      omega
  · have e1 := dec_len15 S hS'
    rw [List.length_append, List.length_cons]
    omega
  · rcases htime with ⟨h1, h2⟩ | ⟨h1, h2, h3 | h3⟩
    · exact .inl ⟨h1, by rw [h2], by rw [h2], by rw [h2]⟩
    · exact .inr ⟨h1, h2, .inl ⟨by rw [h3], by rw [h3], by rw [h3]⟩⟩
    · exact .inr ⟨h1, h2, .inr ⟨by rw [h3], by rw [h3], by rw [h3]⟩⟩
end Go.Proofs.YtncdmineepagpaaDoor
