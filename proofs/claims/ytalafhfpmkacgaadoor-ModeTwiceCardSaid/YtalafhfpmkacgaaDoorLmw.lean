/- The law ModeTwice: its walk. -/
import Derived.Test.YtalafhfpmkacgaaDoorTwi
namespace Go.Proofs.YtalafhfpmkacgaaDoor
open Go.RowKit Go.Joins
set_option linter.unusedVariables false
set_option linter.unusedSimpArgs false
set_option maxRecDepth 100000

theorem contains_x (s : List UInt8) (w : World) : Calls Tryd.prog 20 #[.string (mkS s), .string { data := #[88] }] w fun e w' => e = .returned (.bool (s.contains 88)) ∧ w' = w := by
  have h := Tryd.strings_Contains_one (mkS s) 88 w
  rw [mkS_list, (indexByte_in s 88).2] at h
  exact h
theorem trim_some (s : List UInt8) (hs : s.length ≤ 1000000) (h : restS octS s ≠ []) (w : World) :
    Calls Tryd.prog 21 #[.string (mkS s), .string { data := #[48, 49, 50, 51, 52, 53, 54, 55] }] w fun e w' => (∃ T, e = .returned (.string (mkS T)) ∧ (mkS T).toList.isEmpty = false) ∧ Below w.heap.size w w' :=
  (trim_empty octS s (by decide) hs (by decide) w).mono fun e w' ⟨⟨T, he, hT⟩, hb⟩ => ⟨⟨T, he, by rw [mkS_emp_any, decide_eq_false (fun k => h (hT.1 k))]⟩, hb⟩
theorem trim_none (s : List UInt8) (hs : s.length ≤ 1000000) (h : restS octS s = []) (w : World) :
    Calls Tryd.prog 21 #[.string (mkS s), .string { data := #[48, 49, 50, 51, 52, 53, 54, 55] }] w fun e w' => (∃ T, e = .returned (.string (mkS T)) ∧ (mkS T).toList.isEmpty = true) ∧ Below w.heap.size w w' :=
  (trim_empty octS s (by decide) hs (by decide) w).mono fun e w' ⟨⟨T, he, hT⟩, hb⟩ => ⟨⟨T, he, by rw [mkS_emp_any, decide_eq_true (hT.2 h)]⟩, hb⟩
theorem octB_rest (s : List UInt8) (h : restS octS s ≠ []) : octB s = false := by unfold octB; rw [decide_eq_false h, Bool.and_false]

set_option maxHeartbeats 4000000 in
theorem modeTwice_walk (a0 : Int) (w0 : (Lit.int .i64 a0).wf = true) (a1 : ByteArray) (z1 : a1.size ≤ reachBytes) (a2 : ByteArray) (z2 : a2.size ≤ reachBytes) (a3 : Bool) (w : World) (hE : ErrLaid w) (hA : AtoiLaid w) :
    Calls Tryd.prog 7 #[.int .i64 a0, .string a1, .string a2, .bool a3] w fun e w' => e = .returned (.bool true) ∧ Below w.heap.size w w' := by
  obtain ⟨s, rfl⟩ : ∃ l, a1 = mkS l := ⟨a1.data.toList, (mkS_self a1).symm⟩
  obtain ⟨t, rfl⟩ : ∃ l, a2 = mkS l := ⟨a2.data.toList, (mkS_self a2).symm⟩
  have hs := mkS_size s
  have ht := mkS_size t
  rw [hs] at z1
  rw [ht] at z2
  unfold reachBytes at z1 z2
  have MO := Lib.hid (fun w h => moded_true w h)
  have HA := Lib.hid hA
  have HE := Lib.hid hE
  clear hA hE
  by_cases hs4 : s.length ≤ 40
  · have d1 : decide ((40 : Int) < ((mkS s).size : Int)) = false := decide_eq_false (by rw [hs]; omega)
    by_cases ht4 : t.length ≤ 40
    · have d2 : decide ((40 : Int) < ((mkS t).size : Int)) = false := decide_eq_false (by rw [ht]; omega)
      have CT := Lib.hid (fun w => contains_x s w)
      cases hX : s.contains 88
      · rw [hX] at CT
        by_cases hr1 : restS octS s = []
        · have TS := Lib.hid (fun w => trim_none s (by omega) hr1 w)
          clear hs ht z1 z2 w0 hX hr1 hs4 ht4
          generalize mkS s = S at *
          generalize mkS t = T at *
          go_enter Tryd.func7, Tryd.ntmps7
          go_wp2_with (first
            | (go_at_call 17; with_reducible refine (MO.out _ HA.out).mono ?_; rintro e w1 ⟨rfl, hb1⟩; have B1 := Lib.hid hb1; clear hb1)
            | (go_at_call 20; with_reducible refine (CT.out _).mono ?_; rintro e w' ⟨rfl, hw⟩; replace hw := hw.symm; subst hw)
            | (go_at_call 21; with_reducible refine (TS.out _).mono ?_; rintro e w2 ⟨⟨T1, rfl, hT1⟩, hb2⟩; have B2 := Lib.hid (B1.out.trans (hb2.mono B1.out.size)); clear hb2))
          go_ret
          exact ⟨by first | rfl | simp, B2.out⟩
        · have TS := Lib.hid (fun w => trim_some s (by omega) hr1 w)
          by_cases hr2 : restS octS t = []
          · have TT := Lib.hid (fun w => trim_none t (by omega) hr2 w)
            clear hs ht z1 z2 w0 hX hr1 hr2 hs4 ht4
            generalize mkS s = S at *
            generalize mkS t = T at *
            go_enter Tryd.func7, Tryd.ntmps7
            go_wp2_with (first
              | (go_at_call 17; with_reducible refine (MO.out _ HA.out).mono ?_; rintro e w1 ⟨rfl, hb1⟩; have B1 := Lib.hid hb1; clear hb1)
              | (go_at_call 20; with_reducible refine (CT.out _).mono ?_; rintro e w' ⟨rfl, hw⟩; replace hw := hw.symm; subst hw)
              | (go_at_call 21; with_reducible refine (TS.out _).mono ?_; rintro e w2 ⟨⟨T1, rfl, hT1⟩, hb2⟩; have B2 := Lib.hid (B1.out.trans (hb2.mono B1.out.size)); clear hb2)
              | (go_at_call 21; with_reducible refine (TT.out _).mono ?_; rintro e w3 ⟨⟨T2, rfl, hT2⟩, hb3⟩; have B3 := Lib.hid (B2.out.trans (hb3.mono B2.out.size)); clear hb3))
            go_ret
            exact ⟨by first | rfl | simp, B3.out⟩
          · have TT := Lib.hid (fun w => trim_some t (by omega) hr2 w)
            obtain ⟨m, hm, PM⟩ := pick_nat a0 4096 (by omega) (by omega)
            have PM := Lib.hid (show ∀ w, Calls Tryd.prog 18 #[.int .i64 a0, .int .i64 4096] w fun e w' => e = .returned (.int .i64 (m : Int)) ∧ w' = w from PM)
            have hno : (88 : UInt8) ∉ s := fun h => by rw [List.contains_iff_mem.2 h] at hX; cases hX
            have o1 := octB_rest s hr1
            have o2 := octB_rest t hr2
            have o3 := both_oct s t
            have hl3 : (s ++ 44 :: t).length ≤ 1000000 := by simp; omega
            have k1 : ∀ w, (Op.stringOp .add (mkS s) { data := #[44] }).run Tryd.prog w = .ok (.string (mkS (s ++ [44]))) w := fun w => mkS_cat s [44] (by simp; omega) w
            have k2 : ∀ w, (Op.stringOp .add (mkS (s ++ [44])) (mkS t)).run Tryd.prog w = .ok (.string (mkS (s ++ 44 :: t))) w := fun w => by
              have := mkS_cat (s ++ [44]) t (by simp; omega) w
              rwa [List.append_assoc] at this
            have f1 := changeF_parts m s a3 hm o1
            cases hc1 : chF a3 m (piecesC s) with
            | none =>
              rw [hc1] at f1
              have C1 := Lib.hid (fun w h => change_form f1 (by omega) w h)
              clear hs ht z1 z2 w0 hX hr1 hr2 hs4 ht4 f1 hc1 hno o1 o2 o3 hl3 k1 k2
              generalize mkS s = S at *
              generalize mkS t = T at *
              go_enter Tryd.func7, Tryd.ntmps7
              go_wp2_with (first
                | (go_at_call 17; with_reducible refine (MO.out _ HA.out).mono ?_; rintro e w1 ⟨rfl, hb1⟩; have B1 := Lib.hid hb1; clear hb1)
                | (go_at_call 20; with_reducible refine (CT.out _).mono ?_; rintro e w' ⟨rfl, hw⟩; replace hw := hw.symm; subst hw)
                | (go_at_call 21; with_reducible refine (TS.out _).mono ?_; rintro e w2 ⟨⟨T1, rfl, hT1⟩, hb2⟩; have B2 := Lib.hid (B1.out.trans (hb2.mono B1.out.size)); clear hb2)
                | (go_at_call 21; with_reducible refine (TT.out _).mono ?_; rintro e w3 ⟨⟨T2, rfl, hT2⟩, hb3⟩; have B3 := Lib.hid (B2.out.trans (hb3.mono B2.out.size)); clear hb3)
                | (go_at_call 18; with_reducible refine (PM.out _).mono ?_; rintro e w' ⟨rfl, hw⟩; replace hw := hw.symm; subst hw)
                | (go_at_call 11; with_reducible refine (C1.out _ (HA.out.below B3.out)).mono ?_; rintro e w4 ⟨rfl, hb4⟩; have B4 := Lib.hid (B3.out.trans (hb4.mono B3.out.size)); clear hb4))
              go_ret
              exact ⟨by first | rfl | simp, B4.out⟩
            | some a =>
              rw [hc1] at f1
              have ha := chF_lt a3 _ m hm a hc1
              have f2 := changeF_parts a s a3 ha o1
              rw [twice_once a3 s hno m a hm hc1] at f2
              have f3 := changeF_parts a t a3 ha o2
              have f4 := changeF_parts m (s ++ 44 :: t) a3 hm o3
              rw [both_parts a3 s t m a hc1] at f4
              have C1 := Lib.hid (fun w h => change_ok f1 (by omega) w h)
              have C2 := Lib.hid (fun w h => change_ok f2 (by omega) w h)
              cases hc2 : chF a3 a (piecesC t) with
              | none =>
                rw [hc2] at f3 f4
                have C3 := Lib.hid (fun w h => change_form f3 (by omega) w h)
                have C4 := Lib.hid (fun w h => change_form f4 hl3 w h)
                clear hs ht z1 z2 w0 hX hr1 hr2 hs4 ht4 f1 f2 f3 f4 hc1 hc2 hno o1 o2 o3 hl3
                generalize mkS (s ++ 44 :: t) = S3 at *
                generalize mkS (s ++ [44]) = S2 at *
                generalize mkS s = S at *
                generalize mkS t = T at *
                go_enter Tryd.func7, Tryd.ntmps7
                go_wp2_with (first
                  | (go_at_call 17; with_reducible refine (MO.out _ HA.out).mono ?_; rintro e w1 ⟨rfl, hb1⟩; have B1 := Lib.hid hb1; clear hb1)
                  | (go_at_call 20; with_reducible refine (CT.out _).mono ?_; rintro e w' ⟨rfl, hw⟩; replace hw := hw.symm; subst hw)
                  | (go_at_call 21; with_reducible refine (TS.out _).mono ?_; rintro e w2 ⟨⟨T1, rfl, hT1⟩, hb2⟩; have B2 := Lib.hid (B1.out.trans (hb2.mono B1.out.size)); clear hb2)
                  | (go_at_call 21; with_reducible refine (TT.out _).mono ?_; rintro e w3 ⟨⟨T2, rfl, hT2⟩, hb3⟩; have B3 := Lib.hid (B2.out.trans (hb3.mono B2.out.size)); clear hb3)
                  | (go_at_call 18; with_reducible refine (PM.out _).mono ?_; rintro e w' ⟨rfl, hw⟩; replace hw := hw.symm; subst hw)
                  | (go_at_call 11; with_reducible refine (C1.out _ (HA.out.below B3.out)).mono ?_; rintro e w4 ⟨rfl, hb4⟩; have B4 := Lib.hid (B3.out.trans (hb4.mono B3.out.size)); clear hb4)
                  | (go_at_call 11; with_reducible refine (C2.out _ (HA.out.below B4.out)).mono ?_; rintro e w5 ⟨rfl, hb5⟩; have B5 := Lib.hid (B4.out.trans (hb5.mono B4.out.size)); clear hb5)
                  | (go_at_call 11; with_reducible refine (C3.out _ (HA.out.below B5.out)).mono ?_; rintro e w6 ⟨rfl, hb6⟩; have B6 := Lib.hid (B5.out.trans (hb6.mono B5.out.size)); clear hb6)
                  | (go_at_call 11; with_reducible refine (C4.out _ (HA.out.below B6.out)).mono ?_; rintro e w7 ⟨rfl, hb7⟩; have B7 := Lib.hid (B6.out.trans (hb7.mono B6.out.size)); clear hb7)
                  | (go_at_call 22; with_reducible refine (tell_err 3 _ (HE.out.below B7.out)).mono ?_; rintro e w8 ⟨rfl, hb8⟩; have B8 := Lib.hid (B7.out.trans (hb8.mono B7.out.size)); clear hb8)
                  | (go_at_call 22; with_reducible refine (tell_err 3 _ (HE.out.below B8.out)).mono ?_; rintro e w9 ⟨rfl, hb9⟩; have B9 := Lib.hid (B8.out.trans (hb9.mono B8.out.size)); clear hb9))
                go_ret
                exact ⟨by first | rfl | simp, B9.out⟩
              | some b =>
                rw [hc2] at f3 f4
                have C3 := Lib.hid (fun w h => change_ok f3 (by omega) w h)
                have C4 := Lib.hid (fun w h => change_ok f4 hl3 w h)
                clear hs ht z1 z2 w0 hX hr1 hr2 hs4 ht4 f1 f2 f3 f4 hc1 hc2 hno o1 o2 o3 hl3
                generalize mkS (s ++ 44 :: t) = S3 at *
                generalize mkS (s ++ [44]) = S2 at *
                generalize mkS s = S at *
                generalize mkS t = T at *
                go_enter Tryd.func7, Tryd.ntmps7
                go_wp2_with (first
                  | (go_at_call 17; with_reducible refine (MO.out _ HA.out).mono ?_; rintro e w1 ⟨rfl, hb1⟩; have B1 := Lib.hid hb1; clear hb1)
                  | (go_at_call 20; with_reducible refine (CT.out _).mono ?_; rintro e w' ⟨rfl, hw⟩; replace hw := hw.symm; subst hw)
                  | (go_at_call 21; with_reducible refine (TS.out _).mono ?_; rintro e w2 ⟨⟨T1, rfl, hT1⟩, hb2⟩; have B2 := Lib.hid (B1.out.trans (hb2.mono B1.out.size)); clear hb2)
                  | (go_at_call 21; with_reducible refine (TT.out _).mono ?_; rintro e w3 ⟨⟨T2, rfl, hT2⟩, hb3⟩; have B3 := Lib.hid (B2.out.trans (hb3.mono B2.out.size)); clear hb3)
                  | (go_at_call 18; with_reducible refine (PM.out _).mono ?_; rintro e w' ⟨rfl, hw⟩; replace hw := hw.symm; subst hw)
                  | (go_at_call 11; with_reducible refine (C1.out _ (HA.out.below B3.out)).mono ?_; rintro e w4 ⟨rfl, hb4⟩; have B4 := Lib.hid (B3.out.trans (hb4.mono B3.out.size)); clear hb4)
                  | (go_at_call 11; with_reducible refine (C2.out _ (HA.out.below B4.out)).mono ?_; rintro e w5 ⟨rfl, hb5⟩; have B5 := Lib.hid (B4.out.trans (hb5.mono B4.out.size)); clear hb5)
                  | (go_at_call 11; with_reducible refine (C3.out _ (HA.out.below B5.out)).mono ?_; rintro e w6 ⟨rfl, hb6⟩; have B6 := Lib.hid (B5.out.trans (hb6.mono B5.out.size)); clear hb6)
                  | (go_at_call 11; with_reducible refine (C4.out _ (HA.out.below B6.out)).mono ?_; rintro e w7 ⟨rfl, hb7⟩; have B7 := Lib.hid (B6.out.trans (hb7.mono B6.out.size)); clear hb7)
                  | (go_at_call 22; with_reducible refine (tell_nil _).mono ?_; rintro e w' ⟨rfl, hw⟩; replace hw := hw.symm; subst hw))
                go_ret
                exact ⟨by first | rfl | simp, B7.out⟩
      · rw [hX] at CT
        clear hs ht z1 z2 w0 hX hs4 ht4
        generalize mkS s = S at *
        generalize mkS t = T at *
        go_enter Tryd.func7, Tryd.ntmps7
        go_wp2_with (first
          | (go_at_call 17; with_reducible refine (MO.out _ HA.out).mono ?_; rintro e w1 ⟨rfl, hb1⟩; have B1 := Lib.hid hb1; clear hb1)
          | (go_at_call 20; with_reducible refine (CT.out _).mono ?_; rintro e w' ⟨rfl, hw⟩; replace hw := hw.symm; subst hw))
        go_ret
        exact ⟨by first | rfl | simp, B1.out⟩
    · have d2 : decide ((40 : Int) < ((mkS t).size : Int)) = true := decide_eq_true (by rw [ht]; omega)
      clear hs ht z1 z2 w0 hs4 ht4
      generalize mkS s = S at *
      generalize mkS t = T at *
      go_enter Tryd.func7, Tryd.ntmps7
      go_wp2_with (first
        | (go_at_call 17; with_reducible refine (MO.out _ HA.out).mono ?_; rintro e w1 ⟨rfl, hb1⟩; have B1 := Lib.hid hb1; clear hb1))
      go_ret
      exact ⟨by first | rfl | simp, B1.out⟩
  · have d1 : decide ((40 : Int) < ((mkS s).size : Int)) = true := decide_eq_true (by rw [hs]; omega)
    clear hs ht z1 z2 w0 hs4
    generalize mkS s = S at *
    generalize mkS t = T at *
    go_enter Tryd.func7, Tryd.ntmps7
    go_wp2_with (first
      | (go_at_call 17; with_reducible refine (MO.out _ HA.out).mono ?_; rintro e w1 ⟨rfl, hb1⟩; have B1 := Lib.hid hb1; clear hb1))
    go_ret
    exact ⟨by first | rfl | simp, B1.out⟩
end Go.Proofs.YtalafhfpmkacgaaDoor
