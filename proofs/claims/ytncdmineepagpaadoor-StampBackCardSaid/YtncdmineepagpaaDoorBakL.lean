/- StampBack: true, at every argument. -/
import Derived.Test.YtncdmineepagpaaDoorBak
import Derived.Lib.QuietBelow
import Derived.Deep.Cut
namespace Go.Proofs.YtncdmineepagpaaDoor
open Go.RowKit Go.Joins

theorem trimPrefix_len (l p : List UInt8) : (Lib.trimPrefix l p).length ≤ l.length := by
  unfold Lib.trimPrefix
  split
  · rw [List.length_drop]; omega
  · exact Nat.le_refl _

set_option maxHeartbeats 4000000 in
theorem back_core (s n : Int) (x m F : List UInt8) (neg b : Bool) (P0 : Bool) (U V Y W3 : List UInt8) (z f : Nat) (ps pn pe : Int) (a0 a1 a3 : Int) (w : World) (hp : PowLaid w)
    (r1 : -1099511627776 ≤ s) (r2 : s ≤ 1099511627776) (r3 : 0 ≤ n) (r4 : n < 1000000000) (hz : pickF a3 5 = (z : Int)) (hz5 : z < 5)
    (hS : Calls Tryd.prog 19 #[] w fun e w' => e = .returned (.bool true) ∧ Below w.heap.size w w')
    (t1 : ∀ w, Calls Tryd.prog 20 #[.int .i64 a0, .int .i64 a1] w fun e w' => e = .returned (tmV s n) ∧ w' = w.alloc (.cells #[.int .i64 s, .int .i64 n] 23))
    (b1 : ∀ w, PowLaid w → Calls Tryd.prog 18 #[tmV s n] w fun e w' => e = .returned (.tuple #[.string (mkS x), .nilIface]) ∧ Below w.heap.size w w')
    (b2 : ∀ w, Calls Tryd.prog 12 #[.string (mkS x)] w fun e w' => e = .returned (.tuple #[tmV s n, .nilIface]) ∧ Below w.heap.size w w')
    (hm : m.length ≤ 20) (hx : x.length ≤ 100) (hT : Lib.trimS m digitsL = [])
    (hneg : Lib.hasPrefix x [45] = neg) (hU : Lib.trimPrefix x [45] = U)
    (hP : (P0 = false ∧ Lib.indexByte U 46 < 0 ∧ V = U ++ [46]) ∨ (P0 = true ∧ 0 ≤ Lib.indexByte U 46 ∧ V = U))
    (hV : V.length ≤ 200) (hF : fracOf V = F) (hf : F.length = f) (hf9 : f ≤ 9) (hY : Y = List.replicate z 48 ++ V ++ List.replicate (9 - f) 48 ++ m)
    (hW : W3 = sgL neg ++ Y)
    (b3 : ∀ w, Calls Tryd.prog 12 #[.string (mkS W3)] w fun e w' => e = .returned (.tuple #[tmV ps pn, errV pe]) ∧ Below w.heap.size w w')
    (hb : b = !decide (Lib.trimB m 48 = []))
    (hcase : ((b = false ∨ neg = false) ∧ pe = 0 ∧ ps = s ∧ pn = n) ∨ (b = true ∧ neg = true ∧ ((pe = 0 ∧ ps = stepS s n ∧ pn = stepN n) ∨ (pe = 2 ∧ ps = 0 ∧ pn = 0)))) :
    Calls Tryd.prog 6 #[.int .i64 a0, .int .i64 a1, .string (mkS m), .int .i64 a3] w fun e w' => e = .returned (.bool true) ∧ Below w.heap.size w w' := by
  have HS := Lib.hid hS
  have HP := Lib.hid (fun w1 (h : Below w.heap.size w w1) => hp.below h)
  have T1 := Lib.hid t1
  have B1 := Lib.hid b1
  have B2 := Lib.hid b2
  have B3 := Lib.hid b3
  have hsm : (mkS m).size = m.length := mkS_size m
  have lm : ¬ (20 : Int) < (m.length : Int) := by omega
  have Tr := Lib.hid (fun w => hT ▸ trimDigits_any m w (by omega))
  have em := mkS_emp_nil
  clear hS hp t1 b1 b2 b3 hT
  go_enter Tryd.func6, Tryd.ntmps6
  go_upto_region 6 with (first
    | (go_at_call 19; refine HS.out.mono ?_; rintro e w1 ⟨rfl, h1⟩)
    | (go_at_call 20; with_reducible refine (T1.out _).mono ?_; rintro e w2 ⟨rfl, rfl⟩)
    | (go_at_call 18; with_reducible refine (B1.out _ (HP.out _ ((h1.alloc h1.size _).alloc (by have := h1.size; simp; omega) _))).mono ?_; rintro e w3 ⟨rfl, h3⟩)
    | (go_at_call 12; with_reducible refine (B2.out _).mono ?_; rintro e w4 ⟨rfl, h4⟩)
    | fail)
  obtain ⟨W, hW⟩ : ∃ W, W = w4.alloc (.cells #[.int .i64 s, .int .i64 n] 23) := ⟨_, rfl⟩
  rw [← hW]
  have z1 := h1.size
  have z3 := h3.size
  have z4 := h4.size
  simp only [World.size_alloc] at z3
  have g3 : Below w.heap.size w w4 := ((h1.alloc h1.size _).alloc (by simp; omega) _).trans ((h3.mono (by simp; omega)).trans (h4.mono (by omega)))
  have hbW : Below w.heap.size w W := hW ▸ g3.alloc g3.size _
  have sW : W.heap.size = w4.heap.size + 1 := by rw [hW]; simp
  have c : (∀ w', Below W.heap.size W w' → w'.cell? ⟨w1.heap.size + 1, 0, none⟩ = some (.int .i64 s) ∧ w'.cell? ⟨w1.heap.size + 1, 1, none⟩ = some (.int .i64 n) ∧ w'.cell? ⟨w4.heap.size, 0, none⟩ = some (.int .i64 s) ∧ w'.cell? ⟨w4.heap.size, 1, none⟩ = some (.int .i64 n)) := fun w' hb => by
    refine ⟨?_, ?_, ?_, ?_⟩
    · rw [hb.cell (by simp only []; omega), hW, (Below.refl w4.heap.size w4 |>.alloc (Nat.le_refl _) _).cell (by simp only []; omega), h4.cell (by simp only []; omega), h3.cell (by simp)]; simp [go_sem]
    · rw [hb.cell (by simp only []; omega), hW, (Below.refl w4.heap.size w4 |>.alloc (Nat.le_refl _) _).cell (by simp only []; omega), h4.cell (by simp only []; omega), h3.cell (by simp)]; simp [go_sem]
    · rw [hb.cell (by simp only []; omega), hW]; simp [go_sem]
    · rw [hb.cell (by simp only []; omega), hW]; simp [go_sem]
  generalize hA : w1.heap.size + 1 = A at *
  generalize hB : w4.heap.size = B at *
  have C := Lib.hid c
  obtain ⟨c0, c1, c2, c3⟩ := c W (Below.refl _ _)
  clear c hW z1 z3 z4 g3 h3 h4 h1 sW hA hB HS T1 B1 B2
  have Hh := Lib.hid (fun w => hneg ▸ hasPrefix_mk x [45] w)
  have Ht := Lib.hid (fun w => hU ▸ trimPrefix_any x w)
  go_upto_region 12 with (first
    | (go_at_call 21; with_reducible refine (Tr.out _).mono ?_; rintro e w5 ⟨rfl, h5⟩)
    | (go_at_call 22; refine (Hh.out _).mono ?_; rintro e w6 ⟨rfl, hw⟩; replace hw := hw.symm; subst hw)
    | (go_at_call 23; refine (Ht.out _).mono ?_; rintro e w6 ⟨rfl, hw⟩; replace hw := hw.symm; subst hw)
    | fail)
  have lU : U.length ≤ 100 := by rw [← hU]; exact Nat.le_trans (trimPrefix_len _ _) hx
  have k := fun w => contains_any U w
  have lV : V.length ≤ 200 := hV
  have cu : ∀ w, Calls Tryd.prog 25 #[.string (mkS V), .string { data := #[46] }] w fun e w' => e = .returned (.tuple #[.string (mkS (wholeOf V)), .string (mkS F), .bool (pointOf V)]) ∧ Below w.heap.size w w' := fun w => by
    have h := cutDot_any V w (by omega)
    rw [hF] at h
    refine h.mono ?_
    rintro e w' ⟨rfl, q, rfl⟩
    exact ⟨rfl, rfl, rfl, rfl, Nat.le_refl _, fun _ _ => rfl⟩
  have CU := Lib.hid cu
  have PK := Lib.hid (fun w => hz ▸ pick_any a3 5 w (by omega) (by omega))
  have RZ := Lib.hid (fun w => repeat_any z w (by omega))
  have rn : ∀ w, Calls Tryd.prog 26 #[.string { data := #[48] }, .int .i64 (9 - (f : Int))] w fun e w' => e = .returned (.string (mkS (List.replicate (9 - f) 48))) ∧ Below w.heap.size w w' := fun w => by
    have h := repeat_any (9 - f) w (by omega)
    rw [show ((9 - f : Nat) : Int) = 9 - (f : Int) by omega] at h
    exact h
  have RN := Lib.hid rn
  have lY : Y.length ≤ 300 := by rw [hY]; simp; omega
  have cb : ∀ w, (Op.stringOp .add (mkS (List.replicate z 48)) (mkS V)).run Tryd.prog w = .ok (.string (mkS (List.replicate z 48 ++ V))) w := fun w => mkS_cat _ _ (by simp; omega) w
  have cc : ∀ w, (Op.stringOp .add (mkS (List.replicate z 48 ++ V)) (mkS (List.replicate (9 - f) 48))).run Tryd.prog w = .ok (.string (mkS (List.replicate z 48 ++ V ++ List.replicate (9 - f) 48))) w := fun w => mkS_cat _ _ (by simp; omega) w
  have cd : ∀ w, (Op.stringOp .add (mkS (List.replicate z 48 ++ V ++ List.replicate (9 - f) 48)) (mkS m)).run Tryd.prog w = .ok (.string (mkS Y)) w := fun w => by rw [hY]; exact mkS_cat _ _ (by simp; omega) w
  have ce : ∀ w, (Op.stringOp .add { data := #[45] } (mkS Y)).run Tryd.prog w = .ok (.string (mkS (45 :: Y))) w := fun w => mkS_cat [45] Y (by simp; omega) w
  generalize hZZ : List.replicate z (48 : UInt8) = ZZ at *
  generalize hNN : List.replicate (9 - f) (48 : UInt8) = NN at *
  generalize hZV : ZZ ++ V = ZV at *
  generalize hZN : ZV ++ NN = ZN at *
  have sF : (mkS F).size = f := by rw [mkS_size, hf]
  have hf9' : (f : Int) ≤ 9 := by omega
  have hW' : W3 = if neg then 45 :: Y else Y := by rw [hW]; cases neg <;> rfl
  have TZ := Lib.hid (fun w => trimZero_any m w (by omega))
  have SD := Lib.hid (fun w => stepDown_any s n w r1 r2 r3 r4)
  clear cu rn hZZ hNN hZV hZN hY hW hf hF hV hx hneg hU hm lV lY lm hz hz5 hf9 c0 c1 c2 c3
  have ca : ∀ w, (Op.stringOp .add (mkS U) { data := #[46] }).run Tryd.prog w = .ok (.string (mkS (U ++ [46]))) w := fun w => mkS_cat U [46] (by simp; omega) w
  obtain ⟨T0, hT0, hTe⟩ : ∃ T0, Lib.trimB m 48 = T0 ∧ (mkS T0).toList.isEmpty = !b := ⟨_, rfl, by rw [mkS_emp_any, hb]; simp⟩
  rw [hT0] at TZ
  have T3 := TZ
  clear hT0 hb TZ lU em
  rcases hP with ⟨hP0, q1, hV1⟩ | ⟨hP0, q1, hV1⟩
  all_goals
    have e1 : decide (0 ≤ Lib.indexByte U 46) = P0 := by rw [hP0]; first | exact decide_eq_true q1 | exact decide_eq_false (by omega)
    rw [e1, hP0] at k
    have K := Lib.hid k
    clear k e1 q1 hP0
    subst hV1
    go_upto_region 16 with (first
      | (go_at_call 24; refine (K.out _).mono ?_; rintro e w6 ⟨rfl, hw⟩; replace hw := hw.symm; subst hw)
      | (go_at_call 25; refine (CU.out _).mono ?_; rintro e w6 ⟨rfl, h6⟩)
      | (go_at_call 27; refine (PK.out _).mono ?_; rintro e w7 ⟨rfl, hw⟩; replace hw := hw.symm; subst hw)
      | (go_at_call 26; with_reducible refine (RZ.out _).mono ?_; rintro e w7 ⟨rfl, h7⟩)
      | (go_at_call 26; with_reducible refine (RN.out _).mono ?_; rintro e w8 ⟨rfl, h8⟩)
      | fail)
    have y5 := h5.size
    have y6 := h6.size
    have y7 := h7.size
    have y8 := h8.size
    have H8 : Below W.heap.size W w8 := h5.trans ((h6.mono y5).trans ((h7.mono (by omega)).trans (h8.mono (by omega))))
    clear h5 h6 h7 h8 y5 y6 y7 y8 ca cb cc cd CU RZ RN PK K
    have P3 := B3
    clear B3
    rcases hcase with ⟨hbn, hpe, rfl, rfl⟩ | ⟨hb1, hneg, ⟨hpe, rfl, rfl⟩ | ⟨hpe, rfl, rfl⟩⟩
    · rw [show errV pe = .nilIface by rw [hpe]; rfl] at P3
      clear hpe
      cases neg
      · rw [show W3 = Y from hW'] at P3
        clear hW' hbn
        cases b
        · go_wp2_with (first | (go_at_call 12; refine (P3.out _).mono ?_; rintro e w9 ⟨rfl, h9⟩; replace h9 := H8.trans (h9.mono H8.size)) | (go_at_call 21; refine (T3.out _).mono ?_; rintro e w10 ⟨rfl, h10⟩; have d0 := (h10.cell (p := ⟨w9.heap.size, 0, none⟩) (by simp)).trans (show _ = some (Value.int .i64 _) by simp [go_sem]; rfl); have d1 := (h10.cell (p := ⟨w9.heap.size, 1, none⟩) (by simp)).trans (show _ = some (Value.int .i64 _) by simp [go_sem]; rfl); replace h10 := (h9.alloc h9.size _).trans (h10.mono (by have := h9.size; simp; omega)); obtain ⟨k0, k1, _, _⟩ := C.out w10 h10))
          go_ret
          exact ⟨rfl, hbW.trans (h10.mono hbW.size)⟩
        · go_wp2_with (first | (go_at_call 12; refine (P3.out _).mono ?_; rintro e w9 ⟨rfl, h9⟩; replace h9 := H8.trans (h9.mono H8.size)) | (go_at_call 21; refine (T3.out _).mono ?_; rintro e w10 ⟨rfl, h10⟩; have d0 := (h10.cell (p := ⟨w9.heap.size, 0, none⟩) (by simp)).trans (show _ = some (Value.int .i64 _) by simp [go_sem]; rfl); have d1 := (h10.cell (p := ⟨w9.heap.size, 1, none⟩) (by simp)).trans (show _ = some (Value.int .i64 _) by simp [go_sem]; rfl); replace h10 := (h9.alloc h9.size _).trans (h10.mono (by have := h9.size; simp; omega)); obtain ⟨k0, k1, _, _⟩ := C.out w10 h10))
          go_ret
          exact ⟨rfl, hbW.trans (h10.mono hbW.size)⟩
      · rw [show W3 = 45 :: Y from hW'] at P3
        have hb0 : b = false := by simpa using hbn
        subst hb0
        clear hW' hbn
        go_wp2_with (first | (go_at_call 12; refine (P3.out _).mono ?_; rintro e w9 ⟨rfl, h9⟩; replace h9 := H8.trans (h9.mono H8.size)) | (go_at_call 21; refine (T3.out _).mono ?_; rintro e w10 ⟨rfl, h10⟩; have d0 := (h10.cell (p := ⟨w9.heap.size, 0, none⟩) (by simp)).trans (show _ = some (Value.int .i64 _) by simp [go_sem]; rfl); have d1 := (h10.cell (p := ⟨w9.heap.size, 1, none⟩) (by simp)).trans (show _ = some (Value.int .i64 _) by simp [go_sem]; rfl); replace h10 := (h9.alloc h9.size _).trans (h10.mono (by have := h9.size; simp; omega)); obtain ⟨k0, k1, _, _⟩ := C.out w10 h10))
        go_ret
        exact ⟨rfl, hbW.trans (h10.mono hbW.size)⟩
    · rw [show errV pe = .nilIface by rw [hpe]; rfl] at P3
      clear hpe
      subst hb1 hneg
      rw [show W3 = 45 :: Y from hW'] at P3
      clear hW'
      go_upto_region 21 with (first | (go_at_call 12; refine (P3.out _).mono ?_; rintro e w9 ⟨rfl, h9⟩; replace h9 := H8.trans (h9.mono H8.size)) | (go_at_call 21; refine (T3.out _).mono ?_; rintro e w10 ⟨rfl, h10⟩; have d0 := (h10.cell (p := ⟨w9.heap.size, 0, none⟩) (by simp)).trans (show _ = some (Value.int .i64 _) by simp [go_sem]; rfl); have d1 := (h10.cell (p := ⟨w9.heap.size, 1, none⟩) (by simp)).trans (show _ = some (Value.int .i64 _) by simp [go_sem]; rfl); replace h10 := (h9.alloc h9.size _).trans (h10.mono (by have := h9.size; simp; omega)); obtain ⟨k0, k1, _, _⟩ := C.out w10 h10))
      have u0 := fun d os => cell_regrown d0 d os
      have u1 := fun d os => cell_regrown d1 d os
      have u2 := fun d os => cell_regrown k0 d os
      have u3 := fun d os => cell_regrown k1 d os
      clear d0 d1 k0 k1
      refine wp_region_quiet_below (by kernel_rfl) (by kernel_rfl) ?_
      repeat (go_big_quiet_step ((go_at_call 28; with_reducible exact Calls.regrown_of (SD.out _))))
      refine wpQuiet_nil ?_
      intro _ hw'
      obtain ⟨⟨dq, osq⟩, hw''⟩ := hw'
      subst hw''
      go_wp2
      go_ret
      exact ⟨rfl, hbW.trans ((h10.trans ((below_regrown _ dq osq).mono h10.size)).mono hbW.size)⟩
    · rw [show errV pe = .iface 24 (.int .i64 2) by rw [hpe]; rfl] at P3
      clear hpe
      subst hb1 hneg
      rw [show W3 = 45 :: Y from hW'] at P3
      clear hW'
      go_upto_region 21 with (first | (go_at_call 12; refine (P3.out _).mono ?_; rintro e w9 ⟨rfl, h9⟩; replace h9 := H8.trans (h9.mono H8.size)) | (go_at_call 21; refine (T3.out _).mono ?_; rintro e w10 ⟨rfl, h10⟩; have d0 := (h10.cell (p := ⟨w9.heap.size, 0, none⟩) (by simp)).trans (show _ = some (Value.int .i64 _) by simp [go_sem]; rfl); have d1 := (h10.cell (p := ⟨w9.heap.size, 1, none⟩) (by simp)).trans (show _ = some (Value.int .i64 _) by simp [go_sem]; rfl); replace h10 := (h9.alloc h9.size _).trans (h10.mono (by have := h9.size; simp; omega)); obtain ⟨k0, k1, _, _⟩ := C.out w10 h10))
      have u0 := fun d os => cell_regrown d0 d os
      have u1 := fun d os => cell_regrown d1 d os
      have u2 := fun d os => cell_regrown k0 d os
      have u3 := fun d os => cell_regrown k1 d os
      clear d0 d1 k0 k1
      refine wp_region_quiet_below (by kernel_rfl) (by kernel_rfl) ?_
      repeat (go_big_quiet_step ((go_at_call 28; with_reducible exact Calls.regrown_of (SD.out _))))
      refine wpQuiet_nil ?_
      intro _ hw'
      obtain ⟨⟨dq, osq⟩, hw''⟩ := hw'
      subst hw''
      go_wp2
      go_ret
      exact ⟨rfl, hbW.trans ((h10.trans ((below_regrown _ dq osq).mono h10.size)).mono hbW.size)⟩
end Go.Proofs.YtncdmineepagpaaDoor
