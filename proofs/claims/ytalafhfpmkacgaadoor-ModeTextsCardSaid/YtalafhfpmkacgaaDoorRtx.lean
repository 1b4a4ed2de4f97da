/- The reference's ModeText. -/
import Derived.Test.YtalafhfpmkacgaaDoorHas
import Derived.Test.YtalafhfpmkacgaaDoorTrm
import Derived.Deep.LoopGhost
namespace Go.Proofs.YtalafhfpmkacgaaDoor
open Go.RowKit Go.Joins
set_option linter.unusedVariables false
set_option linter.unusedSimpArgs false
set_option maxRecDepth 100000

theorem below_alloc1' (w : World) (o : Obj) : Below w.heap.size w (w.alloc o) := (Below.refl _ w).alloc (Nat.le_refl _) o
theorem text_take (b : Nat → Bool) (j : Nat) (hj : j < 9) (v : Nat) (hv : letN b j = v) : (textL b).take (j + 1) = (textL b).take j ++ [UInt8.ofNat v] := by
  rw [List.take_add_one, textL_row, rowB_get _ hj, hv]; rfl
set_option maxHeartbeats 8000000 in
theorem rtext_any (m : Int) (w : World) :
    Calls Tryd.prog 14 #[.int .i64 m] w fun e w' => e = .returned (.string (mkS (textL (bitI m)))) ∧ Below w.heap.size w w' := by
  have HB := Lib.hid (fun (k : Nat) (hk : k ≤ 11) w => bit_any m k hk w)
  have HT := Lib.hid (fun (b : Nat → Bool) (j : Nat) (hj : j < 9) (v : Nat) (hv : letN b j = v) => text_take b j hj v hv)
  have HU1 := Lib.hid (fun w => toUpper_one 115 (by decide) w)
  have HU2 := Lib.hid (fun w => toUpper_one 116 (by decide) w)
  have HTL := Lib.hid (textL_length (bitI m))
  go_enter Tryd.func14, Tryd.ntmps14
  go_wp2
  go_loopg [3, 4] 9 (fun g s3 s4 wr => ∃ (j : Nat) (k : Int), j ≤ 9 ∧ 9 - j ≤ g ∧ k + (j : Int) = 8 ∧ s3 = .string (mkS ((textL (bitI m)).take j)) ∧ s4 = .int .i64 k ∧ Aside (Below w.heap.size w wr))
  case atStart => exact ⟨0, 8, by omega, by omega, by omega, rfl, rfl, Below.refl _ _⟩
  case round =>
    obtain ⟨j, k, hj, hg, hk, rfl, rfl, A⟩ := hrel
    have HA := Lib.hid A.out
    clear A
    by_cases h9 : j < 9
    · obtain ⟨rfl, rfl⟩ | ⟨rfl, rfl⟩ | ⟨rfl, rfl⟩ | ⟨rfl, rfl⟩ | ⟨rfl, rfl⟩ | ⟨rfl, rfl⟩ | ⟨rfl, rfl⟩ | ⟨rfl, rfl⟩ | ⟨rfl, rfl⟩ : (j = 8 ∧ k = 0) ∨ (j = 7 ∧ k = 1) ∨ (j = 6 ∧ k = 2) ∨ (j = 5 ∧ k = 3) ∨ (j = 4 ∧ k = 4) ∨ (j = 3 ∧ k = 5) ∨ (j = 2 ∧ k = 6) ∨ (j = 1 ∧ k = 7) ∨ (j = 0 ∧ k = 8) := by omega
      · have C := Lib.hid (show ∀ w, Calls Tryd.prog 33 #[.int .i64 m, .int .i64 0] w fun e w' => e = .returned (.bool (bitI m 0)) ∧ w' = w from fun w => HB.out 0 (by omega) w)
        have D := Lib.hid (show ∀ w, Calls Tryd.prog 33 #[.int .i64 m, .int .i64 9] w fun e w' => e = .returned (.bool (bitI m 9)) ∧ w' = w from fun w => HB.out 9 (by omega) w)
        have U := Lib.hid (show ∀ w, Calls Tryd.prog 34 #[.string { data := #[116] }] w fun e w' => e = .returned (.string (mkS [84])) ∧ Below w.heap.size w w' from fun w => HU2.out w)
        cases hb : bitI m 0 <;> cases hs : bitI m 9
        · have hl := HT.out (bitI m) 8 (by omega) 45 (by unfold letN; simp [hb, hs])
          have k1 : ∀ w, (Op.stringOp .add (mkS ((textL (bitI m)).take 8)) { data := #[45] }).run Tryd.prog w = .ok (.string (mkS ((textL (bitI m)).take 9))) w := fun w => by rw [hl]; exact mkS_cat _ [45] (by first | (simp; done) | (simp; omega)) w
          have k2 : ∀ w, (Op.stringOp .add (mkS ((textL (bitI m)).take 8)) (mkS [45])).run Tryd.prog w = .ok (.string (mkS ((textL (bitI m)).take 9))) w := k1
          rw [hb] at C
          rw [hs] at D
          clear hl hb hs
          generalize (textL (bitI m)).take 8 = X0 at *
          obtain ⟨X1, hX⟩ : ∃ x, (textL (bitI m)).take 9 = x := ⟨_, rfl⟩
          rw [hX] at k1 k2
          have HX := Lib.hid hX
          clear hX
          go_wp2_with (first | (go_at_call 33; with_reducible refine (C.out _).mono ?_; rintro e w9 ⟨rfl, hw⟩; replace hw := hw.symm; subst hw) | (go_at_call 33; with_reducible refine (D.out _).mono ?_; rintro e w9 ⟨rfl, hw⟩; replace hw := hw.symm; subst hw))
          have hw2 := below_alloc1' wr (.cells #[.string { data := #[120] }, .string { data := #[119] }, .string { data := #[114] }] 9)
          go_roundg (9 - 9)
          case measure => omega
          case rel => exact ⟨9, -1, by omega, by omega, by omega, by rw [HX.out], by first | rfl | simp, HA.out.trans (hw2.mono HA.out.size)⟩
        · have hl := HT.out (bitI m) 8 (by omega) 84 (by unfold letN; simp [hb, hs])
          have k1 : ∀ w, (Op.stringOp .add (mkS ((textL (bitI m)).take 8)) { data := #[84] }).run Tryd.prog w = .ok (.string (mkS ((textL (bitI m)).take 9))) w := fun w => by rw [hl]; exact mkS_cat _ [84] (by first | (simp; done) | (simp; omega)) w
          have k2 : ∀ w, (Op.stringOp .add (mkS ((textL (bitI m)).take 8)) (mkS [84])).run Tryd.prog w = .ok (.string (mkS ((textL (bitI m)).take 9))) w := k1
          rw [hb] at C
          rw [hs] at D
          clear hl hb hs
          generalize (textL (bitI m)).take 8 = X0 at *
          obtain ⟨X1, hX⟩ : ∃ x, (textL (bitI m)).take 9 = x := ⟨_, rfl⟩
          rw [hX] at k1 k2
          have HX := Lib.hid hX
          clear hX
          go_wp2_with (first | (go_at_call 33; with_reducible refine (C.out _).mono ?_; rintro e w9 ⟨rfl, hw⟩; replace hw := hw.symm; subst hw) | (go_at_call 33; with_reducible refine (D.out _).mono ?_; rintro e w9 ⟨rfl, hw⟩; replace hw := hw.symm; subst hw) | (go_at_call 34; with_reducible refine (U.out _).mono ?_; rintro e w8 ⟨rfl, hb8⟩))
          have hw2 := (below_alloc1' wr (.cells #[.string { data := #[120] }, .string { data := #[119] }, .string { data := #[114] }] 9)).alloc (by simp) (.cells #[.string { data := #[116] }, .string { data := #[115] }, .string { data := #[115] }] 9)
          have hw3 := hw2.trans (hb8.mono hw2.size)
          go_roundg (9 - 9)
          case measure => omega
          case rel => exact ⟨9, -1, by omega, by omega, by omega, by rw [HX.out], by first | rfl | simp, HA.out.trans (hw3.mono HA.out.size)⟩
        · have hl := HT.out (bitI m) 8 (by omega) 120 (by unfold letN; simp [hb, hs])
          have k1 : ∀ w, (Op.stringOp .add (mkS ((textL (bitI m)).take 8)) { data := #[120] }).run Tryd.prog w = .ok (.string (mkS ((textL (bitI m)).take 9))) w := fun w => by rw [hl]; exact mkS_cat _ [120] (by first | (simp; done) | (simp; omega)) w
          have k2 : ∀ w, (Op.stringOp .add (mkS ((textL (bitI m)).take 8)) (mkS [120])).run Tryd.prog w = .ok (.string (mkS ((textL (bitI m)).take 9))) w := k1
          rw [hb] at C
          rw [hs] at D
          clear hl hb hs
          generalize (textL (bitI m)).take 8 = X0 at *
          obtain ⟨X1, hX⟩ : ∃ x, (textL (bitI m)).take 9 = x := ⟨_, rfl⟩
          rw [hX] at k1 k2
          have HX := Lib.hid hX
          clear hX
          go_wp2_with (first | (go_at_call 33; with_reducible refine (C.out _).mono ?_; rintro e w9 ⟨rfl, hw⟩; replace hw := hw.symm; subst hw) | (go_at_call 33; with_reducible refine (D.out _).mono ?_; rintro e w9 ⟨rfl, hw⟩; replace hw := hw.symm; subst hw))
          have hw2 := below_alloc1' wr (.cells #[.string { data := #[120] }, .string { data := #[119] }, .string { data := #[114] }] 9)
          go_roundg (9 - 9)
          case measure => omega
          case rel => exact ⟨9, -1, by omega, by omega, by omega, by rw [HX.out], by first | rfl | simp, HA.out.trans (hw2.mono HA.out.size)⟩
        · have hl := HT.out (bitI m) 8 (by omega) 116 (by unfold letN; simp [hb, hs])
          have k1 : ∀ w, (Op.stringOp .add (mkS ((textL (bitI m)).take 8)) { data := #[116] }).run Tryd.prog w = .ok (.string (mkS ((textL (bitI m)).take 9))) w := fun w => by rw [hl]; exact mkS_cat _ [116] (by first | (simp; done) | (simp; omega)) w
          have k2 : ∀ w, (Op.stringOp .add (mkS ((textL (bitI m)).take 8)) (mkS [116])).run Tryd.prog w = .ok (.string (mkS ((textL (bitI m)).take 9))) w := k1
          rw [hb] at C
          rw [hs] at D
          clear hl hb hs
          generalize (textL (bitI m)).take 8 = X0 at *
          obtain ⟨X1, hX⟩ : ∃ x, (textL (bitI m)).take 9 = x := ⟨_, rfl⟩
          rw [hX] at k1 k2
          have HX := Lib.hid hX
          clear hX
          go_wp2_with (first | (go_at_call 33; with_reducible refine (C.out _).mono ?_; rintro e w9 ⟨rfl, hw⟩; replace hw := hw.symm; subst hw) | (go_at_call 33; with_reducible refine (D.out _).mono ?_; rintro e w9 ⟨rfl, hw⟩; replace hw := hw.symm; subst hw))
          have hw2 := (below_alloc1' wr (.cells #[.string { data := #[120] }, .string { data := #[119] }, .string { data := #[114] }] 9)).alloc (by simp) (.cells #[.string { data := #[116] }, .string { data := #[115] }, .string { data := #[115] }] 9)
          go_roundg (9 - 9)
          case measure => omega
          case rel => exact ⟨9, -1, by omega, by omega, by omega, by rw [HX.out], by first | rfl | simp, HA.out.trans (hw2.mono HA.out.size)⟩
      · have C := Lib.hid (show ∀ w, Calls Tryd.prog 33 #[.int .i64 m, .int .i64 1] w fun e w' => e = .returned (.bool (bitI m 1)) ∧ w' = w from fun w => HB.out 1 (by omega) w)
        cases hb : bitI m 1
        · have hl := HT.out (bitI m) 7 (by omega) 45 (by unfold letN; simp [hb])
          have k1 : ∀ w, (Op.stringOp .add (mkS ((textL (bitI m)).take 7)) { data := #[45] }).run Tryd.prog w = .ok (.string (mkS ((textL (bitI m)).take 8))) w := fun w => by rw [hl]; exact mkS_cat _ [45] (by first | (simp; done) | (simp; omega)) w
          have k2 : ∀ w, (Op.stringOp .add (mkS ((textL (bitI m)).take 7)) (mkS [45])).run Tryd.prog w = .ok (.string (mkS ((textL (bitI m)).take 8))) w := k1
          rw [hb] at C
          clear hl hb
          generalize (textL (bitI m)).take 7 = X0 at *
          obtain ⟨X1, hX⟩ : ∃ x, (textL (bitI m)).take 8 = x := ⟨_, rfl⟩
          rw [hX] at k1 k2
          have HX := Lib.hid hX
          clear hX
          go_wp2_with (first | (go_at_call 33; with_reducible refine (C.out _).mono ?_; rintro e w9 ⟨rfl, hw⟩; replace hw := hw.symm; subst hw))
          have hw2 := below_alloc1' wr (.cells #[.string { data := #[120] }, .string { data := #[119] }, .string { data := #[114] }] 9)
          go_roundg (9 - 8)
          case measure => omega
          case rel => exact ⟨8, 0, by omega, by omega, by omega, by rw [HX.out], by first | rfl | simp, HA.out.trans (hw2.mono HA.out.size)⟩
        · have hl := HT.out (bitI m) 7 (by omega) 119 (by unfold letN; simp [hb])
          have k1 : ∀ w, (Op.stringOp .add (mkS ((textL (bitI m)).take 7)) { data := #[119] }).run Tryd.prog w = .ok (.string (mkS ((textL (bitI m)).take 8))) w := fun w => by rw [hl]; exact mkS_cat _ [119] (by first | (simp; done) | (simp; omega)) w
          have k2 : ∀ w, (Op.stringOp .add (mkS ((textL (bitI m)).take 7)) (mkS [119])).run Tryd.prog w = .ok (.string (mkS ((textL (bitI m)).take 8))) w := k1
          rw [hb] at C
          clear hl hb
          generalize (textL (bitI m)).take 7 = X0 at *
          obtain ⟨X1, hX⟩ : ∃ x, (textL (bitI m)).take 8 = x := ⟨_, rfl⟩
          rw [hX] at k1 k2
          have HX := Lib.hid hX
          clear hX
          go_wp2_with (first | (go_at_call 33; with_reducible refine (C.out _).mono ?_; rintro e w9 ⟨rfl, hw⟩; replace hw := hw.symm; subst hw))
          have hw2 := below_alloc1' wr (.cells #[.string { data := #[120] }, .string { data := #[119] }, .string { data := #[114] }] 9)
          go_roundg (9 - 8)
          case measure => omega
          case rel => exact ⟨8, 0, by omega, by omega, by omega, by rw [HX.out], by first | rfl | simp, HA.out.trans (hw2.mono HA.out.size)⟩
      · have C := Lib.hid (show ∀ w, Calls Tryd.prog 33 #[.int .i64 m, .int .i64 2] w fun e w' => e = .returned (.bool (bitI m 2)) ∧ w' = w from fun w => HB.out 2 (by omega) w)
        cases hb : bitI m 2
        · have hl := HT.out (bitI m) 6 (by omega) 45 (by unfold letN; simp [hb])
          have k1 : ∀ w, (Op.stringOp .add (mkS ((textL (bitI m)).take 6)) { data := #[45] }).run Tryd.prog w = .ok (.string (mkS ((textL (bitI m)).take 7))) w := fun w => by rw [hl]; exact mkS_cat _ [45] (by first | (simp; done) | (simp; omega)) w
          have k2 : ∀ w, (Op.stringOp .add (mkS ((textL (bitI m)).take 6)) (mkS [45])).run Tryd.prog w = .ok (.string (mkS ((textL (bitI m)).take 7))) w := k1
          rw [hb] at C
          clear hl hb
          generalize (textL (bitI m)).take 6 = X0 at *
          obtain ⟨X1, hX⟩ : ∃ x, (textL (bitI m)).take 7 = x := ⟨_, rfl⟩
          rw [hX] at k1 k2
          have HX := Lib.hid hX
          clear hX
          go_wp2_with (first | (go_at_call 33; with_reducible refine (C.out _).mono ?_; rintro e w9 ⟨rfl, hw⟩; replace hw := hw.symm; subst hw))
          have hw2 := below_alloc1' wr (.cells #[.string { data := #[120] }, .string { data := #[119] }, .string { data := #[114] }] 9)
          go_roundg (9 - 7)
          case measure => omega
          case rel => exact ⟨7, 1, by omega, by omega, by omega, by rw [HX.out], by first | rfl | simp, HA.out.trans (hw2.mono HA.out.size)⟩
        · have hl := HT.out (bitI m) 6 (by omega) 114 (by unfold letN; simp [hb])
          have k1 : ∀ w, (Op.stringOp .add (mkS ((textL (bitI m)).take 6)) { data := #[114] }).run Tryd.prog w = .ok (.string (mkS ((textL (bitI m)).take 7))) w := fun w => by rw [hl]; exact mkS_cat _ [114] (by first | (simp; done) | (simp; omega)) w
          have k2 : ∀ w, (Op.stringOp .add (mkS ((textL (bitI m)).take 6)) (mkS [114])).run Tryd.prog w = .ok (.string (mkS ((textL (bitI m)).take 7))) w := k1
          rw [hb] at C
          clear hl hb
          generalize (textL (bitI m)).take 6 = X0 at *
          obtain ⟨X1, hX⟩ : ∃ x, (textL (bitI m)).take 7 = x := ⟨_, rfl⟩
          rw [hX] at k1 k2
          have HX := Lib.hid hX
          clear hX
          go_wp2_with (first | (go_at_call 33; with_reducible refine (C.out _).mono ?_; rintro e w9 ⟨rfl, hw⟩; replace hw := hw.symm; subst hw))
          have hw2 := below_alloc1' wr (.cells #[.string { data := #[120] }, .string { data := #[119] }, .string { data := #[114] }] 9)
          go_roundg (9 - 7)
          case measure => omega
          case rel => exact ⟨7, 1, by omega, by omega, by omega, by rw [HX.out], by first | rfl | simp, HA.out.trans (hw2.mono HA.out.size)⟩
      · have C := Lib.hid (show ∀ w, Calls Tryd.prog 33 #[.int .i64 m, .int .i64 3] w fun e w' => e = .returned (.bool (bitI m 3)) ∧ w' = w from fun w => HB.out 3 (by omega) w)
        have D := Lib.hid (show ∀ w, Calls Tryd.prog 33 #[.int .i64 m, .int .i64 10] w fun e w' => e = .returned (.bool (bitI m 10)) ∧ w' = w from fun w => HB.out 10 (by omega) w)
        have U := Lib.hid (show ∀ w, Calls Tryd.prog 34 #[.string { data := #[115] }] w fun e w' => e = .returned (.string (mkS [83])) ∧ Below w.heap.size w w' from fun w => HU1.out w)
        cases hb : bitI m 3 <;> cases hs : bitI m 10
        · have hl := HT.out (bitI m) 5 (by omega) 45 (by unfold letN; simp [hb, hs])
          have k1 : ∀ w, (Op.stringOp .add (mkS ((textL (bitI m)).take 5)) { data := #[45] }).run Tryd.prog w = .ok (.string (mkS ((textL (bitI m)).take 6))) w := fun w => by rw [hl]; exact mkS_cat _ [45] (by first | (simp; done) | (simp; omega)) w
          have k2 : ∀ w, (Op.stringOp .add (mkS ((textL (bitI m)).take 5)) (mkS [45])).run Tryd.prog w = .ok (.string (mkS ((textL (bitI m)).take 6))) w := k1
          rw [hb] at C
          rw [hs] at D
          clear hl hb hs
          generalize (textL (bitI m)).take 5 = X0 at *
          obtain ⟨X1, hX⟩ : ∃ x, (textL (bitI m)).take 6 = x := ⟨_, rfl⟩
          rw [hX] at k1 k2
          have HX := Lib.hid hX
          clear hX
          go_wp2_with (first | (go_at_call 33; with_reducible refine (C.out _).mono ?_; rintro e w9 ⟨rfl, hw⟩; replace hw := hw.symm; subst hw) | (go_at_call 33; with_reducible refine (D.out _).mono ?_; rintro e w9 ⟨rfl, hw⟩; replace hw := hw.symm; subst hw))
          have hw2 := below_alloc1' wr (.cells #[.string { data := #[120] }, .string { data := #[119] }, .string { data := #[114] }] 9)
          go_roundg (9 - 6)
          case measure => omega
          case rel => exact ⟨6, 2, by omega, by omega, by omega, by rw [HX.out], by first | rfl | simp, HA.out.trans (hw2.mono HA.out.size)⟩
        · have hl := HT.out (bitI m) 5 (by omega) 83 (by unfold letN; simp [hb, hs])
          have k1 : ∀ w, (Op.stringOp .add (mkS ((textL (bitI m)).take 5)) { data := #[83] }).run Tryd.prog w = .ok (.string (mkS ((textL (bitI m)).take 6))) w := fun w => by rw [hl]; exact mkS_cat _ [83] (by first | (simp; done) | (simp; omega)) w
          have k2 : ∀ w, (Op.stringOp .add (mkS ((textL (bitI m)).take 5)) (mkS [83])).run Tryd.prog w = .ok (.string (mkS ((textL (bitI m)).take 6))) w := k1
          rw [hb] at C
          rw [hs] at D
          clear hl hb hs
          generalize (textL (bitI m)).take 5 = X0 at *
          obtain ⟨X1, hX⟩ : ∃ x, (textL (bitI m)).take 6 = x := ⟨_, rfl⟩
          rw [hX] at k1 k2
          have HX := Lib.hid hX
          clear hX
          go_wp2_with (first | (go_at_call 33; with_reducible refine (C.out _).mono ?_; rintro e w9 ⟨rfl, hw⟩; replace hw := hw.symm; subst hw) | (go_at_call 33; with_reducible refine (D.out _).mono ?_; rintro e w9 ⟨rfl, hw⟩; replace hw := hw.symm; subst hw) | (go_at_call 34; with_reducible refine (U.out _).mono ?_; rintro e w8 ⟨rfl, hb8⟩))
          have hw2 := (below_alloc1' wr (.cells #[.string { data := #[120] }, .string { data := #[119] }, .string { data := #[114] }] 9)).alloc (by simp) (.cells #[.string { data := #[116] }, .string { data := #[115] }, .string { data := #[115] }] 9)
          have hw3 := hw2.trans (hb8.mono hw2.size)
          go_roundg (9 - 6)
          case measure => omega
          case rel => exact ⟨6, 2, by omega, by omega, by omega, by rw [HX.out], by first | rfl | simp, HA.out.trans (hw3.mono HA.out.size)⟩
        · have hl := HT.out (bitI m) 5 (by omega) 120 (by unfold letN; simp [hb, hs])
          have k1 : ∀ w, (Op.stringOp .add (mkS ((textL (bitI m)).take 5)) { data := #[120] }).run Tryd.prog w = .ok (.string (mkS ((textL (bitI m)).take 6))) w := fun w => by rw [hl]; exact mkS_cat _ [120] (by first | (simp; done) | (simp; omega)) w
          have k2 : ∀ w, (Op.stringOp .add (mkS ((textL (bitI m)).take 5)) (mkS [120])).run Tryd.prog w = .ok (.string (mkS ((textL (bitI m)).take 6))) w := k1
          rw [hb] at C
          rw [hs] at D
          clear hl hb hs
          generalize (textL (bitI m)).take 5 = X0 at *
          obtain ⟨X1, hX⟩ : ∃ x, (textL (bitI m)).take 6 = x := ⟨_, rfl⟩
          rw [hX] at k1 k2
          have HX := Lib.hid hX
          clear hX
          go_wp2_with (first | (go_at_call 33; with_reducible refine (C.out _).mono ?_; rintro e w9 ⟨rfl, hw⟩; replace hw := hw.symm; subst hw) | (go_at_call 33; with_reducible refine (D.out _).mono ?_; rintro e w9 ⟨rfl, hw⟩; replace hw := hw.symm; subst hw))
          have hw2 := below_alloc1' wr (.cells #[.string { data := #[120] }, .string { data := #[119] }, .string { data := #[114] }] 9)
          go_roundg (9 - 6)
          case measure => omega
          case rel => exact ⟨6, 2, by omega, by omega, by omega, by rw [HX.out], by first | rfl | simp, HA.out.trans (hw2.mono HA.out.size)⟩
        · have hl := HT.out (bitI m) 5 (by omega) 115 (by unfold letN; simp [hb, hs])
          have k1 : ∀ w, (Op.stringOp .add (mkS ((textL (bitI m)).take 5)) { data := #[115] }).run Tryd.prog w = .ok (.string (mkS ((textL (bitI m)).take 6))) w := fun w => by rw [hl]; exact mkS_cat _ [115] (by first | (simp; done) | (simp; omega)) w
          have k2 : ∀ w, (Op.stringOp .add (mkS ((textL (bitI m)).take 5)) (mkS [115])).run Tryd.prog w = .ok (.string (mkS ((textL (bitI m)).take 6))) w := k1
          rw [hb] at C
          rw [hs] at D
          clear hl hb hs
          generalize (textL (bitI m)).take 5 = X0 at *
          obtain ⟨X1, hX⟩ : ∃ x, (textL (bitI m)).take 6 = x := ⟨_, rfl⟩
          rw [hX] at k1 k2
          have HX := Lib.hid hX
          clear hX
          go_wp2_with (first | (go_at_call 33; with_reducible refine (C.out _).mono ?_; rintro e w9 ⟨rfl, hw⟩; replace hw := hw.symm; subst hw) | (go_at_call 33; with_reducible refine (D.out _).mono ?_; rintro e w9 ⟨rfl, hw⟩; replace hw := hw.symm; subst hw))
          have hw2 := (below_alloc1' wr (.cells #[.string { data := #[120] }, .string { data := #[119] }, .string { data := #[114] }] 9)).alloc (by simp) (.cells #[.string { data := #[116] }, .string { data := #[115] }, .string { data := #[115] }] 9)
          go_roundg (9 - 6)
          case measure => omega
          case rel => exact ⟨6, 2, by omega, by omega, by omega, by rw [HX.out], by first | rfl | simp, HA.out.trans (hw2.mono HA.out.size)⟩
      · have C := Lib.hid (show ∀ w, Calls Tryd.prog 33 #[.int .i64 m, .int .i64 4] w fun e w' => e = .returned (.bool (bitI m 4)) ∧ w' = w from fun w => HB.out 4 (by omega) w)
        cases hb : bitI m 4
        · have hl := HT.out (bitI m) 4 (by omega) 45 (by unfold letN; simp [hb])
          have k1 : ∀ w, (Op.stringOp .add (mkS ((textL (bitI m)).take 4)) { data := #[45] }).run Tryd.prog w = .ok (.string (mkS ((textL (bitI m)).take 5))) w := fun w => by rw [hl]; exact mkS_cat _ [45] (by first | (simp; done) | (simp; omega)) w
          have k2 : ∀ w, (Op.stringOp .add (mkS ((textL (bitI m)).take 4)) (mkS [45])).run Tryd.prog w = .ok (.string (mkS ((textL (bitI m)).take 5))) w := k1
          rw [hb] at C
          clear hl hb
          generalize (textL (bitI m)).take 4 = X0 at *
          obtain ⟨X1, hX⟩ : ∃ x, (textL (bitI m)).take 5 = x := ⟨_, rfl⟩
          rw [hX] at k1 k2
          have HX := Lib.hid hX
          clear hX
          go_wp2_with (first | (go_at_call 33; with_reducible refine (C.out _).mono ?_; rintro e w9 ⟨rfl, hw⟩; replace hw := hw.symm; subst hw))
          have hw2 := below_alloc1' wr (.cells #[.string { data := #[120] }, .string { data := #[119] }, .string { data := #[114] }] 9)
          go_roundg (9 - 5)
          case measure => omega
          case rel => exact ⟨5, 3, by omega, by omega, by omega, by rw [HX.out], by first | rfl | simp, HA.out.trans (hw2.mono HA.out.size)⟩
        · have hl := HT.out (bitI m) 4 (by omega) 119 (by unfold letN; simp [hb])
          have k1 : ∀ w, (Op.stringOp .add (mkS ((textL (bitI m)).take 4)) { data := #[119] }).run Tryd.prog w = .ok (.string (mkS ((textL (bitI m)).take 5))) w := fun w => by rw [hl]; exact mkS_cat _ [119] (by first | (simp; done) | (simp; omega)) w
          have k2 : ∀ w, (Op.stringOp .add (mkS ((textL (bitI m)).take 4)) (mkS [119])).run Tryd.prog w = .ok (.string (mkS ((textL (bitI m)).take 5))) w := k1
          rw [hb] at C
          clear hl hb
          generalize (textL (bitI m)).take 4 = X0 at *
          obtain ⟨X1, hX⟩ : ∃ x, (textL (bitI m)).take 5 = x := ⟨_, rfl⟩
          rw [hX] at k1 k2
          have HX := Lib.hid hX
          clear hX
          go_wp2_with (first | (go_at_call 33; with_reducible refine (C.out _).mono ?_; rintro e w9 ⟨rfl, hw⟩; replace hw := hw.symm; subst hw))
          have hw2 := below_alloc1' wr (.cells #[.string { data := #[120] }, .string { data := #[119] }, .string { data := #[114] }] 9)
          go_roundg (9 - 5)
          case measure => omega
          case rel => exact ⟨5, 3, by omega, by omega, by omega, by rw [HX.out], by first | rfl | simp, HA.out.trans (hw2.mono HA.out.size)⟩
      · have C := Lib.hid (show ∀ w, Calls Tryd.prog 33 #[.int .i64 m, .int .i64 5] w fun e w' => e = .returned (.bool (bitI m 5)) ∧ w' = w from fun w => HB.out 5 (by omega) w)
        cases hb : bitI m 5
        · have hl := HT.out (bitI m) 3 (by omega) 45 (by unfold letN; simp [hb])
          have k1 : ∀ w, (Op.stringOp .add (mkS ((textL (bitI m)).take 3)) { data := #[45] }).run Tryd.prog w = .ok (.string (mkS ((textL (bitI m)).take 4))) w := fun w => by rw [hl]; exact mkS_cat _ [45] (by first | (simp; done) | (simp; omega)) w
          have k2 : ∀ w, (Op.stringOp .add (mkS ((textL (bitI m)).take 3)) (mkS [45])).run Tryd.prog w = .ok (.string (mkS ((textL (bitI m)).take 4))) w := k1
          rw [hb] at C
          clear hl hb
          generalize (textL (bitI m)).take 3 = X0 at *
          obtain ⟨X1, hX⟩ : ∃ x, (textL (bitI m)).take 4 = x := ⟨_, rfl⟩
          rw [hX] at k1 k2
          have HX := Lib.hid hX
          clear hX
          go_wp2_with (first | (go_at_call 33; with_reducible refine (C.out _).mono ?_; rintro e w9 ⟨rfl, hw⟩; replace hw := hw.symm; subst hw))
          have hw2 := below_alloc1' wr (.cells #[.string { data := #[120] }, .string { data := #[119] }, .string { data := #[114] }] 9)
          go_roundg (9 - 4)
          case measure => omega
          case rel => exact ⟨4, 4, by omega, by omega, by omega, by rw [HX.out], by first | rfl | simp, HA.out.trans (hw2.mono HA.out.size)⟩
        · have hl := HT.out (bitI m) 3 (by omega) 114 (by unfold letN; simp [hb])
          have k1 : ∀ w, (Op.stringOp .add (mkS ((textL (bitI m)).take 3)) { data := #[114] }).run Tryd.prog w = .ok (.string (mkS ((textL (bitI m)).take 4))) w := fun w => by rw [hl]; exact mkS_cat _ [114] (by first | (simp; done) | (simp; omega)) w
          have k2 : ∀ w, (Op.stringOp .add (mkS ((textL (bitI m)).take 3)) (mkS [114])).run Tryd.prog w = .ok (.string (mkS ((textL (bitI m)).take 4))) w := k1
          rw [hb] at C
          clear hl hb
          generalize (textL (bitI m)).take 3 = X0 at *
          obtain ⟨X1, hX⟩ : ∃ x, (textL (bitI m)).take 4 = x := ⟨_, rfl⟩
          rw [hX] at k1 k2
          have HX := Lib.hid hX
          clear hX
          go_wp2_with (first | (go_at_call 33; with_reducible refine (C.out _).mono ?_; rintro e w9 ⟨rfl, hw⟩; replace hw := hw.symm; subst hw))
          have hw2 := below_alloc1' wr (.cells #[.string { data := #[120] }, .string { data := #[119] }, .string { data := #[114] }] 9)
          go_roundg (9 - 4)
          case measure => omega
          case rel => exact ⟨4, 4, by omega, by omega, by omega, by rw [HX.out], by first | rfl | simp, HA.out.trans (hw2.mono HA.out.size)⟩
      · have C := Lib.hid (show ∀ w, Calls Tryd.prog 33 #[.int .i64 m, .int .i64 6] w fun e w' => e = .returned (.bool (bitI m 6)) ∧ w' = w from fun w => HB.out 6 (by omega) w)
        have D := Lib.hid (show ∀ w, Calls Tryd.prog 33 #[.int .i64 m, .int .i64 11] w fun e w' => e = .returned (.bool (bitI m 11)) ∧ w' = w from fun w => HB.out 11 (by omega) w)
        have U := Lib.hid (show ∀ w, Calls Tryd.prog 34 #[.string { data := #[115] }] w fun e w' => e = .returned (.string (mkS [83])) ∧ Below w.heap.size w w' from fun w => HU1.out w)
        cases hb : bitI m 6 <;> cases hs : bitI m 11
        · have hl := HT.out (bitI m) 2 (by omega) 45 (by unfold letN; simp [hb, hs])
          have k1 : ∀ w, (Op.stringOp .add (mkS ((textL (bitI m)).take 2)) { data := #[45] }).run Tryd.prog w = .ok (.string (mkS ((textL (bitI m)).take 3))) w := fun w => by rw [hl]; exact mkS_cat _ [45] (by first | (simp; done) | (simp; omega)) w
          have k2 : ∀ w, (Op.stringOp .add (mkS ((textL (bitI m)).take 2)) (mkS [45])).run Tryd.prog w = .ok (.string (mkS ((textL (bitI m)).take 3))) w := k1
          rw [hb] at C
          rw [hs] at D
          clear hl hb hs
          generalize (textL (bitI m)).take 2 = X0 at *
          obtain ⟨X1, hX⟩ : ∃ x, (textL (bitI m)).take 3 = x := ⟨_, rfl⟩
          rw [hX] at k1 k2
          have HX := Lib.hid hX
          clear hX
          go_wp2_with (first | (go_at_call 33; with_reducible refine (C.out _).mono ?_; rintro e w9 ⟨rfl, hw⟩; replace hw := hw.symm; subst hw) | (go_at_call 33; with_reducible refine (D.out _).mono ?_; rintro e w9 ⟨rfl, hw⟩; replace hw := hw.symm; subst hw))
          have hw2 := below_alloc1' wr (.cells #[.string { data := #[120] }, .string { data := #[119] }, .string { data := #[114] }] 9)
          go_roundg (9 - 3)
          case measure => omega
          case rel => exact ⟨3, 5, by omega, by omega, by omega, by rw [HX.out], by first | rfl | simp, HA.out.trans (hw2.mono HA.out.size)⟩
        · have hl := HT.out (bitI m) 2 (by omega) 83 (by unfold letN; simp [hb, hs])
          have k1 : ∀ w, (Op.stringOp .add (mkS ((textL (bitI m)).take 2)) { data := #[83] }).run Tryd.prog w = .ok (.string (mkS ((textL (bitI m)).take 3))) w := fun w => by rw [hl]; exact mkS_cat _ [83] (by first | (simp; done) | (simp; omega)) w
          have k2 : ∀ w, (Op.stringOp .add (mkS ((textL (bitI m)).take 2)) (mkS [83])).run Tryd.prog w = .ok (.string (mkS ((textL (bitI m)).take 3))) w := k1
          rw [hb] at C
          rw [hs] at D
          clear hl hb hs
          generalize (textL (bitI m)).take 2 = X0 at *
          obtain ⟨X1, hX⟩ : ∃ x, (textL (bitI m)).take 3 = x := ⟨_, rfl⟩
          rw [hX] at k1 k2
          have HX := Lib.hid hX
          clear hX
          go_wp2_with (first | (go_at_call 33; with_reducible refine (C.out _).mono ?_; rintro e w9 ⟨rfl, hw⟩; replace hw := hw.symm; subst hw) | (go_at_call 33; with_reducible refine (D.out _).mono ?_; rintro e w9 ⟨rfl, hw⟩; replace hw := hw.symm; subst hw) | (go_at_call 34; with_reducible refine (U.out _).mono ?_; rintro e w8 ⟨rfl, hb8⟩))
          have hw2 := (below_alloc1' wr (.cells #[.string { data := #[120] }, .string { data := #[119] }, .string { data := #[114] }] 9)).alloc (by simp) (.cells #[.string { data := #[116] }, .string { data := #[115] }, .string { data := #[115] }] 9)
          have hw3 := hw2.trans (hb8.mono hw2.size)
          go_roundg (9 - 3)
          case measure => omega
          case rel => exact ⟨3, 5, by omega, by omega, by omega, by rw [HX.out], by first | rfl | simp, HA.out.trans (hw3.mono HA.out.size)⟩
        · have hl := HT.out (bitI m) 2 (by omega) 120 (by unfold letN; simp [hb, hs])
          have k1 : ∀ w, (Op.stringOp .add (mkS ((textL (bitI m)).take 2)) { data := #[120] }).run Tryd.prog w = .ok (.string (mkS ((textL (bitI m)).take 3))) w := fun w => by rw [hl]; exact mkS_cat _ [120] (by first | (simp; done) | (simp; omega)) w
          have k2 : ∀ w, (Op.stringOp .add (mkS ((textL (bitI m)).take 2)) (mkS [120])).run Tryd.prog w = .ok (.string (mkS ((textL (bitI m)).take 3))) w := k1
          rw [hb] at C
          rw [hs] at D
          clear hl hb hs
          generalize (textL (bitI m)).take 2 = X0 at *
          obtain ⟨X1, hX⟩ : ∃ x, (textL (bitI m)).take 3 = x := ⟨_, rfl⟩
          rw [hX] at k1 k2
          have HX := Lib.hid hX
          clear hX
          go_wp2_with (first | (go_at_call 33; with_reducible refine (C.out _).mono ?_; rintro e w9 ⟨rfl, hw⟩; replace hw := hw.symm; subst hw) | (go_at_call 33; with_reducible refine (D.out _).mono ?_; rintro e w9 ⟨rfl, hw⟩; replace hw := hw.symm; subst hw))
          have hw2 := below_alloc1' wr (.cells #[.string { data := #[120] }, .string { data := #[119] }, .string { data := #[114] }] 9)
          go_roundg (9 - 3)
          case measure => omega
          case rel => exact ⟨3, 5, by omega, by omega, by omega, by rw [HX.out], by first | rfl | simp, HA.out.trans (hw2.mono HA.out.size)⟩
        · have hl := HT.out (bitI m) 2 (by omega) 115 (by unfold letN; simp [hb, hs])
          have k1 : ∀ w, (Op.stringOp .add (mkS ((textL (bitI m)).take 2)) { data := #[115] }).run Tryd.prog w = .ok (.string (mkS ((textL (bitI m)).take 3))) w := fun w => by rw [hl]; exact mkS_cat _ [115] (by first | (simp; done) | (simp; omega)) w
          have k2 : ∀ w, (Op.stringOp .add (mkS ((textL (bitI m)).take 2)) (mkS [115])).run Tryd.prog w = .ok (.string (mkS ((textL (bitI m)).take 3))) w := k1
          rw [hb] at C
          rw [hs] at D
          clear hl hb hs
          generalize (textL (bitI m)).take 2 = X0 at *
          obtain ⟨X1, hX⟩ : ∃ x, (textL (bitI m)).take 3 = x := ⟨_, rfl⟩
          rw [hX] at k1 k2
          have HX := Lib.hid hX
          clear hX
          go_wp2_with (first | (go_at_call 33; with_reducible refine (C.out _).mono ?_; rintro e w9 ⟨rfl, hw⟩; replace hw := hw.symm; subst hw) | (go_at_call 33; with_reducible refine (D.out _).mono ?_; rintro e w9 ⟨rfl, hw⟩; replace hw := hw.symm; subst hw))
          have hw2 := (below_alloc1' wr (.cells #[.string { data := #[120] }, .string { data := #[119] }, .string { data := #[114] }] 9)).alloc (by simp) (.cells #[.string { data := #[116] }, .string { data := #[115] }, .string { data := #[115] }] 9)
          go_roundg (9 - 3)
          case measure => omega
          case rel => exact ⟨3, 5, by omega, by omega, by omega, by rw [HX.out], by first | rfl | simp, HA.out.trans (hw2.mono HA.out.size)⟩
      · have C := Lib.hid (show ∀ w, Calls Tryd.prog 33 #[.int .i64 m, .int .i64 7] w fun e w' => e = .returned (.bool (bitI m 7)) ∧ w' = w from fun w => HB.out 7 (by omega) w)
        cases hb : bitI m 7
        · have hl := HT.out (bitI m) 1 (by omega) 45 (by unfold letN; simp [hb])
          have k1 : ∀ w, (Op.stringOp .add (mkS ((textL (bitI m)).take 1)) { data := #[45] }).run Tryd.prog w = .ok (.string (mkS ((textL (bitI m)).take 2))) w := fun w => by rw [hl]; exact mkS_cat _ [45] (by first | (simp; done) | (simp; omega)) w
          have k2 : ∀ w, (Op.stringOp .add (mkS ((textL (bitI m)).take 1)) (mkS [45])).run Tryd.prog w = .ok (.string (mkS ((textL (bitI m)).take 2))) w := k1
          rw [hb] at C
          clear hl hb
          generalize (textL (bitI m)).take 1 = X0 at *
          obtain ⟨X1, hX⟩ : ∃ x, (textL (bitI m)).take 2 = x := ⟨_, rfl⟩
          rw [hX] at k1 k2
          have HX := Lib.hid hX
          clear hX
          go_wp2_with (first | (go_at_call 33; with_reducible refine (C.out _).mono ?_; rintro e w9 ⟨rfl, hw⟩; replace hw := hw.symm; subst hw))
          have hw2 := below_alloc1' wr (.cells #[.string { data := #[120] }, .string { data := #[119] }, .string { data := #[114] }] 9)
          go_roundg (9 - 2)
          case measure => omega
          case rel => exact ⟨2, 6, by omega, by omega, by omega, by rw [HX.out], by first | rfl | simp, HA.out.trans (hw2.mono HA.out.size)⟩
        · have hl := HT.out (bitI m) 1 (by omega) 119 (by unfold letN; simp [hb])
          have k1 : ∀ w, (Op.stringOp .add (mkS ((textL (bitI m)).take 1)) { data := #[119] }).run Tryd.prog w = .ok (.string (mkS ((textL (bitI m)).take 2))) w := fun w => by rw [hl]; exact mkS_cat _ [119] (by first | (simp; done) | (simp; omega)) w
          have k2 : ∀ w, (Op.stringOp .add (mkS ((textL (bitI m)).take 1)) (mkS [119])).run Tryd.prog w = .ok (.string (mkS ((textL (bitI m)).take 2))) w := k1
          rw [hb] at C
          clear hl hb
          generalize (textL (bitI m)).take 1 = X0 at *
          obtain ⟨X1, hX⟩ : ∃ x, (textL (bitI m)).take 2 = x := ⟨_, rfl⟩
          rw [hX] at k1 k2
          have HX := Lib.hid hX
          clear hX
          go_wp2_with (first | (go_at_call 33; with_reducible refine (C.out _).mono ?_; rintro e w9 ⟨rfl, hw⟩; replace hw := hw.symm; subst hw))
          have hw2 := below_alloc1' wr (.cells #[.string { data := #[120] }, .string { data := #[119] }, .string { data := #[114] }] 9)
          go_roundg (9 - 2)
          case measure => omega
          case rel => exact ⟨2, 6, by omega, by omega, by omega, by rw [HX.out], by first | rfl | simp, HA.out.trans (hw2.mono HA.out.size)⟩
      · have C := Lib.hid (show ∀ w, Calls Tryd.prog 33 #[.int .i64 m, .int .i64 8] w fun e w' => e = .returned (.bool (bitI m 8)) ∧ w' = w from fun w => HB.out 8 (by omega) w)
        cases hb : bitI m 8
        · have hl := HT.out (bitI m) 0 (by omega) 45 (by unfold letN; simp [hb])
          have k1 : ∀ w, (Op.stringOp .add (mkS ((textL (bitI m)).take 0)) { data := #[45] }).run Tryd.prog w = .ok (.string (mkS ((textL (bitI m)).take 1))) w := fun w => by rw [hl]; exact mkS_cat _ [45] (by first | (simp; done) | (simp; omega)) w
          have k2 : ∀ w, (Op.stringOp .add (mkS ((textL (bitI m)).take 0)) (mkS [45])).run Tryd.prog w = .ok (.string (mkS ((textL (bitI m)).take 1))) w := k1
          rw [hb] at C
          clear hl hb
          generalize (textL (bitI m)).take 0 = X0 at *
          obtain ⟨X1, hX⟩ : ∃ x, (textL (bitI m)).take 1 = x := ⟨_, rfl⟩
          rw [hX] at k1 k2
          have HX := Lib.hid hX
          clear hX
          go_wp2_with (first | (go_at_call 33; with_reducible refine (C.out _).mono ?_; rintro e w9 ⟨rfl, hw⟩; replace hw := hw.symm; subst hw))
          have hw2 := below_alloc1' wr (.cells #[.string { data := #[120] }, .string { data := #[119] }, .string { data := #[114] }] 9)
          go_roundg (9 - 1)
          case measure => omega
          case rel => exact ⟨1, 7, by omega, by omega, by omega, by rw [HX.out], by first | rfl | simp, HA.out.trans (hw2.mono HA.out.size)⟩
        · have hl := HT.out (bitI m) 0 (by omega) 114 (by unfold letN; simp [hb])
          have k1 : ∀ w, (Op.stringOp .add (mkS ((textL (bitI m)).take 0)) { data := #[114] }).run Tryd.prog w = .ok (.string (mkS ((textL (bitI m)).take 1))) w := fun w => by rw [hl]; exact mkS_cat _ [114] (by first | (simp; done) | (simp; omega)) w
          have k2 : ∀ w, (Op.stringOp .add (mkS ((textL (bitI m)).take 0)) (mkS [114])).run Tryd.prog w = .ok (.string (mkS ((textL (bitI m)).take 1))) w := k1
          rw [hb] at C
          clear hl hb
          generalize (textL (bitI m)).take 0 = X0 at *
          obtain ⟨X1, hX⟩ : ∃ x, (textL (bitI m)).take 1 = x := ⟨_, rfl⟩
          rw [hX] at k1 k2
          have HX := Lib.hid hX
          clear hX
          go_wp2_with (first | (go_at_call 33; with_reducible refine (C.out _).mono ?_; rintro e w9 ⟨rfl, hw⟩; replace hw := hw.symm; subst hw))
          have hw2 := below_alloc1' wr (.cells #[.string { data := #[120] }, .string { data := #[119] }, .string { data := #[114] }] 9)
          go_roundg (9 - 1)
          case measure => omega
          case rel => exact ⟨1, 7, by omega, by omega, by omega, by rw [HX.out], by first | rfl | simp, HA.out.trans (hw2.mono HA.out.size)⟩
    · obtain rfl : j = 9 := by omega
      obtain rfl : k = -1 := by omega
      have hl : (textL (bitI m)).take 9 = textL (bitI m) := List.take_of_length_le (by rw [HTL.out]; exact Nat.le_refl _)
      rw [hl]
      clear hl
      obtain ⟨X, hX⟩ : ∃ x, textL (bitI m) = x := ⟨_, rfl⟩
      rw [hX]
      have HX := Lib.hid hX
      clear hX
      go_wp2
      go_ret
      exact ⟨by rw [HX.out]; rfl, HA.out⟩
end Go.Proofs.YtalafhfpmkacgaaDoor
