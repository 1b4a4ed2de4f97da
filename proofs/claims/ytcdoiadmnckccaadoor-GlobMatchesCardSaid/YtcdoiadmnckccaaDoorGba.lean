/- The walks of globAll's cases: Gba. (gen_gal.py wrote it.) -/
import Derived.Test.YtcdoiadmnckccaaDoorGal
import Derived.StillTailTactics
namespace Go.Proofs.YtcdoiadmnckccaaDoor
set_option linter.unusedVariables false
set_option linter.unusedSimpArgs false
open Go.RowKit Go.Joins Go.Maps
set_option maxRecDepth 100000

set_option maxHeartbeats 2000000 in
theorem all_empty (b : Nat) (M H : Nat → Nat → Bool) (S T : ByteArray) (i j : Nat) (sp : S.size = i) (sn : T.size = j) (hi : i ≤ 120) (hj : j ≤ 120) (w : World) (hme : Memo w b M H) (hh0 : H i j = false)
    (e0 : S.toList.isEmpty = true) (u : Bool) (e1 : T.toList.isEmpty = u) (hM0 : u = M i j) :
    Calls Tryd.prog 8 #[.string S, .string T, .map (some b)] w (CallIs b M u (i + j + 1) w H) := by
  have A := Lib.hid (Amid.first hme i j)
  obtain ⟨v, lk, _⟩ := A.out.memo.look hi hj
  rw [hh0] at lk
  have hh := Lib.hid hh0
  have hH0 := Lib.hid ((A.out.same i j (Nat.le_refl _)).trans hh0)
  clear hme hh0
  have hM := Lib.hid hM0
  clear hM0
  go_enter Tryd.func8, Tryd.ntmps8
  go_wp2_with (first
    | (at_mapUpdate; (with_reducible refine wpList_memo_put rfl _ _ _ rfl b M H i j rfl A.out.memo hi hj hH0.out rfl _ rfl hM.out ?_); intro w9 hm9 hg9; have R9 := Lib.hid (And.intro hm9 hg9); clear hm9 hg9))
  go_ret
  exact A.out.done R9.out.1 R9.out.2
set_option maxHeartbeats 2000000 in
theorem all_two_yes (b : Nat) (M H : Nat → Nat → Bool) (S T : ByteArray) (i j : Nat) (sp : S.size = i) (sn : T.size = j) (hi : i ≤ 120) (hj : j ≤ 120) (w : World) (hme : Memo w b M H) (hh0 : H i j = false)
    (R : ByteArray) (e0 : S.toList.isEmpty = false) (PF0 : ∀ w, Calls Tryd.prog 14 #[.string S, .string { data := #[42, 42] }] w fun e w' => e = .returned (.bool true) ∧ w' = w) (s2 : ∀ w, (Instr.slice 9 (.string S) (some (.int .i64 2)) none none).run Tryd.prog w = .ok (.string R) w) (C10 : Tells b M true (i + j) R T) (hM0 : true = M i j) :
    Calls Tryd.prog 8 #[.string S, .string T, .map (some b)] w (CallIs b M true (i + j + 1) w H) := by
  have A := Lib.hid (Amid.first hme i j)
  obtain ⟨v, lk, _⟩ := A.out.memo.look hi hj
  rw [hh0] at lk
  have hh := Lib.hid hh0
  have hH0 := Lib.hid ((A.out.same i j (Nat.le_refl _)).trans hh0)
  clear hme hh0
  have hM := Lib.hid hM0
  clear hM0
  have PF := Lib.hid PF0
  clear PF0
  have C1 := Lib.hid C10
  clear C10
  go_enter Tryd.func8, Tryd.ntmps8
  go_wp2_with (first
    | (go_at_call 14; (with_reducible refine (PF.out _).mono ?_); rintro e w' ⟨rfl, hw⟩; replace hw := hw.symm; subst hw)
    | (go_at_call 8; (with_reducible refine (C1.out _ _ A.out.memo).mono ?_); intro e w2 hc2; obtain ⟨he2, H2, hm2, hs2, hb2⟩ := hc2; subst he2; have A2 := Lib.hid (A.out.call hm2 hs2 hb2); have hH2 := Lib.hid ((A2.out.same i j (Nat.le_refl _)).trans hh.out); obtain ⟨kx2, ky2⟩ := A2.out.key; clear hm2 hs2 hb2)
    | (at_mapUpdate; (with_reducible refine wpList_memo_put rfl _ _ _ rfl b M H2 i j rfl A2.out.memo hi hj hH2.out rfl _ rfl hM.out ?_); intro w9 hm9 hg9; have R9 := Lib.hid (And.intro hm9 hg9); clear hm9 hg9))
  go_ret
  exact A2.out.done R9.out.1 R9.out.2
set_option maxHeartbeats 2000000 in
theorem all_two_end (b : Nat) (M H : Nat → Nat → Bool) (S T : ByteArray) (i j : Nat) (sp : S.size = i) (sn : T.size = j) (hi : i ≤ 120) (hj : j ≤ 120) (w : World) (hme : Memo w b M H) (hh0 : H i j = false)
    (R : ByteArray) (e0 : S.toList.isEmpty = false) (PF0 : ∀ w, Calls Tryd.prog 14 #[.string S, .string { data := #[42, 42] }] w fun e w' => e = .returned (.bool true) ∧ w' = w) (s2 : ∀ w, (Instr.slice 9 (.string S) (some (.int .i64 2)) none none).run Tryd.prog w = .ok (.string R) w) (C10 : Tells b M false (i + j) R T) (e1 : T.toList.isEmpty = true) (hM0 : false = M i j) :
    Calls Tryd.prog 8 #[.string S, .string T, .map (some b)] w (CallIs b M false (i + j + 1) w H) := by
  have A := Lib.hid (Amid.first hme i j)
  obtain ⟨v, lk, _⟩ := A.out.memo.look hi hj
  rw [hh0] at lk
  have hh := Lib.hid hh0
  have hH0 := Lib.hid ((A.out.same i j (Nat.le_refl _)).trans hh0)
  clear hme hh0
  have hM := Lib.hid hM0
  clear hM0
  have PF := Lib.hid PF0
  clear PF0
  have C1 := Lib.hid C10
  clear C10
  go_enter Tryd.func8, Tryd.ntmps8
  go_wp2_with (first
    | (go_at_call 14; (with_reducible refine (PF.out _).mono ?_); rintro e w' ⟨rfl, hw⟩; replace hw := hw.symm; subst hw)
    | (go_at_call 8; (with_reducible refine (C1.out _ _ A.out.memo).mono ?_); intro e w2 hc2; obtain ⟨he2, H2, hm2, hs2, hb2⟩ := hc2; subst he2; have A2 := Lib.hid (A.out.call hm2 hs2 hb2); have hH2 := Lib.hid ((A2.out.same i j (Nat.le_refl _)).trans hh.out); obtain ⟨kx2, ky2⟩ := A2.out.key; clear hm2 hs2 hb2)
    | (at_mapUpdate; (with_reducible refine wpList_memo_put rfl _ _ _ rfl b M H2 i j rfl A2.out.memo hi hj hH2.out rfl _ rfl hM.out ?_); intro w9 hm9 hg9; have R9 := Lib.hid (And.intro hm9 hg9); clear hm9 hg9))
  go_ret
  exact A2.out.done R9.out.1 R9.out.2
set_option maxHeartbeats 2000000 in
theorem all_two_on (b : Nat) (M H : Nat → Nat → Bool) (S T : ByteArray) (i j : Nat) (sp : S.size = i) (sn : T.size = j) (hi : i ≤ 120) (hj : j ≤ 120) (w : World) (hme : Memo w b M H) (hh0 : H i j = false)
    (R T1 : ByteArray) (y : Bool) (e0 : S.toList.isEmpty = false) (PF0 : ∀ w, Calls Tryd.prog 14 #[.string S, .string { data := #[42, 42] }] w fun e w' => e = .returned (.bool true) ∧ w' = w) (s2 : ∀ w, (Instr.slice 9 (.string S) (some (.int .i64 2)) none none).run Tryd.prog w = .ok (.string R) w) (C10 : Tells b M false (i + j) R T) (e1 : T.toList.isEmpty = false) (s1 : ∀ w, (Instr.slice 9 (.string T) (some (.int .i64 1)) none none).run Tryd.prog w = .ok (.string T1) w) (C20 : Tells b M y (i + j) S T1) (hM0 : y = M i j) :
    Calls Tryd.prog 8 #[.string S, .string T, .map (some b)] w (CallIs b M y (i + j + 1) w H) := by
  have A := Lib.hid (Amid.first hme i j)
  obtain ⟨v, lk, _⟩ := A.out.memo.look hi hj
  rw [hh0] at lk
  have hh := Lib.hid hh0
  have hH0 := Lib.hid ((A.out.same i j (Nat.le_refl _)).trans hh0)
  clear hme hh0
  have hM := Lib.hid hM0
  clear hM0
  have PF := Lib.hid PF0
  clear PF0
  have C1 := Lib.hid C10
  clear C10
  have C2 := Lib.hid C20
  clear C20
  go_enter Tryd.func8, Tryd.ntmps8
  go_wp2_with (first
    | (go_at_call 14; (with_reducible refine (PF.out _).mono ?_); rintro e w' ⟨rfl, hw⟩; replace hw := hw.symm; subst hw)
    | (go_at_call 8; (with_reducible refine (C1.out _ _ A.out.memo).mono ?_); intro e w2 hc2; obtain ⟨he2, H2, hm2, hs2, hb2⟩ := hc2; subst he2; have A2 := Lib.hid (A.out.call hm2 hs2 hb2); have hH2 := Lib.hid ((A2.out.same i j (Nat.le_refl _)).trans hh.out); obtain ⟨kx2, ky2⟩ := A2.out.key; clear hm2 hs2 hb2)
    | (go_at_call 8; (with_reducible refine (C2.out _ _ A2.out.memo).mono ?_); intro e w3 hc3; obtain ⟨he3, H3, hm3, hs3, hb3⟩ := hc3; subst he3; have A3 := Lib.hid (A2.out.call hm3 hs3 hb3); have hH3 := Lib.hid ((A3.out.same i j (Nat.le_refl _)).trans hh.out); obtain ⟨kx3, ky3⟩ := A3.out.key; clear hm3 hs3 hb3)
    | (at_mapUpdate; (with_reducible refine wpList_memo_put rfl _ _ _ rfl b M H3 i j rfl A3.out.memo hi hj hH3.out rfl _ rfl hM.out ?_); intro w9 hm9 hg9; have R9 := Lib.hid (And.intro hm9 hg9); clear hm9 hg9))
  go_ret
  exact A3.out.done R9.out.1 R9.out.2
set_option maxHeartbeats 2000000 in
theorem all_star_yes (b : Nat) (M H : Nat → Nat → Bool) (S T : ByteArray) (i j : Nat) (sp : S.size = i) (sn : T.size = j) (hi : i ≤ 120) (hj : j ≤ 120) (w : World) (hme : Memo w b M H) (hh0 : H i j = false)
    (R : ByteArray) (e0 : S.toList.isEmpty = false) (PF0 : ∀ w, Calls Tryd.prog 14 #[.string S, .string { data := #[42, 42] }] w fun e w' => e = .returned (.bool false) ∧ w' = w) (i0 : ∀ w, (Instr.index 9 (.string S) (.int .i64 0)).run Tryd.prog w = .ok (.int .u8 42) w) (sr : ∀ w, (Instr.slice 9 (.string S) (some (.int .i64 1)) none none).run Tryd.prog w = .ok (.string R) w) (C10 : Tells b M true (i + j) R T) (hM0 : true = M i j) :
    Calls Tryd.prog 8 #[.string S, .string T, .map (some b)] w (CallIs b M true (i + j + 1) w H) := by
  have A := Lib.hid (Amid.first hme i j)
  obtain ⟨v, lk, _⟩ := A.out.memo.look hi hj
  rw [hh0] at lk
  have hh := Lib.hid hh0
  have hH0 := Lib.hid ((A.out.same i j (Nat.le_refl _)).trans hh0)
  clear hme hh0
  have hM := Lib.hid hM0
  clear hM0
  have PF := Lib.hid PF0
  clear PF0
  have C1 := Lib.hid C10
  clear C10
  go_enter Tryd.func8, Tryd.ntmps8
  go_wp2_with (first
    | (go_at_call 14; (with_reducible refine (PF.out _).mono ?_); rintro e w' ⟨rfl, hw⟩; replace hw := hw.symm; subst hw)
    | (go_at_call 8; (with_reducible refine (C1.out _ _ A.out.memo).mono ?_); intro e w2 hc2; obtain ⟨he2, H2, hm2, hs2, hb2⟩ := hc2; subst he2; have A2 := Lib.hid (A.out.call hm2 hs2 hb2); have hH2 := Lib.hid ((A2.out.same i j (Nat.le_refl _)).trans hh.out); obtain ⟨kx2, ky2⟩ := A2.out.key; clear hm2 hs2 hb2)
    | (at_mapUpdate; (with_reducible refine wpList_memo_put rfl _ _ _ rfl b M H2 i j rfl A2.out.memo hi hj hH2.out rfl _ rfl hM.out ?_); intro w9 hm9 hg9; have R9 := Lib.hid (And.intro hm9 hg9); clear hm9 hg9))
  go_ret
  exact A2.out.done R9.out.1 R9.out.2
set_option maxHeartbeats 2000000 in
theorem all_star_end (b : Nat) (M H : Nat → Nat → Bool) (S T : ByteArray) (i j : Nat) (sp : S.size = i) (sn : T.size = j) (hi : i ≤ 120) (hj : j ≤ 120) (w : World) (hme : Memo w b M H) (hh0 : H i j = false)
    (R : ByteArray) (e0 : S.toList.isEmpty = false) (PF0 : ∀ w, Calls Tryd.prog 14 #[.string S, .string { data := #[42, 42] }] w fun e w' => e = .returned (.bool false) ∧ w' = w) (i0 : ∀ w, (Instr.index 9 (.string S) (.int .i64 0)).run Tryd.prog w = .ok (.int .u8 42) w) (sr : ∀ w, (Instr.slice 9 (.string S) (some (.int .i64 1)) none none).run Tryd.prog w = .ok (.string R) w) (C10 : Tells b M false (i + j) R T) (e1 : T.toList.isEmpty = true) (hM0 : false = M i j) :
    Calls Tryd.prog 8 #[.string S, .string T, .map (some b)] w (CallIs b M false (i + j + 1) w H) := by
  have A := Lib.hid (Amid.first hme i j)
  obtain ⟨v, lk, _⟩ := A.out.memo.look hi hj
  rw [hh0] at lk
  have hh := Lib.hid hh0
  have hH0 := Lib.hid ((A.out.same i j (Nat.le_refl _)).trans hh0)
  clear hme hh0
  have hM := Lib.hid hM0
  clear hM0
  have PF := Lib.hid PF0
  clear PF0
  have C1 := Lib.hid C10
  clear C10
  go_enter Tryd.func8, Tryd.ntmps8
  go_wp2_with (first
    | (go_at_call 14; (with_reducible refine (PF.out _).mono ?_); rintro e w' ⟨rfl, hw⟩; replace hw := hw.symm; subst hw)
    | (go_at_call 8; (with_reducible refine (C1.out _ _ A.out.memo).mono ?_); intro e w2 hc2; obtain ⟨he2, H2, hm2, hs2, hb2⟩ := hc2; subst he2; have A2 := Lib.hid (A.out.call hm2 hs2 hb2); have hH2 := Lib.hid ((A2.out.same i j (Nat.le_refl _)).trans hh.out); obtain ⟨kx2, ky2⟩ := A2.out.key; clear hm2 hs2 hb2)
    | (at_mapUpdate; (with_reducible refine wpList_memo_put rfl _ _ _ rfl b M H2 i j rfl A2.out.memo hi hj hH2.out rfl _ rfl hM.out ?_); intro w9 hm9 hg9; have R9 := Lib.hid (And.intro hm9 hg9); clear hm9 hg9))
  go_ret
  exact A2.out.done R9.out.1 R9.out.2
set_option maxHeartbeats 2000000 in
theorem all_star_slash (b : Nat) (M H : Nat → Nat → Bool) (S T : ByteArray) (i j : Nat) (sp : S.size = i) (sn : T.size = j) (hi : i ≤ 120) (hj : j ≤ 120) (w : World) (hme : Memo w b M H) (hh0 : H i j = false)
    (R : ByteArray) (e0 : S.toList.isEmpty = false) (PF0 : ∀ w, Calls Tryd.prog 14 #[.string S, .string { data := #[42, 42] }] w fun e w' => e = .returned (.bool false) ∧ w' = w) (i0 : ∀ w, (Instr.index 9 (.string S) (.int .i64 0)).run Tryd.prog w = .ok (.int .u8 42) w) (sr : ∀ w, (Instr.slice 9 (.string S) (some (.int .i64 1)) none none).run Tryd.prog w = .ok (.string R) w) (C10 : Tells b M false (i + j) R T) (e1 : T.toList.isEmpty = false) (j0 : ∀ w, (Instr.index 9 (.string T) (.int .i64 0)).run Tryd.prog w = .ok (.int .u8 47) w) (hM0 : false = M i j) :
    Calls Tryd.prog 8 #[.string S, .string T, .map (some b)] w (CallIs b M false (i + j + 1) w H) := by
  have A := Lib.hid (Amid.first hme i j)
  obtain ⟨v, lk, _⟩ := A.out.memo.look hi hj
  rw [hh0] at lk
  have hh := Lib.hid hh0
  have hH0 := Lib.hid ((A.out.same i j (Nat.le_refl _)).trans hh0)
  clear hme hh0
  have hM := Lib.hid hM0
  clear hM0
  have PF := Lib.hid PF0
  clear PF0
  have C1 := Lib.hid C10
  clear C10
  go_enter Tryd.func8, Tryd.ntmps8
  go_wp2_with (first
    | (go_at_call 14; (with_reducible refine (PF.out _).mono ?_); rintro e w' ⟨rfl, hw⟩; replace hw := hw.symm; subst hw)
    | (go_at_call 8; (with_reducible refine (C1.out _ _ A.out.memo).mono ?_); intro e w2 hc2; obtain ⟨he2, H2, hm2, hs2, hb2⟩ := hc2; subst he2; have A2 := Lib.hid (A.out.call hm2 hs2 hb2); have hH2 := Lib.hid ((A2.out.same i j (Nat.le_refl _)).trans hh.out); obtain ⟨kx2, ky2⟩ := A2.out.key; clear hm2 hs2 hb2)
    | (at_mapUpdate; (with_reducible refine wpList_memo_put rfl _ _ _ rfl b M H2 i j rfl A2.out.memo hi hj hH2.out rfl _ rfl hM.out ?_); intro w9 hm9 hg9; have R9 := Lib.hid (And.intro hm9 hg9); clear hm9 hg9))
  go_ret
  exact A2.out.done R9.out.1 R9.out.2
set_option maxHeartbeats 2000000 in
theorem all_star_on (b : Nat) (M H : Nat → Nat → Bool) (S T : ByteArray) (i j : Nat) (sp : S.size = i) (sn : T.size = j) (hi : i ≤ 120) (hj : j ≤ 120) (w : World) (hme : Memo w b M H) (hh0 : H i j = false)
    (R T1 : ByteArray) (y : Bool) (ci : Int) (e0 : S.toList.isEmpty = false) (PF0 : ∀ w, Calls Tryd.prog 14 #[.string S, .string { data := #[42, 42] }] w fun e w' => e = .returned (.bool false) ∧ w' = w) (i0 : ∀ w, (Instr.index 9 (.string S) (.int .i64 0)).run Tryd.prog w = .ok (.int .u8 42) w) (sr : ∀ w, (Instr.slice 9 (.string S) (some (.int .i64 1)) none none).run Tryd.prog w = .ok (.string R) w) (C10 : Tells b M false (i + j) R T) (e1 : T.toList.isEmpty = false) (j0 : ∀ w, (Instr.index 9 (.string T) (.int .i64 0)).run Tryd.prog w = .ok (.int .u8 ci) w) (hc : (ci != 47) = true) (s1 : ∀ w, (Instr.slice 9 (.string T) (some (.int .i64 1)) none none).run Tryd.prog w = .ok (.string T1) w) (C20 : Tells b M y (i + j) S T1) (hM0 : y = M i j) :
    Calls Tryd.prog 8 #[.string S, .string T, .map (some b)] w (CallIs b M y (i + j + 1) w H) := by
  have A := Lib.hid (Amid.first hme i j)
  obtain ⟨v, lk, _⟩ := A.out.memo.look hi hj
  rw [hh0] at lk
  have hh := Lib.hid hh0
  have hH0 := Lib.hid ((A.out.same i j (Nat.le_refl _)).trans hh0)
  clear hme hh0
  have hM := Lib.hid hM0
  clear hM0
  have PF := Lib.hid PF0
  clear PF0
  have C1 := Lib.hid C10
  clear C10
  have C2 := Lib.hid C20
  clear C20
  go_enter Tryd.func8, Tryd.ntmps8
  go_wp2_with (first
    | (go_at_call 14; (with_reducible refine (PF.out _).mono ?_); rintro e w' ⟨rfl, hw⟩; replace hw := hw.symm; subst hw)
    | (go_at_call 8; (with_reducible refine (C1.out _ _ A.out.memo).mono ?_); intro e w2 hc2; obtain ⟨he2, H2, hm2, hs2, hb2⟩ := hc2; subst he2; have A2 := Lib.hid (A.out.call hm2 hs2 hb2); have hH2 := Lib.hid ((A2.out.same i j (Nat.le_refl _)).trans hh.out); obtain ⟨kx2, ky2⟩ := A2.out.key; clear hm2 hs2 hb2)
    | (go_at_call 8; (with_reducible refine (C2.out _ _ A2.out.memo).mono ?_); intro e w3 hc3; obtain ⟨he3, H3, hm3, hs3, hb3⟩ := hc3; subst he3; have A3 := Lib.hid (A2.out.call hm3 hs3 hb3); have hH3 := Lib.hid ((A3.out.same i j (Nat.le_refl _)).trans hh.out); obtain ⟨kx3, ky3⟩ := A3.out.key; clear hm3 hs3 hb3)
    | (at_mapUpdate; (with_reducible refine wpList_memo_put rfl _ _ _ rfl b M H3 i j rfl A3.out.memo hi hj hH3.out rfl _ rfl hM.out ?_); intro w9 hm9 hg9; have R9 := Lib.hid (And.intro hm9 hg9); clear hm9 hg9))
  go_ret
  exact A3.out.done R9.out.1 R9.out.2
end Go.Proofs.YtcdoiadmnckccaaDoor
