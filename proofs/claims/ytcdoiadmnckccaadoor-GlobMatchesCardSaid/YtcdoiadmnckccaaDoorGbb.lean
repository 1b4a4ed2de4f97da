/- The walks of globAll's cases: Gbb. (gen_gal.py wrote it.) -/
import Derived.Test.YtcdoiadmnckccaaDoorGal
import Derived.StillTailTactics
namespace Go.Proofs.YtcdoiadmnckccaaDoor
set_option linter.unusedVariables false
set_option linter.unusedSimpArgs false
open Go.RowKit Go.Joins Go.Maps
set_option maxRecDepth 100000

set_option maxHeartbeats 2000000 in
theorem all_any_end (b : Nat) (M H : Nat → Nat → Bool) (S T : ByteArray) (i j : Nat) (sp : S.size = i) (sn : T.size = j) (hi : i ≤ 120) (hj : j ≤ 120) (w : World) (hme : Memo w b M H) (hh0 : H i j = false)
    (R : ByteArray) (e0 : S.toList.isEmpty = false) (PF0 : ∀ w, Calls Tryd.prog 14 #[.string S, .string { data := #[42, 42] }] w fun e w' => e = .returned (.bool false) ∧ w' = w) (i0 : ∀ w, (Instr.index 9 (.string S) (.int .i64 0)).run Tryd.prog w = .ok (.int .u8 63) w) (sr : ∀ w, (Instr.slice 9 (.string S) (some (.int .i64 1)) none none).run Tryd.prog w = .ok (.string R) w) (e1 : T.toList.isEmpty = true) (hM0 : false = M i j) :
    Calls Tryd.prog 8 #[.string S, .string T, .map (some b)] w (CallIs b M false (i + j + 1) w H) := by
  have A := Lib.hid (Amid.first hme i j)
  obtain ⟨v, lk, _⟩ := A.out.memo.look hi hj
  rw [hh0] at lk
  have hh := Lib.hid hh0
  have hH0 := Lib.hid ((A.out.same i j (Nat.le_refl _)).trans hh0)
  clear hme hh0
  have hM := Lib.hid hM0
  clear hM0
  have PF := Lib.hid PF0
  clear PF0
  go_enter Tryd.func8, Tryd.ntmps8
  go_wp2_with (first
    | (go_at_call 14; (with_reducible refine (PF.out _).mono ?_); rintro e w' ⟨rfl, hw⟩; replace hw := hw.symm; subst hw))
  go_quiet (fail)
  have AQ := Lib.hid (A.out.below (below_draws _ _ nq))
  have hHQ := Lib.hid ((AQ.out.same i j (Nat.le_refl _)).trans hh.out)
  obtain ⟨kxq, kyq⟩ := AQ.out.key
  clear A hH0 lk
  generalize (w.alloc (.cells #[.int .i64 (i : Int), .int .i64 (j : Int)] 51)).drewN nq = wq at *
  go_wp2_with (first
    | (at_mapUpdate; (with_reducible refine wpList_memo_put rfl _ _ _ rfl b M H i j rfl AQ.out.memo hi hj hHQ.out rfl _ rfl hM.out ?_); intro w9 hm9 hg9; have R9 := Lib.hid (And.intro hm9 hg9); clear hm9 hg9))
  go_ret
  exact AQ.out.done R9.out.1 R9.out.2
set_option maxHeartbeats 2000000 in
theorem all_any_slash (b : Nat) (M H : Nat → Nat → Bool) (S T : ByteArray) (i j : Nat) (sp : S.size = i) (sn : T.size = j) (hi : i ≤ 120) (hj : j ≤ 120) (w : World) (hme : Memo w b M H) (hh0 : H i j = false)
    (R : ByteArray) (e0 : S.toList.isEmpty = false) (PF0 : ∀ w, Calls Tryd.prog 14 #[.string S, .string { data := #[42, 42] }] w fun e w' => e = .returned (.bool false) ∧ w' = w) (i0 : ∀ w, (Instr.index 9 (.string S) (.int .i64 0)).run Tryd.prog w = .ok (.int .u8 63) w) (sr : ∀ w, (Instr.slice 9 (.string S) (some (.int .i64 1)) none none).run Tryd.prog w = .ok (.string R) w) (e1 : T.toList.isEmpty = false) (j0 : ∀ w, (Instr.index 9 (.string T) (.int .i64 0)).run Tryd.prog w = .ok (.int .u8 47) w) (hM0 : false = M i j) :
    Calls Tryd.prog 8 #[.string S, .string T, .map (some b)] w (CallIs b M false (i + j + 1) w H) := by
  have A := Lib.hid (Amid.first hme i j)
  obtain ⟨v, lk, _⟩ := A.out.memo.look hi hj
  rw [hh0] at lk
  have hh := Lib.hid hh0
  have hH0 := Lib.hid ((A.out.same i j (Nat.le_refl _)).trans hh0)
  clear hme hh0
  have hM := Lib.hid hM0
  clear hM0
  have PF := Lib.hid PF0
  clear PF0
  go_enter Tryd.func8, Tryd.ntmps8
  go_wp2_with (first
    | (go_at_call 14; (with_reducible refine (PF.out _).mono ?_); rintro e w' ⟨rfl, hw⟩; replace hw := hw.symm; subst hw))
  go_quiet (fail)
  have AQ := Lib.hid (A.out.below (below_draws _ _ nq))
  have hHQ := Lib.hid ((AQ.out.same i j (Nat.le_refl _)).trans hh.out)
  obtain ⟨kxq, kyq⟩ := AQ.out.key
  clear A hH0 lk
  generalize (w.alloc (.cells #[.int .i64 (i : Int), .int .i64 (j : Int)] 51)).drewN nq = wq at *
  go_wp2_with (first
    | (at_mapUpdate; (with_reducible refine wpList_memo_put rfl _ _ _ rfl b M H i j rfl AQ.out.memo hi hj hHQ.out rfl _ rfl hM.out ?_); intro w9 hm9 hg9; have R9 := Lib.hid (And.intro hm9 hg9); clear hm9 hg9))
  go_ret
  exact AQ.out.done R9.out.1 R9.out.2
set_option maxHeartbeats 2000000 in
theorem all_any_on (b : Nat) (M H : Nat → Nat → Bool) (S T : ByteArray) (i j : Nat) (sp : S.size = i) (sn : T.size = j) (hi : i ≤ 120) (hj : j ≤ 120) (w : World) (hme : Memo w b M H) (hh0 : H i j = false)
    (R T1 : ByteArray) (y : Bool) (ci : Int) (e0 : S.toList.isEmpty = false) (PF0 : ∀ w, Calls Tryd.prog 14 #[.string S, .string { data := #[42, 42] }] w fun e w' => e = .returned (.bool false) ∧ w' = w) (i0 : ∀ w, (Instr.index 9 (.string S) (.int .i64 0)).run Tryd.prog w = .ok (.int .u8 63) w) (sr : ∀ w, (Instr.slice 9 (.string S) (some (.int .i64 1)) none none).run Tryd.prog w = .ok (.string R) w) (e1 : T.toList.isEmpty = false) (j0 : ∀ w, (Instr.index 9 (.string T) (.int .i64 0)).run Tryd.prog w = .ok (.int .u8 ci) w) (hc : (ci != 47) = true) (s1 : ∀ w, (Instr.slice 9 (.string T) (some (.int .i64 1)) none none).run Tryd.prog w = .ok (.string T1) w) (C10 : Tells b M y (i + j) R T1) (hM0 : y = M i j) :
    Calls Tryd.prog 8 #[.string S, .string T, .map (some b)] w (CallIs b M y (i + j + 1) w H) := by
  have A := Lib.hid (Amid.first hme i j)
  obtain ⟨v, lk, _⟩ := A.out.memo.look hi hj
  rw [hh0] at lk
  have hh := Lib.hid hh0
  have hH0 := Lib.hid ((A.out.same i j (Nat.le_refl _)).trans hh0)
  clear hme hh0
  have hM := Lib.hid hM0
  clear hM0
  have PF := Lib.hid PF0
  clear PF0
  have C1 := Lib.hid C10
  clear C10
  go_enter Tryd.func8, Tryd.ntmps8
  go_wp2_with (first
    | (go_at_call 14; (with_reducible refine (PF.out _).mono ?_); rintro e w' ⟨rfl, hw⟩; replace hw := hw.symm; subst hw))
  go_still_tail 13, (by kernel_rfl)
  change wpList _ _ _ _ _ (w.alloc (.cells #[.int .i64 (i : Int), .int .i64 (j : Int)] 51)).drew
  have AQ := Lib.hid (A.out.below (Below.refl _ _).drew)
  clear A hH0 lk
  generalize (w.alloc (.cells #[.int .i64 (i : Int), .int .i64 (j : Int)] 51)).drew = wq at *
  go_wp2_with (first
    | (go_at_call 8; (with_reducible refine (C1.out _ _ AQ.out.memo).mono ?_); intro e w2 hc2; obtain ⟨he2, H2, hm2, hs2, hb2⟩ := hc2; subst he2; have A2 := Lib.hid (AQ.out.call hm2 hs2 hb2); have hH2 := Lib.hid ((A2.out.same i j (Nat.le_refl _)).trans hh.out); obtain ⟨kx2, ky2⟩ := A2.out.key; clear hm2 hs2 hb2)
    | (at_mapUpdate; (with_reducible refine wpList_memo_put rfl _ _ _ rfl b M H2 i j rfl A2.out.memo hi hj hH2.out rfl _ rfl hM.out ?_); intro w9 hm9 hg9; have R9 := Lib.hid (And.intro hm9 hg9); clear hm9 hg9))
  go_ret
  exact A2.out.done R9.out.1 R9.out.2
end Go.Proofs.YtcdoiadmnckccaaDoor
