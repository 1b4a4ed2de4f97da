/- The law ModeSets: its walk. -/
import Derived.Test.YtalafhfpmkacgaaDoorOne
namespace Go.Proofs.YtalafhfpmkacgaaDoor
open Go.RowKit Go.Joins
set_option linter.unusedVariables false
set_option linter.unusedSimpArgs false
set_option maxRecDepth 100000

theorem setT_on (k i : Nat) (h : k.testBit (2 - i) = true) : setT k (i + 1) = setT k i ++ [letC i] := by
  show setT k i ++ (if k.testBit (2 - i) = true then [letC i] else []) = _
  rw [h]; rfl
theorem setT_off (k i : Nat) (h : k.testBit (2 - i) = false) : setT k (i + 1) = setT k i := by
  show setT k i ++ (if k.testBit (2 - i) = true then [letC i] else []) = setT k i
  rw [h]; simp
set_option maxHeartbeats 4000000 in
theorem modeSets_walk (a0 : Int) (w0 : (Lit.int .i64 a0).wf = true) (a1 : Int) (w1 : (Lit.int .i64 a1).wf = true) (a2 : Bool) (w : World) (hA : AtoiLaid w) :
    Calls Tryd.prog 9 #[.int .i64 a0, .int .i64 a1, .bool a2] w fun e w' => e = .returned (.bool true) ∧ Below w.heap.size w w' := by
  obtain ⟨m, hm, PM⟩ := pick_nat a0 4096 (by omega) (by omega)
  obtain ⟨k, hk, PK⟩ := pick_nat a1 8 (by omega) (by omega)
  have PM := Lib.hid (show ∀ w, Calls Tryd.prog 18 #[.int .i64 a0, .int .i64 4096] w fun e w' => e = .returned (.int .i64 (m : Int)) ∧ w' = w from PM)
  have PK := Lib.hid (show ∀ w, Calls Tryd.prog 18 #[.int .i64 a1, .int .i64 8] w fun e w' => e = .returned (.int .i64 (k : Int)) ∧ w' = w from PK)
  have MO := Lib.hid (fun w h => moded_true w h)
  have C1 := Lib.hid (fun w h => change_ok (set_val m k a2 hm hk) (by have := setT_len k 3; simp; omega) w h)
  have C2 := Lib.hid (show ∀ w, AtoiLaid w → Calls Tryd.prog 11 #[.int .i64 (m : Int), .string { data := #[97, 61] }, .bool a2] w fun e W' => e = .returned (.tuple #[.int .i64 0, .nilIface]) ∧ Below w.heap.size w W' from fun w h => change_ok (all_val m a2 hm).1 (by decide) w h)
  have C3 := Lib.hid (show ∀ w, AtoiLaid w → Calls Tryd.prog 11 #[.int .i64 (m : Int), .string { data := #[117, 103, 111, 61] }, .bool a2] w fun e W' => e = .returned (.tuple #[.int .i64 0, .nilIface]) ∧ Below w.heap.size w W' from fun w h => change_ok (all_val m a2 hm).2 (by decide) w h)
  have kg : ∀ w, (Op.stringOp .add { data := #[103, 61] } (mkS (setT k 3))).run Tryd.prog w = .ok (.string (mkS (103 :: 61 :: setT k 3))) w := fun w => mkS_cat [103, 61] (setT k 3) (by have := setT_len k 3; simp; omega) w
  have o1 : bits .andNot .i64 (m : Int) 1080 = ((less m 1080 : Nat) : Int) := i64_andNot_nat m 1080 (by omega) (by omega)
  have hlm := less_lt' m 1080 hm
  have o2 : bits .or .i64 ((less m 1080 : Nat) : Int) ((k : Int) * 8) = ((less m 1080 ||| k * 8 : Nat) : Int) := by
    have := i64_or_nat (less m 1080) (k * 8) (by omega) (by omega)
    simpa using this
  obtain ⟨v1, hv1⟩ : ∃ v, less m 1080 ||| k * 8 = v := ⟨_, rfl⟩
  rw [hv1] at C1 o2
  generalize less m 1080 = v0 at *
  have HA := Lib.hid hA
  have HX := Lib.hid (show ∀ i : Nat, i < 3 → (∀ w, (Instr.slice 9 (.string { data := #[114, 119, 120] }) (some (.int .i64 (i : Int))) (some (.int .i64 ((i : Int) + 1))) none).run Tryd.prog w = .ok (.string (mkS [letC i])) w) from fun i hi w => by
    have h := mkS_mid [114, 119, 120] i (i + 1) (by omega) (by simp; omega) w
    have e : (([114, 119, 120] : List UInt8).drop i).take (i + 1 - i) = [letC i] := by
      obtain rfl | rfl | rfl : i = 0 ∨ i = 1 ∨ i = 2 := by omega
      all_goals rfl
    rw [e] at h
    have e2 : ((i + 1 : Nat) : Int) = (i : Int) + 1 := by omega
    rw [e2] at h
    exact h)
  have HCAT := Lib.hid (show ∀ i : Nat, i ≤ 3 → ∀ w, (Op.stringOp .add (mkS (setT k i)) (mkS [letC i])).run Tryd.prog w = .ok (.string (mkS (setT k i ++ [letC i]))) w from fun i hi w => mkS_cat _ _ (by have := setT_len k i; simp; omega) w)
  clear hA w0 w1 hv1
  go_enter Tryd.func9, Tryd.ntmps9
  go_wp2_with (first
    | (go_at_call 17; with_reducible refine (MO.out _ HA.out).mono ?_; rintro e w1 ⟨rfl, hb1⟩; have B1 := Lib.hid hb1; clear hb1)
    | (go_at_call 18; with_reducible refine (PM.out _).mono ?_; rintro e w' ⟨rfl, hw⟩; replace hw := hw.symm; subst hw)
    | (go_at_call 18; with_reducible refine (PK.out _).mono ?_; rintro e w' ⟨rfl, hw⟩; replace hw := hw.symm; subst hw))
  have kg1 := kg
  clear kg
  have KG := Lib.hid kg1
  clear kg1
  go_loopg [7, 8] 3 (fun g s7 s8 wr => ∃ i : Nat, i ≤ 3 ∧ 3 - i ≤ g ∧ s7 = .string (mkS (setT k i)) ∧ s8 = .int .i64 i ∧ Aside (Below w.heap.size w wr))
  case atStart => exact ⟨0, by omega, by omega, rfl, rfl, B1.out⟩
  case round =>
    obtain ⟨i, hi, hg, rfl, rfl, A⟩ := hrel
    have HB := Lib.hid A.out
    clear A
    by_cases h3 : i < 3
    · have h3' : (i : Int) < 3 := by omega
      obtain ⟨j, hj⟩ : ∃ j, 2 - i = j := ⟨_, rfl⟩
      have e2 : (2 : Int) - (i : Int) = (j : Int) := by omega
      have h64 : min j 64 = j := by omega
      have hb : bits .and .i64 ((k : Int) / 2 ^ j) 1 = if k.testBit j then 1 else 0 := by
        rw [i64_and1]
        have h := bitI_nat k j
        unfold bitI at h
        cases hk : k.testBit j
        · rw [hk] at h
          have := of_decide_eq_false h
          simp only [Bool.false_eq_true, if_false]
          omega
        · rw [hk] at h
          have := of_decide_eq_true h
          rw [if_pos rfl]; exact this
      cases hkb : k.testBit j
      · rw [hkb] at hb
        have hb0 : bits .and .i64 ((k : Int) / 2 ^ j) 1 = 0 := hb
        have HN := Lib.hid (setT_off k i (by rw [hj]; exact hkb))
        clear hb hkb hj o1 o2
        go_wp2
        go_roundg (3 - (i + 1))
        case measure => omega
        case rel => exact ⟨i + 1, by omega, Nat.le_refl _, by rw [HN.out], by first | rfl | simp, HB.out⟩
      · rw [hkb] at hb
        have hb0 : bits .and .i64 ((k : Int) / 2 ^ j) 1 = 1 := hb
        have HN := Lib.hid (setT_on k i (by rw [hj]; exact hkb))
        have sl := HX.out i h3
        have ct := HCAT.out i hi
        clear hb hkb hj o1 o2
        go_wp2
        go_roundg (3 - (i + 1))
        case measure => omega
        case rel => exact ⟨i + 1, by omega, Nat.le_refl _, by rw [HN.out], by first | rfl | simp, HB.out⟩
    · obtain rfl : i = 3 := by omega
      have kg := KG.out
      clear KG HCAT HX
      go_wp2_with (first
        | (go_at_call 11; with_reducible refine (C1.out _ (HA.out.below HB.out)).mono ?_; rintro e w2 ⟨rfl, hb2⟩; have B2 := Lib.hid (HB.out.trans (hb2.mono HB.out.size)); clear hb2)
        | (go_at_call 11; with_reducible refine (C2.out _ (HA.out.below B2.out)).mono ?_; rintro e w3 ⟨rfl, hb3⟩; have B3 := Lib.hid (B2.out.trans (hb3.mono B2.out.size)); clear hb3)
        | (go_at_call 11; with_reducible refine (C3.out _ (HA.out.below B3.out)).mono ?_; rintro e w4 ⟨rfl, hb4⟩; have B4 := Lib.hid (B3.out.trans (hb4.mono B3.out.size)); clear hb4))
      go_ret
      exact ⟨by first | rfl | simp, B4.out⟩
end Go.Proofs.YtalafhfpmkacgaaDoor
