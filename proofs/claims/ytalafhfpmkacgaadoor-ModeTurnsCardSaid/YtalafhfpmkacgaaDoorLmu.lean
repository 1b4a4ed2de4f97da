/- The law ModeTurns: its walk. -/
import Derived.Test.YtalafhfpmkacgaaDoorOne
import Derived.BigQuiet
namespace Go.Proofs.YtalafhfpmkacgaaDoor
open Go.RowKit Go.Joins
set_option linter.unusedVariables false
set_option linter.unusedSimpArgs false
set_option maxRecDepth 100000

set_option maxHeartbeats 4000000 in
theorem modeTurns_walk (a0 : Int) (w0 : (Lit.int .i64 a0).wf = true) (a1 : Int) (w1 : (Lit.int .i64 a1).wf = true) (a2 : Int) (w2 : (Lit.int .i64 a2).wf = true) (a3 : Bool) (w : World) (hA : AtoiLaid w) :
    Calls Tryd.prog 8 #[.int .i64 a0, .int .i64 a1, .int .i64 a2, .bool a3] w fun e w' => e = .returned (.bool true) ∧ Below w.heap.size w w' := by
  obtain ⟨m, hm, PM⟩ := pick_nat a0 4096 (by omega) (by omega)
  obtain ⟨p, hp, PP⟩ := pick_nat a1 3 (by omega) (by omega)
  obtain ⟨q, hq, PQ⟩ := pick_nat a2 3 (by omega) (by omega)
  have PM := Lib.hid (show ∀ w, Calls Tryd.prog 18 #[.int .i64 a0, .int .i64 4096] w fun e w' => e = .returned (.int .i64 (m : Int)) ∧ w' = w from PM)
  have PP := Lib.hid (show ∀ w, Calls Tryd.prog 18 #[.int .i64 a1, .int .i64 3] w fun e w' => e = .returned (.int .i64 (p : Int)) ∧ w' = w from PP)
  have PQ := Lib.hid (show ∀ w, Calls Tryd.prog 18 #[.int .i64 a2, .int .i64 3] w fun e w' => e = .returned (.int .i64 (q : Int)) ∧ w' = w from PQ)
  have MO := Lib.hid (fun w h => moded_true w h)
  obtain ⟨j, hj⟩ : ∃ j, 8 - 3 * p - q = j := ⟨_, rfl⟩
  obtain ⟨t1, t2⟩ := turn_val m p q a3 hm hp hq
  rw [hj] at t1 t2
  obtain ⟨s1, b1⟩ := shl_one j (by omega)
  have hor := or_lt m _ hm b1
  obtain ⟨_, t3⟩ := turn_val (m ||| 2 ^ j) p q a3 hor hp hq
  rw [hj, less_or] at t3
  have o1 : bits .or .i64 (m : Int) ((2 ^ j : Nat) : Int) = ((m ||| 2 ^ j : Nat) : Int) := i64_or_nat _ _ (by omega) (by omega)
  have o2 : bits .andNot .i64 (m : Int) ((2 ^ j : Nat) : Int) = ((less m (2 ^ j) : Nat) : Int) := i64_andNot_nat _ _ (by omega) (by omega)
  have e3 : (8 : Int) - 3 * (p : Int) - (q : Int) = (j : Int) := by omega
  have C1 := Lib.hid (fun w h => change_ok t1 (by simp) w h)
  have C2 := Lib.hid (fun w h => change_ok t2 (by simp) w h)
  have C3 := Lib.hid (fun w h => change_ok t3 (by simp) w h)
  have sp := mkS_onward [117, 103, 111] p (by simp; omega)
  have sq := mkS_onward [114, 119, 120] q (by simp; omega)
  have up : ∀ w, (Instr.slice 9 (.string (mkS (([117, 103, 111] : List UInt8).drop p))) none (some (.int .i64 1)) none).run Tryd.prog w = .ok (.string (mkS [whoC p])) w := fun w => by
    have h := mkS_upto (([117, 103, 111] : List UInt8).drop p) 1 (by simp; omega) w
    have e : (([117, 103, 111] : List UInt8).drop p).take 1 = [whoC p] := by
      obtain rfl | rfl | rfl : p = 0 ∨ p = 1 ∨ p = 2 := by omega
      all_goals rfl
    rw [e] at h; exact h
  have uq : ∀ w, (Instr.slice 9 (.string (mkS (([114, 119, 120] : List UInt8).drop q))) none (some (.int .i64 1)) none).run Tryd.prog w = .ok (.string (mkS [letC q])) w := fun w => by
    have h := mkS_upto (([114, 119, 120] : List UInt8).drop q) 1 (by simp; omega) w
    have e : (([114, 119, 120] : List UInt8).drop q).take 1 = [letC q] := by
      obtain rfl | rfl | rfl : q = 0 ∨ q = 1 ∨ q = 2 := by omega
      all_goals rfl
    rw [e] at h; exact h
  have sp : ∀ w, (Instr.slice 9 (.string { data := #[117, 103, 111] }) (some (.int .i64 (p : Int))) none none).run Tryd.prog w = .ok (.string (mkS (([117, 103, 111] : List UInt8).drop p))) w := sp
  have sq : ∀ w, (Instr.slice 9 (.string { data := #[114, 119, 120] }) (some (.int .i64 (q : Int))) none none).run Tryd.prog w = .ok (.string (mkS (([114, 119, 120] : List UInt8).drop q))) w := sq
  have k1 : ∀ w, (Op.stringOp .add (mkS [whoC p]) { data := #[43] }).run Tryd.prog w = .ok (.string (mkS [whoC p, 43])) w := fun w => mkS_cat [whoC p] [43] (by simp) w
  have k2 : ∀ w, (Op.stringOp .add (mkS [whoC p]) { data := #[45] }).run Tryd.prog w = .ok (.string (mkS [whoC p, 45])) w := fun w => mkS_cat [whoC p] [45] (by simp) w
  have k3 : ∀ w, (Op.stringOp .add (mkS [whoC p, 43]) (mkS [letC q])).run Tryd.prog w = .ok (.string (mkS [whoC p, 43, letC q])) w := fun w => mkS_cat [whoC p, 43] [letC q] (by simp) w
  have k4 : ∀ w, (Op.stringOp .add (mkS [whoC p, 45]) (mkS [letC q])).run Tryd.prog w = .ok (.string (mkS [whoC p, 45, letC q])) w := fun w => mkS_cat [whoC p, 45] [letC q] (by simp) w
  have HA := Lib.hid hA
  clear hA w0 w1 w2 t1 t2 t3 hj
  generalize mkS (([117, 103, 111] : List UInt8).drop p) = D1 at *
  generalize mkS (([114, 119, 120] : List UInt8).drop q) = D2 at *
  generalize mkS [whoC p, 43, letC q] = X1 at *
  generalize mkS [whoC p, 45, letC q] = X2 at *
  generalize mkS [whoC p, 43] = X3 at *
  generalize mkS [whoC p, 45] = X4 at *
  generalize mkS [whoC p] = X5 at *
  generalize mkS [letC q] = X6 at *
  generalize m ||| 2 ^ j = v1 at *
  generalize less m (2 ^ j) = v2 at *
  generalize 2 ^ j = pj at *
  go_enter Tryd.func8, Tryd.ntmps8
  go_wp2_with (first
    | (go_at_call 17; with_reducible refine (MO.out _ HA.out).mono ?_; rintro e w1 ⟨rfl, hb1⟩; have B1 := Lib.hid hb1; clear hb1)
    | (go_at_call 18; with_reducible refine (PM.out _).mono ?_; rintro e w' ⟨rfl, hw⟩; replace hw := hw.symm; subst hw))
  go_quiet ((first
    | (go_at_call 18; with_reducible exact Calls.quiet_of_same (PP.out _))
    | (go_at_call 18; with_reducible exact Calls.quiet_of_same (PQ.out _))))
  have B2 := Lib.hid (B1.out.trans ((below_draws _ _ nq).mono B1.out.size))
  generalize World.drewN _ nq = W at B2 ⊢
  go_wp2_with (first
    | (go_at_call 18; with_reducible refine (PP.out _).mono ?_; rintro e w' ⟨rfl, hw⟩; replace hw := hw.symm; subst hw)
    | (go_at_call 18; with_reducible refine (PQ.out _).mono ?_; rintro e w' ⟨rfl, hw⟩; replace hw := hw.symm; subst hw)
    | (go_at_call 11; with_reducible refine (C1.out _ (HA.out.below B2.out)).mono ?_; rintro e w3 ⟨rfl, hb3⟩; have B3 := Lib.hid (B2.out.trans (hb3.mono B2.out.size)); clear hb3)
    | (go_at_call 11; with_reducible refine (C2.out _ (HA.out.below B3.out)).mono ?_; rintro e w4 ⟨rfl, hb4⟩; have B4 := Lib.hid (B3.out.trans (hb4.mono B3.out.size)); clear hb4)
    | (go_at_call 11; with_reducible refine (C3.out _ (HA.out.below B4.out)).mono ?_; rintro e w5 ⟨rfl, hb5⟩; have B5 := Lib.hid (B4.out.trans (hb5.mono B4.out.size)); clear hb5))
  go_ret
  exact ⟨by first | rfl | simp, B5.out⟩
end Go.Proofs.YtalafhfpmkacgaaDoor
