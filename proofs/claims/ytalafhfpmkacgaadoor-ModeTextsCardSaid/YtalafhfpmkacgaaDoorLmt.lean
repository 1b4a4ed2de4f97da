/- The laws ModeTexts and ModeReads: their walks. -/
import Derived.Test.YtalafhfpmkacgaaDoorRps
import Derived.Test.YtalafhfpmkacgaaDoorTell
namespace Go.Proofs.YtalafhfpmkacgaaDoor
open Go.RowKit Go.Joins
set_option linter.unusedVariables false
set_option linter.unusedSimpArgs false
set_option maxRecDepth 100000

theorem modeTexts_walk (a0 : Int) (w0 : (Lit.int .i64 a0).wf = true) (w : World) :
    Calls Tryd.prog 4 #[.int .i64 a0] w fun e w' => e = .returned (.bool true) ∧ Below w.heap.size w w' := by
  have T1 := Lib.hid (fun w => text_any a0 w)
  have T2 := Lib.hid (fun w => rtext_any a0 w)
  clear w0
  generalize textL (bitI a0) = X at *
  have hq : ((mkS X).toList == (mkS X).toList) = true := by rw [beq_self_eq_true]
  go_enter Tryd.func4, Tryd.ntmps4
  go_wp2_with (first
    | (go_at_call 13; with_reducible refine (T1.out _).mono ?_; rintro e w1 ⟨rfl, hb1⟩; have B1 := Lib.hid hb1; clear hb1)
    | (go_at_call 14; with_reducible refine (T2.out _).mono ?_; rintro e w2 ⟨rfl, hb2⟩; have B2 := Lib.hid (B1.out.trans (hb2.mono B1.out.size)); clear hb2))
  go_ret
  exact ⟨by first | rfl | simp, B2.out⟩

theorem parsR_cases (l : List UInt8) : (∃ k, parsR l = (0, k) ∧ k < 4096) ∨ parsR l = (3, 0) := by
  unfold parsR
  split
  · exact .inl ⟨_, rfl, parseN_lt l⟩
  · exact .inr rfl

set_option maxHeartbeats 1000000 in
theorem modeReads_walk (a0 : ByteArray) (z0 : a0.size ≤ reachBytes) (w : World) (hE : ErrLaid w) :
    Calls Tryd.prog 5 #[.string a0] w fun e w' => e = .returned (.bool true) ∧ Below w.heap.size w w' := by
  obtain ⟨l, rfl⟩ : ∃ l, a0 = mkS l := ⟨a0.data.toList, (mkS_self a0).symm⟩
  have hz := mkS_size l
  rw [hz] at z0
  unfold reachBytes at z0
  by_cases h : l.length ≤ 20
  · have hz1 : decide ((20 : Int) < ((mkS l).size : Int)) = false := decide_eq_false (by rw [hz]; omega)
    have P1 := Lib.hid (fun w => refParse_any l (by omega) w)
    have P2 := Lib.hid (fun w => parse_any l (by omega) w)
    have HE := Lib.hid hE
    rcases parsR_cases l with ⟨k, hk, _⟩ | hk
    · rw [hk] at P1 P2
      have P1 := Lib.hid (show ∀ w, Calls Tryd.prog 15 #[.string (mkS l)] w fun e w' => e = .returned (.tuple #[.int .i64 (k : Int), .int .i64 0]) ∧ Below w.heap.size w w' from P1.out)
      have P2 := Lib.hid (show ∀ w, Calls Tryd.prog 16 #[.string (mkS l)] w fun e w' => e = .returned (.tuple #[.int .i64 (k : Int), .nilIface]) ∧ Below w.heap.size w w' from P2.out)
      clear hz z0 h hk hE
      generalize mkS l = S at *
      go_enter Tryd.func5, Tryd.ntmps5
      go_wp2_with (first
        | (go_at_call 15; with_reducible refine (P1.out _).mono ?_; rintro e w1 ⟨rfl, hb1⟩; have B1 := Lib.hid hb1; clear hb1)
        | (go_at_call 16; with_reducible refine (P2.out _).mono ?_; rintro e w2 ⟨rfl, hb2⟩; have B2 := Lib.hid (B1.out.trans (hb2.mono B1.out.size)); clear hb2)
        | (go_at_call 12; with_reducible refine (bare_nil _).mono ?_; rintro e w' ⟨rfl, hw⟩; replace hw := hw.symm; subst hw))
      go_ret
      exact ⟨by first | rfl | simp, B2.out⟩
    · rw [hk] at P1 P2
      have P1 := Lib.hid (show ∀ w, Calls Tryd.prog 15 #[.string (mkS l)] w fun e w' => e = .returned (.tuple #[.int .i64 0, .int .i64 3]) ∧ Below w.heap.size w w' from P1.out)
      have P2 := Lib.hid (show ∀ w, Calls Tryd.prog 16 #[.string (mkS l)] w fun e w' => e = .returned (.tuple #[.int .i64 0, .iface 22 (.int .i64 3)]) ∧ Below w.heap.size w w' from P2.out)
      clear hz z0 h hk hE
      generalize mkS l = S at *
      go_enter Tryd.func5, Tryd.ntmps5
      go_wp2_with (first
        | (go_at_call 15; with_reducible refine (P1.out _).mono ?_; rintro e w1 ⟨rfl, hb1⟩; have B1 := Lib.hid hb1; clear hb1)
        | (go_at_call 16; with_reducible refine (P2.out _).mono ?_; rintro e w2 ⟨rfl, hb2⟩; have B2 := Lib.hid (B1.out.trans (hb2.mono B1.out.size)); clear hb2)
        | (go_at_call 12; with_reducible refine (bare_err 3 _ (HE.out.below B2.out)).mono ?_; rintro e w3 ⟨rfl, hb3⟩; have B3 := Lib.hid (B2.out.trans (hb3.mono B2.out.size)); clear hb3))
      go_ret
      exact ⟨by first | rfl | simp, B3.out⟩
  · have hz1 : decide ((20 : Int) < ((mkS l).size : Int)) = true := decide_eq_true (by rw [hz]; omega)
    clear hz h z0 hE
    generalize mkS l = S at *
    go_enter Tryd.func5, Tryd.ntmps5
    go_wp2
    go_ret
    exact ⟨rfl, Below.refl _ _⟩
end Go.Proofs.YtalafhfpmkacgaaDoor
