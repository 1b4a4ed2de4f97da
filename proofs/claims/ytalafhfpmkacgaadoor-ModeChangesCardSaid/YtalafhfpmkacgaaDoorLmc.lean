/- The law ModeChanges: its walk. -/
import Derived.Test.YtalafhfpmkacgaaDoorRcp
import Derived.Test.YtalafhfpmkacgaaDoorRco
import Derived.Test.YtalafhfpmkacgaaDoorKmd
namespace Go.Proofs.YtalafhfpmkacgaaDoor
open Go.RowKit Go.Joins
set_option linter.unusedVariables false
set_option linter.unusedSimpArgs false
set_option maxRecDepth 100000

theorem refChange_any (m : Int) (l : List UInt8) (dir : Bool) (hl : l.length ≤ 1000) (w : World) :
    Calls Tryd.prog 10 #[.int .i64 m, .string (mkS l), .bool dir] w fun e w' => e = .returned (refOut (changeF m l dir)) ∧ Below w.heap.size w w' := by
  by_cases hm : m < 0 ∨ 4095 < m
  · exact refChange_out m l dir hm w
  · cases ho : octB l
    · obtain ⟨k, rfl⟩ := Int.eq_ofNat_of_zero_le (show 0 ≤ m by omega)
      exact refChange_parts k (by omega) l dir hl ho w
    · exact refChange_oct m l dir hm ho (by omega) w

set_option maxHeartbeats 1000000 in
theorem modeChanges_walk (a0 : Int) (w0 : (Lit.int .i64 a0).wf = true) (a1 : ByteArray) (z1 : a1.size ≤ reachBytes) (a2 : Bool) (w : World) (hE : ErrLaid w) (hA : AtoiLaid w) :
    Calls Tryd.prog 3 #[.int .i64 a0, .string a1, .bool a2] w fun e w' => e = .returned (.bool true) ∧ Below w.heap.size w w' := by
  obtain ⟨l, rfl⟩ : ∃ l, a1 = mkS l := ⟨a1.data.toList, (mkS_self a1).symm⟩
  have hz := mkS_size l
  have z0 := z1
  clear z1
  rw [hz] at z0
  unfold reachBytes at z0
  by_cases h : l.length ≤ 60
  · have hz1 : decide ((60 : Int) < ((mkS l).size : Int)) = false := decide_eq_false (by rw [hz]; omega)
    have R := Lib.hid (fun w => refChange_any a0 l a2 (by omega) w)
    have HE := Lib.hid hE
    have HA := Lib.hid hA
    clear hE hA
    rcases changeF_cases a0 l a2 with ⟨k, hk, _⟩ | hk | hk
    · have R1 := Lib.hid (show ∀ w, Calls Tryd.prog 10 #[.int .i64 a0, .string (mkS l), .bool a2] w fun e w' => e = .returned (.tuple #[.int .i64 (k : Int), .int .i64 0]) ∧ Below w.heap.size w w' from fun w => by
        have := R.out w
        rw [hk] at this; exact this)
      have C1 := Lib.hid (fun w h => change_ok hk (by omega) w h)
      clear hz z0 h hk R w0
      generalize mkS l = S at *
      go_enter Tryd.func3, Tryd.ntmps3
      go_wp2_with (first
        | (go_at_call 10; with_reducible refine (R1.out _).mono ?_; rintro e w1 ⟨rfl, hb1⟩; have B1 := Lib.hid hb1; clear hb1)
        | (go_at_call 11; with_reducible refine (C1.out _ (HA.out.below B1.out)).mono ?_; rintro e w2 ⟨rfl, hb2⟩; have B2 := Lib.hid (B1.out.trans (hb2.mono B1.out.size)); clear hb2)
        | (go_at_call 12; with_reducible refine (bare_nil _).mono ?_; rintro e w' ⟨rfl, hw⟩; replace hw := hw.symm; subst hw))
      go_ret
      exact ⟨by first | rfl | simp, B2.out⟩
    · have R1 := Lib.hid (show ∀ w, Calls Tryd.prog 10 #[.int .i64 a0, .string (mkS l), .bool a2] w fun e w' => e = .returned (.tuple #[.int .i64 0, .int .i64 2]) ∧ Below w.heap.size w w' from fun w => by
        have := R.out w
        rw [hk] at this; exact this)
      have C1 := Lib.hid (fun w h => change_range hk (by omega) w h)
      clear hz z0 h hk R w0
      generalize mkS l = S at *
      go_enter Tryd.func3, Tryd.ntmps3
      go_wp2_with (first
        | (go_at_call 10; with_reducible refine (R1.out _).mono ?_; rintro e w1 ⟨rfl, hb1⟩; have B1 := Lib.hid hb1; clear hb1)
        | (go_at_call 11; with_reducible refine (C1.out _ (HA.out.below B1.out)).mono ?_; rintro e w2 ⟨rfl, hb2⟩; have B2 := Lib.hid (B1.out.trans (hb2.mono B1.out.size)); clear hb2)
        | (go_at_call 12; with_reducible refine (bare_err 2 _ (HE.out.below B2.out)).mono ?_; rintro e w3 ⟨rfl, hb3⟩; have B3 := Lib.hid (B2.out.trans (hb3.mono B2.out.size)); clear hb3))
      go_ret
      exact ⟨by first | rfl | simp, B3.out⟩
    · have R1 := Lib.hid (show ∀ w, Calls Tryd.prog 10 #[.int .i64 a0, .string (mkS l), .bool a2] w fun e w' => e = .returned (.tuple #[.int .i64 0, .int .i64 3]) ∧ Below w.heap.size w w' from fun w => by
        have := R.out w
        rw [hk] at this; exact this)
      have C1 := Lib.hid (fun w h => change_form hk (by omega) w h)
      clear hz z0 h hk R w0
      generalize mkS l = S at *
      go_enter Tryd.func3, Tryd.ntmps3
      go_wp2_with (first
        | (go_at_call 10; with_reducible refine (R1.out _).mono ?_; rintro e w1 ⟨rfl, hb1⟩; have B1 := Lib.hid hb1; clear hb1)
        | (go_at_call 11; with_reducible refine (C1.out _ (HA.out.below B1.out)).mono ?_; rintro e w2 ⟨rfl, hb2⟩; have B2 := Lib.hid (B1.out.trans (hb2.mono B1.out.size)); clear hb2)
        | (go_at_call 12; with_reducible refine (bare_err 3 _ (HE.out.below B2.out)).mono ?_; rintro e w3 ⟨rfl, hb3⟩; have B3 := Lib.hid (B2.out.trans (hb3.mono B2.out.size)); clear hb3))
      go_ret
      exact ⟨by first | rfl | simp, B3.out⟩
  · have hz1 : decide ((60 : Int) < ((mkS l).size : Int)) = true := decide_eq_true (by rw [hz]; omega)
    clear hz h z0 hE hA w0
    generalize mkS l = S at *
    go_enter Tryd.func3, Tryd.ntmps3
    go_wp2
    go_ret
    exact ⟨rfl, Below.refl _ _⟩
end Go.Proofs.YtalafhfpmkacgaaDoor
