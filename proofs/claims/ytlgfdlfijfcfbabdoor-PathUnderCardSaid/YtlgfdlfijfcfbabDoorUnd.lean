/- The keeps' law PathUnder: its walk. -/
import Derived.Test.YtlgfdlfijfcfbabDoorWay
import Derived.SizedLaws
namespace Go.Proofs.YtlgfdlfijfcfbabDoor
open Go.RowKit Go.Joins
set_option linter.unusedVariables false

set_option maxHeartbeats 4000000 in
theorem pathUnder_walk (a : ByteArray) (za : a.size ≤ reachBytes) (b : ByteArray) (zb : b.size ≤ reachBytes) (c : ByteArray) (zc : c.size ≤ reachBytes) (w : World) :
    Calls Tryd.prog 5 #[.string a, .string b, .string c] w fun e w' => e = .returned (.bool true) ∧ Below w.heap.size w w' := by
  obtain ⟨x, rfl⟩ : ∃ k, a = mkS k := ⟨_, (mkS_self a).symm⟩
  obtain ⟨y, rfl⟩ : ∃ k, b = mkS k := ⟨_, (mkS_self b).symm⟩
  obtain ⟨z, rfl⟩ : ∃ k, c = mkS k := ⟨_, (mkS_self c).symm⟩
  have s1 := mkS_size x
  have s2 := mkS_size y
  have s3 := mkS_size z
  rw [s1] at za
  rw [s2] at zb
  rw [s3] at zc
  have hr := reachBytes_lt
  have W := Lib.hid (fun w => wayed_any w)
  by_cases h : (400 : Int) < (x.length : Int) + (y.length : Int) + (z.length : Int)
  · go_enter Tryd.func5, Tryd.ntmps5
    go_wp2_with (go_at_call 7; with_reducible refine (W.out _).mono ?_; rintro e w1 ⟨rfl, h1⟩)
    go_ret
    exact ⟨rfl, h1⟩
  · have I1 := Lib.hid (fun w => in_any x y (by omega) w)
    have I2 := Lib.hid (fun w => in_any y z (by omega) w)
    have I3 := Lib.hid (fun w => in_any x z (by omega) w)
    have I4 := Lib.hid (fun w => in_any y x (by omega) w)
    have e1 := sEq x []
    have e2 := sEq y []
    have e3 := sEq x y
    have hlit0 : (⟨#[]⟩ : ByteArray) = mkS [] := rfl
    have ht := in_trans x y z
    have ha := in_antisymm x y
    generalize hp : inB x y = p at *
    generalize inB y z = q at *
    generalize inB x z = r at *
    generalize inB y x = s at *
    have hq : p = true → q = true → r = true := ht
    have hs : decide (x = []) = false → decide (y = []) = false → p = true → s = true → decide (x = y) = true := fun h1 h2 h3 h4 => decide_eq_true (ha (of_decide_eq_false h1) (of_decide_eq_false h2) h3 h4)
    generalize decide (x = []) = d1 at *
    generalize decide (y = []) = d2 at *
    generalize decide (x = y) = d3 at *
    have HX := Lib.hid (And.intro hq hs)
    clear ht ha hp hq hs
    go_enter Tryd.func5, Tryd.ntmps5
    go_wp2_with fail
    go_at_call 7
    refine (W.out _).mono ?_
    rintro e w1 ⟨rfl, h1⟩
    obtain ⟨hq, hs⟩ := HX.out
    have HB := Lib.hid h1
    clear h1 W HX
    cases p <;> cases q <;> cases r <;> cases s <;> cases d1 <;> cases d2 <;> cases d3
    all_goals first
      | exact absurd (hq rfl rfl) (by decide)
      | exact absurd (hs rfl rfl rfl rfl) (by decide)
      | (clear hq hs
         go_wp2_with (first
           | (go_at_call 12; with_reducible refine (I1.out _).mono ?_; rintro e w' ⟨rfl, rfl⟩)
           | (go_at_call 12; with_reducible refine (I2.out _).mono ?_; rintro e w' ⟨rfl, rfl⟩)
           | (go_at_call 12; with_reducible refine (I3.out _).mono ?_; rintro e w' ⟨rfl, rfl⟩)
           | (go_at_call 12; with_reducible refine (I4.out _).mono ?_; rintro e w' ⟨rfl, rfl⟩))
         go_ret
         exact ⟨by simp, HB.out⟩)
end Go.Proofs.YtlgfdlfijfcfbabDoor
