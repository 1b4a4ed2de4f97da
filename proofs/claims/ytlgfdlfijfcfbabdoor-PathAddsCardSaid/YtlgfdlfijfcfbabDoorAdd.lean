/- The keeps' law PathAdds: its walk. -/
import Derived.Test.YtlgfdlfijfcfbabDoorWay
import Derived.Test.YtlgfdlfijfcfbabDoorCts
import Derived.Test.YtlgfdlfijfcfbabDoorEqs
import Derived.SizedLaws
namespace Go.Proofs.YtlgfdlfijfcfbabDoor
open Go.RowKit Go.Joins
set_option linter.unusedVariables false

theorem two_cells (W : World) (v1 v2 : Value) (X Y : List (List UInt8)) (h1 : SlIs W v1 X) (h2 : SlIs W v2 Y) :
    ∀ (i : Nat) x, [(v1, X), (v2, Y)][i]? = some x → (W.alloc (.cells #[v1, v2] 27)).cell? ⟨W.heap.size, i, none⟩ = some x.1 ∧ SlIs (W.alloc (.cells #[v1, v2] 27)) x.1 x.2 := by
  have hb : Below W.heap.size W (W.alloc (.cells #[v1, v2] 27)) := (Below.refl _ W).alloc (Nat.le_refl _) _
  intro i x hi
  match i, hi with
  | 0, hi => cases hi; exact ⟨by simp, h1.below hb⟩
  | 1, hi => cases hi; exact ⟨by simp, h2.below hb⟩
  | i + 2, hi => simp at hi

set_option maxHeartbeats 4000000 in
theorem pathAdds_walk (a : ByteArray) (za : a.size ≤ reachBytes) (b : ByteArray) (zb : b.size ≤ reachBytes) (w : World) :
    Calls Tryd.prog 4 #[.string a, .string b] w fun e w' => e = .returned (.bool true) ∧ Below w.heap.size w w' := by
  obtain ⟨x, rfl⟩ : ∃ k, a = mkS k := ⟨_, (mkS_self a).symm⟩
  obtain ⟨y, rfl⟩ : ∃ k, b = mkS k := ⟨_, (mkS_self b).symm⟩
  have s1 := mkS_size x
  have s2 := mkS_size y
  rw [s1] at za
  rw [s2] at zb
  have hr := reachBytes_lt
  have W := Lib.hid (fun w => wayed_any w)
  by_cases h : (400 : Int) < (x.length : Int) + (y.length : Int)
  · go_enter Tryd.func4, Tryd.ntmps4
    go_wp2_with (go_at_call 7; with_reducible refine (W.out _).mono ?_; rintro e w1 ⟨rfl, h1⟩)
    go_ret
    exact ⟨by simp, h1⟩
  · have hdec : decide ((400 : Int) < (x.length : Int) + (y.length : Int)) = false := decide_eq_false h
    have P0 := Lib.hid (fun w => parts_any (x ++ 47 :: y) (by simp; omega) w)
    have P1 := Lib.hid (fun w => parts_any x (by omega) w)
    have P2 := Lib.hid (fun w => parts_any y (by omega) w)
    rw [parts_append] at P0
    have lx := parts_length_le x
    have ly := parts_length_le y
    have c1 := fun w => mkS_cat x [47] (by simp; omega) w
    have c2 := fun w => mkS_cat (x ++ [47]) y (by simp; omega) w
    rw [show x ++ [47] ++ y = x ++ 47 :: y by simp] at c2
    have hlit : (⟨#[47]⟩ : ByteArray) = mkS [47] := rfl
    generalize partsL x = X at *
    generalize partsL y = Y at *
    have hX : X.length ≤ 1000 := by omega
    have hY : Y.length ≤ 1000 := by omega
    clear h lx ly
    go_enter Tryd.func4, Tryd.ntmps4
    go_wp2_with fail
    go_at_call 7
    refine (W.out _).mono ?_
    rintro e w1 ⟨rfl, h1⟩
    go_wp2_with fail
    go_at_call 10
    refine (P0.out _).mono ?_
    rintro e w2 ⟨⟨v0, rfl, t0⟩, h2⟩
    have S0 := Lib.hid t0
    clear t0
    go_wp2_with fail
    go_at_call 10
    refine (P1.out _).mono ?_
    rintro e w3 ⟨⟨v1, rfl, t1⟩, h3⟩
    obtain ⟨d1, q1, hv1, _⟩ := t1.len
    subst hv1
    have S1 := Lib.hid t1
    clear t1
    go_wp2_with fail
    go_at_call 10
    refine (P2.out _).mono ?_
    rintro e w4 ⟨⟨v2, rfl, t2⟩, h4⟩
    obtain ⟨d2, q2, hv2, _⟩ := t2.len
    subst hv2
    have S0' := Lib.hid (S0.out.below (h3.trans (h4.mono h3.size)))
    have CC := Lib.hid (concat_any w4.heap.size 2 [(.slice d1 X.length q1, X), (.slice d2 Y.length q2, Y)] (by simp) (by
      intro z hz
      rcases List.mem_cons.1 hz with rfl | hz
      · exact hX
      · rw [List.mem_singleton.1 hz]; exact hY) (w4.alloc (.cells #[.slice d1 X.length q1, .slice d2 Y.length q2] 27)) (by simp) (two_cells w4 _ _ X Y (S1.out.below h4) t2))
    have HB := Lib.hid (show Below w.heap.size w w4 from h1.trans ((h2.trans ((h3.trans (h4.mono h3.size)).mono h2.size)).mono h1.size))
    clear t2 h1 h2 h3 h4 S1 S0 P0 P1 P2 W
    go_wp2_with fail
    go_at_call 11
    refine CC.out.mono ?_
    rintro e w6 ⟨⟨v3, rfl, t3⟩, h6⟩
    have hb5 : Below w4.heap.size w4 (w4.alloc (.cells #[.slice d1 X.length q1, .slice d2 Y.length q2] 27)) := (Below.refl _ w4).alloc (Nat.le_refl _) _
    have hb6 : Below w4.heap.size w4 w6 := hb5.trans (h6.mono hb5.size)
    have EE := Lib.hid (equal_sl v0 v3 (X ++ Y) (X ++ Y) (by simp; omega) (by simp; omega) w6 (S0'.out.below hb6) (by simpa using t3))
    have HB6 := Lib.hid hb6
    clear t3 h6 hb5 hb6
    go_wp2_with fail
    go_at_call 9
    refine EE.out.mono ?_
    rintro e w7 ⟨rfl, h7⟩
    go_wp2
    go_ret
    exact ⟨by simp, HB.out.trans ((HB6.out.trans (h7.mono HB6.out.size)).mono HB.out.size)⟩
end Go.Proofs.YtlgfdlfijfcfbabDoor
