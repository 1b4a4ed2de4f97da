/- PaxApart: true, at every argument. -/
import Derived.Test.YtheiamidochooaaDoorApt
import Derived.Test.YtheiamidochooaaDoorMrc
import Derived.Deep.RegionHeld3
import Derived.Deep.Cut
namespace Go.Proofs.YtheiamidochooaaDoor
open Go.RowKit Go.Joins
set_option linter.unusedVariables false

set_option maxHeartbeats 1000000 in
theorem apart_longA (n1 n2 : Nat) (ad bd : Option Addr) (ca cb : Nat) (h20 : (20 : Int) < (n1 : Int)) (w : World) (hp : PowLaid w) (hL : AtoiLaid w) :
    Calls Tryd.prog 9 #[.slice ad n1 ca, .slice bd n2 cb] w fun e w' => e = .returned (.bool true) ∧ Below w.heap.size w w' := by
  have hb0 := below_alloc1 w (.cells #[.slice bd n2 cb] 22)
  have R := Lib.hid (recorded_true _ (hp.below hb0) (hL.below hb0))
  have HB := Lib.hid hb0
  clear hp hL hb0
  go_enter Tryd.func9, Tryd.ntmps9
  go_wp2_with (go_at_call 21; refine R.out.mono ?_; rintro e w1 ⟨rfl, h1⟩)
  go_ret
  exact ⟨rfl, HB.out.trans (h1.mono (by simp))⟩
set_option maxHeartbeats 1000000 in
theorem apart_longB (n1 n2 : Nat) (ad bd : Option Addr) (ca cb : Nat) (s1 : ¬ (20 : Int) < (n1 : Int)) (h20 : (20 : Int) < (n2 : Int)) (w : World) (hp : PowLaid w) (hL : AtoiLaid w) :
    Calls Tryd.prog 9 #[.slice ad n1 ca, .slice bd n2 cb] w fun e w' => e = .returned (.bool true) ∧ Below w.heap.size w w' := by
  have hb0 := below_alloc1 w (.cells #[.slice bd n2 cb] 22)
  have R := Lib.hid (recorded_true _ (hp.below hb0) (hL.below hb0))
  have HB := Lib.hid hb0
  clear hp hL hb0
  go_enter Tryd.func9, Tryd.ntmps9
  go_wp2_with (go_at_call 21; refine R.out.mono ?_; rintro e w1 ⟨rfl, h1⟩; have k1 : w1.cell? ⟨w.heap.size, 0, none⟩ = some (.slice bd n2 cb) := (h1.cell (p := ⟨w.heap.size, 0, none⟩) (by simp)).trans (by simp))
  go_ret
  exact ⟨rfl, HB.out.trans (h1.mono (by simp))⟩

set_option maxHeartbeats 1000000 in
theorem apart_hit (n1 n2 : Nat) (ad bd : Option Addr) (ca cb : Nat) (s1 : ¬ (20 : Int) < (n1 : Int)) (s2 : ¬ (20 : Int) < (n2 : Int)) (w w0 : World) (hw0 : w.alloc (.cells #[.slice bd n2 cb] 22) = w0) (hp : PowLaid w) (hL : AtoiLaid w)
    (CF : ∀ W, Below w0.heap.size w0 W → Calls Tryd.prog 34 #[.slice ad n1 ca, .func (.func 35) #[] #[.pointer (some ⟨w.heap.size, 0, none⟩)]] W fun e w' => e = .returned (.bool true) ∧ Below W.heap.size W w') :
    Calls Tryd.prog 9 #[.slice ad n1 ca, .slice bd n2 cb] w fun e w' => e = .returned (.bool true) ∧ Below w.heap.size w w' := by
  have hb0 := below_alloc1 w (.cells #[.slice bd n2 cb] 22)
  have R := Lib.hid (recorded_true _ (hp.below hb0) (hL.below hb0))
  have hc0 : w0.cell? ⟨w.heap.size, 0, none⟩ = some (.slice bd n2 cb) := by rw [← hw0]; simp
  have hs0 : w0.heap.size = w.heap.size + 1 := by rw [← hw0]; simp
  rw [hw0] at R hb0
  have HB := Lib.hid (And.intro hb0 (And.intro hs0 hc0))
  have HC := Lib.hid CF
  clear hs0 hc0
  clear hp hL hb0 CF
  go_enter Tryd.func9, Tryd.ntmps9
  go_wp2_with (first
    | (go_at_call 21; refine R.out.mono ?_; rintro e w1 ⟨rfl, h1⟩; have k1 := (h1.cell (p := ⟨w.heap.size, 0, none⟩) (by have := HB.out.2.1; simp; omega)).trans HB.out.2.2)
    | (go_at_call 34; refine (HC.out _ h1).mono ?_; rintro e w2 ⟨rfl, h2⟩))
  go_ret
  exact ⟨rfl, HB.out.1.trans ((h1.trans (h2.mono h1.size)).mono (by have := HB.out.2.1; omega))⟩

set_option maxHeartbeats 8000000 in
theorem apart_main (n1 n2 : Nat) (ad bd : Option Addr) (ca cb : Nat) (s1 : ¬ (20 : Int) < (n1 : Int)) (s2 : ¬ (20 : Int) < (n2 : Int)) (w w0 : World) (hw0 : w.alloc (.cells #[.slice bd n2 cb] 22) = w0) (hp : PowLaid w) (hL : AtoiLaid w) (Q : World → Value → Prop) (hQ : ∀ W W' v, Below W.heap.size W W' → Q W v → Q W' v)
    (CF : ∀ W, Below w0.heap.size w0 W → Calls Tryd.prog 34 #[.slice ad n1 ca, .func (.func 35) #[] #[.pointer (some ⟨w.heap.size, 0, none⟩)]] W fun e w' => e = .returned (.bool false) ∧ Below W.heap.size W w')
    (M1 : ∀ g X, Below w0.heap.size w0 X → g < X.heap.size → X.cell? ⟨g, 0, none⟩ = some (.slice ad n1 ca) → X.cell? ⟨g, 1, none⟩ = some (.slice bd n2 cb) → Calls Tryd.prog 28 #[.slice (some ⟨g, 0, none⟩) 2 2] X fun e w' => (∃ v, e = .returned v ∧ Q w' v) ∧ Below X.heap.size X w')
    (M2 : ∀ g X, Below w0.heap.size w0 X → g < X.heap.size → X.cell? ⟨g, 0, none⟩ = some (.slice bd n2 cb) → X.cell? ⟨g, 1, none⟩ = some (.slice ad n1 ca) → Calls Tryd.prog 28 #[.slice (some ⟨g, 0, none⟩) 2 2] X fun e w' => (∃ v, e = .returned v ∧ Q w' v) ∧ Below X.heap.size X w')
    (EQ : ∀ v1 v2 X, Q X v1 → Q X v2 → Calls Tryd.prog 23 #[v1, v2] X fun e w' => e = .returned (.bool true) ∧ Below X.heap.size X w') :
    Calls Tryd.prog 9 #[.slice ad n1 ca, .slice bd n2 cb] w fun e w' => e = .returned (.bool true) ∧ Below w.heap.size w w' := by
  have hb0 := below_alloc1 w (.cells #[.slice bd n2 cb] 22)
  have R := Lib.hid (recorded_true _ (hp.below hb0) (hL.below hb0))
  have hc0 : w0.cell? ⟨w.heap.size, 0, none⟩ = some (.slice bd n2 cb) := by rw [← hw0]; simp
  have hs0 : w0.heap.size = w.heap.size + 1 := by rw [← hw0]; simp
  have HC := Lib.hid CF
  have HM1 := Lib.hid M1
  have HM2 := Lib.hid M2
  have HE := Lib.hid EQ
  have HQ := Lib.hid hQ
  rw [hw0] at R hb0
  have HB := Lib.hid (And.intro hb0 (And.intro hs0 hc0))
  clear hp hL hb0 CF M1 M2 EQ hQ hs0
  go_enter Tryd.func9, Tryd.ntmps9
  go_upto_region 5 with (first
    | (go_at_call 21; refine R.out.mono ?_; rintro e w1 ⟨rfl, h3⟩; have k1 := (h3.cell (p := ⟨w.heap.size, 0, none⟩) (by have := HB.out.2.1; simp; omega)).trans HB.out.2.2)
    | (go_at_call 34; refine (HC.out _ h3).mono ?_; rintro e W ⟨rfl, h4⟩)
    | fail)
  clear hw0
  have hbW : Below w0.heap.size w0 W := h3.trans (h4.mono h3.size)
  have hbw : Below w.heap.size w W := HB.out.1.trans (hbW.mono (by have := HB.out.2.1; omega))
  have hcW : W.cell? ⟨w.heap.size, 0, none⟩ = some (.slice bd n2 cb) := (hbW.cell (p := ⟨w.heap.size, 0, none⟩) (by have := HB.out.2.1; simp; omega)).trans HB.out.2.2
  have hltW : w.heap.size < W.heap.size := by have := HB.out.2.1; have := hbW.size; omega
  have C := Lib.hid (show ∀ w', Below W.heap.size W w' → w'.cell? ⟨w.heap.size, 0, none⟩ = some (.slice bd n2 cb) from fun w' hb => (hb.cell (p := ⟨w.heap.size, 0, none⟩) hltW).trans hcW)
  have HW := Lib.hid (And.intro hbW hbw)
  clear h3 h4 hbW hbw hcW k1 hc0 R HC HB
  go_region_held3 (fun w' => Below W.heap.size W w' ∧ w'.cell? ⟨w.heap.size, 0, none⟩ = some (.slice bd n2 cb))
    (first
      | assumption
      | exact ⟨Below.refl _ _, C.out _ (Below.refl _ _)⟩
      | exact ⟨(Below.refl _ _).drew, C.out _ (Below.refl _ _).drew⟩
      | exact ⟨h4, C.out _ h4⟩
      | exact ⟨h5, C.out _ h5⟩
      | exact ⟨h6, C.out _ h6⟩
      | (refine ⟨?_, C.out _ ?_⟩ <;> (repeat' first | exact h5 | exact h4 | exact Below.refl _ _ | refine Below.drew ?_ | refine Below.alloc ?_ ?_ _) <;> (first | exact Nat.le_refl _ | omega | (simp <;> omega)))
      | fail)
    (first
      | (go_at_call 28; have _t4 := h4; with_reducible refine (HM2.out _ _ (HW.out.1.trans (‹Below W.heap.size W _ ∧ _›.1.mono HW.out.1.size)) (by first | omega | (simp <;> omega) | (simp at y4 ⊢ <;> omega)) (by first | (simp [go_sem]; done) | (refine (g4.cell (by first | omega | (simp <;> omega))).trans ?_; simp [go_sem])) (by first | (simp [go_sem]; done) | (refine (g4.cell (by first | omega | (simp <;> omega))).trans ?_; simp [go_sem]))).mono ?_; rintro e w5 ⟨⟨v2, rfl, q2⟩, g5⟩; have h5 := ‹Below W.heap.size W _ ∧ _›.1.trans (g5.mono ‹Below W.heap.size W _ ∧ _›.1.size); have z5 := h5.size)
      | (go_at_call 28; with_reducible refine (HM1.out _ _ (HW.out.1.trans (‹Below W.heap.size W _ ∧ _›.1.mono HW.out.1.size)) (by first | omega | (simp <;> omega)) (by first | (simp [go_sem]; done)) (by first | (simp [go_sem]; done))).mono ?_; rintro e w4 ⟨⟨v1, rfl, q1⟩, g4⟩; have h4 := ‹Below W.heap.size W _ ∧ _›.1.trans (g4.mono ‹Below W.heap.size W _ ∧ _›.1.size); have z4 := h4.size; have y4 := g4.size)
      | (go_at_call 23; with_reducible refine (HE.out _ _ _ (by first | exact HQ.out _ _ _ g5 q1 | exact HQ.out _ _ _ g5 (HQ.out _ _ _ ((Below.refl _ w4).alloc (Nat.le_refl _) _) q1)) q2).mono ?_; rintro e w6 ⟨rfl, g6⟩; have h6 := h5.trans (g6.mono h5.size)))
  all_goals
    go_wp2
    go_ret
    exact ⟨rfl, HW.out.2.trans (h6.mono (by have := HW.out.2.size; omega))⟩

theorem paxApart_walk (ad : Option Addr) (ca : Nat) (A : List Pr) (hA : A.length ≤ maxLen) (zA : ∀ p ∈ A, p.1.length ≤ reachBytes ∧ p.2.length ≤ reachBytes) (xA : A.length ≤ ca ∧ ca ≤ maxLen ∧ (ad = none → ca = 0))
    (bd : Option Addr) (cb : Nat) (B : List Pr) (hB : B.length ≤ maxLen) (zB : ∀ p ∈ B, p.1.length ≤ reachBytes ∧ p.2.length ≤ reachBytes) (xB : B.length ≤ cb ∧ cb ≤ maxLen ∧ (bd = none → cb = 0)) (w : World) (hMA : PairsAt w ad A) (hMB : PairsAt w bd B) (hp : PowLaid w) (hL : AtoiLaid w) :
    Calls Tryd.prog 9 #[.slice ad A.length ca, .slice bd B.length cb] w fun e w' => e = .returned (.bool true) ∧ Below w.heap.size w w' := by
  by_cases hA20 : (20 : Int) < (A.length : Int)
  · exact apart_longA _ _ ad bd ca cb hA20 w hp hL
  by_cases hB20 : (20 : Int) < (B.length : Int)
  · exact apart_longB _ _ ad bd ca cb hA20 hB20 w hp hL
  obtain ⟨w0, hw0⟩ : ∃ w0, w.alloc (.cells #[.slice bd B.length cb] 22) = w0 := ⟨_, rfl⟩
  have hb0 := below_alloc1 w (.cells #[.slice bd B.length cb] 22)
  have hc0 : w0.cell? ⟨w.heap.size, 0, none⟩ = some (.slice bd B.length cb) := by rw [← hw0]; simp
  have hs0 : w0.heap.size = w.heap.size + 1 := by rw [← hw0]; simp
  rw [hw0] at hb0
  have PA := hMA.below hb0
  have PB := hMB.below hb0
  have CF : ∀ W, Below w0.heap.size w0 W → Calls Tryd.prog 34 #[.slice ad A.length ca, .func (.func 35) #[] #[.pointer (some ⟨w.heap.size, 0, none⟩)]] W fun e w' => e = .returned (.bool (A.any fun p => B.any fun q => p.1 == q.1)) ∧ Below W.heap.size W w' := fun W hW =>
    containsFn_any (fun p => B.any fun q => p.1 == q.1) 35 #[.pointer (some ⟨w.heap.size, 0, none⟩)] (enters_of Tryd.func35 (by kernel_rfl) rfl) ad ca A (by omega) W (PA.below hW) (fun p _ W2 hW2 =>
      has_key w.heap.size bd cb B (by omega) p W2 (by have := hW.size; have := hW2.size; omega)
        ((hW2.cell (p := ⟨w.heap.size, 0, none⟩) (by have := hW.size; simp; omega)).trans ((hW.cell (p := ⟨w.heap.size, 0, none⟩) (by simp; omega)).trans hc0))
        (PB.below (hW.trans (hW2.mono hW.size))))
  have zAB : ∀ p ∈ A ++ B, p.1.length ≤ reachBytes ∧ p.2.length ≤ reachBytes := fun p h => (List.mem_append.1 h).elim (zA p) (zB p)
  have zBA : ∀ p ∈ B ++ A, p.1.length ≤ reachBytes ∧ p.2.length ≤ reachBytes := fun p h => (List.mem_append.1 h).elim (zB p) (zA p)
  cases hany : A.any fun p => B.any fun q => p.1 == q.1 with
  | true => exact apart_hit A.length B.length ad bd ca cb hA20 hB20 w w0 hw0 hp hL fun W hW => by have := CF W hW; rwa [hany] at this
  | false =>
    exact apart_main A.length B.length ad bd ca cb hA20 hB20 w w0 hw0 hp hL (fun W v => MOut W v (A ++ B)) (fun W W' v hb h => h.below hb) (fun W hW => by have := CF W hW; rwa [hany] at this)
      (fun g X hX hg c0 c1 => merge_cells2 A B (A ++ B) rfl (by omega) (by omega) zAB ad bd ca cb xA.2.2 xB.2.2 g X hg c0 c1 (PA.below hX) (PB.below hX))
      (fun g X hX hg c0 c1 => (merge_cells2 B A (B ++ A) rfl (by omega) (by omega) zBA bd ad cb ca xB.2.2 xA.2.2 g X hg c0 c1 (PB.below hX) (PA.below hX)).mono fun e w' ⟨⟨v, he, hv⟩, h⟩ => ⟨⟨v, he, hv.apart hany⟩, h⟩)
      (fun v1 v2 X h1 h2 => equal_out (A ++ B) (by rw [List.length_append]; omega) v1 v2 X h1 h2)
end Go.Proofs.YtheiamidochooaaDoor
