/- PaxOver: true, at every argument. -/
import Derived.Test.YtheiamidochooaaDoorOvr
import Derived.Test.YtheiamidochooaaDoorMrc
import Derived.Deep.RegionHeld3
import Derived.Deep.Cut
namespace Go.Proofs.YtheiamidochooaaDoor
open Go.RowKit Go.Joins
set_option linter.unusedVariables false

set_option maxHeartbeats 1000000 in
theorem over_longA (n1 n2 : Nat) (ad bd : Option Addr) (ca cb : Nat) (K : ByteArray) (h20 : (20 : Int) < (n1 : Int)) (w : World) (hp : PowLaid w) (hL : AtoiLaid w) :
    Calls Tryd.prog 10 #[.slice ad n1 ca, .slice bd n2 cb, .string K] w fun e w' => e = .returned (.bool true) ∧ Below w.heap.size w w' := by
  have hb0 := below_alloc1 w (.cells #[.string K] 9)
  have R := Lib.hid (recorded_true _ (hp.below hb0) (hL.below hb0))
  have HB := Lib.hid hb0
  clear hp hL hb0
  go_enter Tryd.func10, Tryd.ntmps10
  go_wp2_with (go_at_call 21; refine R.out.mono ?_; rintro e w1 ⟨rfl, h1⟩)
  go_ret
  exact ⟨rfl, HB.out.trans (h1.mono (by simp))⟩
set_option maxHeartbeats 1000000 in
theorem over_longB (n1 n2 : Nat) (ad bd : Option Addr) (ca cb : Nat) (K : ByteArray) (s1 : ¬ (20 : Int) < (n1 : Int)) (h20 : (20 : Int) < (n2 : Int)) (w : World) (hp : PowLaid w) (hL : AtoiLaid w) :
    Calls Tryd.prog 10 #[.slice ad n1 ca, .slice bd n2 cb, .string K] w fun e w' => e = .returned (.bool true) ∧ Below w.heap.size w w' := by
  have hb0 := below_alloc1 w (.cells #[.string K] 9)
  have R := Lib.hid (recorded_true _ (hp.below hb0) (hL.below hb0))
  have HB := Lib.hid hb0
  clear hp hL hb0
  go_enter Tryd.func10, Tryd.ntmps10
  go_wp2_with (go_at_call 21; refine R.out.mono ?_; rintro e w1 ⟨rfl, h1⟩; have k1 : w1.cell? ⟨w.heap.size, 0, none⟩ = some (.string K) := (h1.cell (p := ⟨w.heap.size, 0, none⟩) (by simp)).trans (by simp))
  go_ret
  exact ⟨rfl, HB.out.trans (h1.mono (by simp))⟩

set_option maxHeartbeats 8000000 in
theorem over_main (n1 n2 : Nat) (ad bd : Option Addr) (ca cb : Nat) (K V : ByteArray) (ok hit : Bool) (s1 : ¬ (20 : Int) < (n1 : Int)) (s2 : ¬ (20 : Int) < (n2 : Int)) (w w0 : World) (hw0 : w.alloc (.cells #[.string K] 9) = w0) (hp : PowLaid w) (hL : AtoiLaid w) (Q : World → Value → Prop)
    (CF : ∀ W, Below w0.heap.size w0 W → Calls Tryd.prog 34 #[.slice bd n2 cb, .func (.func 37) #[] #[.pointer (some ⟨w.heap.size, 0, none⟩)]] W fun e w' => e = .returned (.bool hit) ∧ Below W.heap.size W w')
    (M1 : ∀ g X, Below w0.heap.size w0 X → g < X.heap.size → X.cell? ⟨g, 0, none⟩ = some (.slice ad n1 ca) → X.cell? ⟨g, 1, none⟩ = some (.slice bd n2 cb) → Calls Tryd.prog 28 #[.slice (some ⟨g, 0, none⟩) 2 2] X fun e w' => (∃ v, e = .returned v ∧ Q w' v) ∧ Below X.heap.size X w')
    (G1 : ∀ v X, Q X v → Calls Tryd.prog 32 #[v, .string K] X fun e w' => e = .returned (.tuple #[.string V, .bool ok]) ∧ Below X.heap.size X w')
    (G2 : hit = true → ∀ W, Below w0.heap.size w0 W → Calls Tryd.prog 32 #[.slice bd n2 cb, .string K] W fun e w' => e = .returned (.tuple #[.string V, .bool ok]) ∧ Below W.heap.size W w')
    (G3 : hit = false → ∀ W, Below w0.heap.size w0 W → Calls Tryd.prog 32 #[.slice ad n1 ca, .string K] W fun e w' => e = .returned (.tuple #[.string V, .bool ok]) ∧ Below W.heap.size W w') :
    Calls Tryd.prog 10 #[.slice ad n1 ca, .slice bd n2 cb, .string K] w fun e w' => e = .returned (.bool true) ∧ Below w.heap.size w w' := by
  have hb0 := below_alloc1 w (.cells #[.string K] 9)
  have R := Lib.hid (recorded_true _ (hp.below hb0) (hL.below hb0))
  have hc0 : w0.cell? ⟨w.heap.size, 0, none⟩ = some (.string K) := by rw [← hw0]; simp
  have hs0 : w0.heap.size = w.heap.size + 1 := by rw [← hw0]; simp
  have HC := Lib.hid CF
  have HM1 := Lib.hid M1
  have HG1 := Lib.hid G1
  have HG2 := Lib.hid G2
  have HG3 := Lib.hid G3
  rw [hw0] at R hb0
  have HB := Lib.hid (And.intro hb0 (And.intro hs0 hc0))
  clear hp hL hb0 CF M1 G1 G2 G3 hs0
  go_enter Tryd.func10, Tryd.ntmps10
  go_upto_region 5 with (first
    | (go_at_call 21; refine R.out.mono ?_; rintro e W ⟨rfl, h3⟩; have k1 := (h3.cell (p := ⟨w.heap.size, 0, none⟩) (by have := HB.out.2.1; simp; omega)).trans HB.out.2.2)
    | fail)
  clear hw0
  have hbW : Below w0.heap.size w0 W := h3
  have hbw : Below w.heap.size w W := HB.out.1.trans (hbW.mono (by have := HB.out.2.1; omega))
  have hltW : w.heap.size < W.heap.size := by have := HB.out.2.1; have := hbW.size; omega
  have C := Lib.hid (show ∀ w', Below W.heap.size W w' → w'.cell? ⟨w.heap.size, 0, none⟩ = some (.string K) from fun w' hb => (hb.cell (p := ⟨w.heap.size, 0, none⟩) hltW).trans k1)
  have HW := Lib.hid (And.intro hbW hbw)
  clear h3 hbW hbw hc0 k1 R HB
  go_region_held3 (fun w' => Below W.heap.size W w' ∧ w'.cell? ⟨w.heap.size, 0, none⟩ = some (.string K))
    (first
      | assumption
      | exact ⟨Below.refl _ _, C.out _ (Below.refl _ _)⟩
      | exact ⟨(Below.refl _ _).drew, C.out _ (Below.refl _ _).drew⟩
      | exact ⟨h4, C.out _ h4⟩
      | exact ⟨h5, C.out _ h5⟩
      | (refine ⟨?_, C.out _ ?_⟩ <;> (repeat' first | exact h5 | exact h4 | exact Below.refl _ _ | refine Below.drew ?_ | refine Below.alloc ?_ ?_ _) <;> (first | exact Nat.le_refl _ | omega | (simp <;> omega)))
      | fail)
    (first
      | (go_at_call 28; with_reducible refine (HM1.out _ _ (HW.out.1.trans (‹Below W.heap.size W _ ∧ _›.1.mono HW.out.1.size)) (by first | omega | (simp <;> omega)) (by first | (simp [go_sem]; done)) (by first | (simp [go_sem]; done))).mono ?_; rintro e w4 ⟨⟨v1, rfl, q1⟩, g4⟩; have h4 := ‹Below W.heap.size W _ ∧ _›.1.trans (g4.mono ‹Below W.heap.size W _ ∧ _›.1.size); have z4 := h4.size; have y4 := g4.size)
      | (go_at_call 32; with_reducible refine (HG1.out _ _ q1).mono ?_; rintro e w5 ⟨rfl, g5⟩; have h5 := h4.trans (g5.mono h4.size); have z5 := h5.size))
  all_goals
    have k5 := C.out _ h5
    go_wp2_with (first
      | (go_at_call 34; refine (HC.out _ (HW.out.1.trans (h5.mono HW.out.1.size))).mono ?_; rintro e w6 ⟨rfl, g6⟩; have h6 := h5.trans (g6.mono h5.size); have k6 := C.out _ h6; cases hit)
      | (go_at_call 32; with_reducible (first | refine (HG2.out (by trivial) _ (HW.out.1.trans (h6.mono HW.out.1.size))).mono ?_ | refine (HG3.out (by trivial) _ (HW.out.1.trans (h6.mono HW.out.1.size))).mono ?_); rintro e w7 ⟨rfl, g7⟩; have h7 := h6.trans (g7.mono h6.size)))
    all_goals
      go_ret
      exact ⟨by simp, HW.out.2.trans (h7.mono (by have := HW.out.2.size; omega))⟩

theorem paxOver_walk (ad : Option Addr) (ca : Nat) (A : List Pr) (hA : A.length ≤ maxLen) (zA : ∀ p ∈ A, p.1.length ≤ reachBytes ∧ p.2.length ≤ reachBytes) (xA : A.length ≤ ca ∧ ca ≤ maxLen ∧ (ad = none → ca = 0))
    (bd : Option Addr) (cb : Nat) (B : List Pr) (hB : B.length ≤ maxLen) (zB : ∀ p ∈ B, p.1.length ≤ reachBytes ∧ p.2.length ≤ reachBytes) (xB : B.length ≤ cb ∧ cb ≤ maxLen ∧ (bd = none → cb = 0)) (K : ByteArray) (_wK : K.size ≤ maxLen) (w : World) (hMA : PairsAt w ad A) (hMB : PairsAt w bd B) (hp : PowLaid w) (hL : AtoiLaid w) :
    Calls Tryd.prog 10 #[.slice ad A.length ca, .slice bd B.length cb, .string K] w fun e w' => e = .returned (.bool true) ∧ Below w.heap.size w w' := by
  by_cases hA20 : (20 : Int) < (A.length : Int)
  · exact over_longA _ _ ad bd ca cb K hA20 w hp hL
  by_cases hB20 : (20 : Int) < (B.length : Int)
  · exact over_longB _ _ ad bd ca cb K hA20 hB20 w hp hL
  obtain ⟨key, rfl⟩ : ∃ k, K = mkS k := ⟨_, (mkS_self K).symm⟩
  obtain ⟨w0, hw0⟩ : ∃ w0, w.alloc (.cells #[.string (mkS key)] 9) = w0 := ⟨_, rfl⟩
  have hb0 := below_alloc1 w (.cells #[.string (mkS key)] 9)
  have hc0 : w0.cell? ⟨w.heap.size, 0, none⟩ = some (.string (mkS key)) := by rw [← hw0]; simp
  have hs0 : w0.heap.size = w.heap.size + 1 := by rw [← hw0]; simp
  rw [hw0] at hb0
  have PA := hMA.below hb0
  have PB := hMB.below hb0
  have zAB : ∀ p ∈ A ++ B, p.1.length ≤ reachBytes ∧ p.2.length ≤ reachBytes := fun p h => (List.mem_append.1 h).elim (zA p) (zB p)
  have hg := getL_append A B key
  exact over_main A.length B.length ad bd ca cb (mkS key) (mkS (getL (A ++ B) key)) (!(getL (A ++ B) key).isEmpty) (B.any fun p => p.1 == key) hA20 hB20 w w0 hw0 hp hL (fun W v => MOut W v (A ++ B))
    (fun W hW => containsFn_any (fun p => p.1 == key) 37 #[.pointer (some ⟨w.heap.size, 0, none⟩)] (enters_of Tryd.func37 (by kernel_rfl) rfl) bd cb B (by omega) W (PB.below hW) (fun p _ W2 hW2 =>
      key_is w.heap.size key p W2 (by have := hW.size; have := hW2.size; omega)
        ((hW2.cell (p := ⟨w.heap.size, 0, none⟩) (by have := hW.size; simp; omega)).trans ((hW.cell (p := ⟨w.heap.size, 0, none⟩) (by simp; omega)).trans hc0))))
    (fun g X hX hg c0 c1 => merge_cells2 A B (A ++ B) rfl (by omega) (by omega) zAB ad bd ca cb xA.2.2 xB.2.2 g X hg c0 c1 (PA.below hX) (PB.below hX))
    (fun v X h => get_out (A ++ B) (by rw [List.length_append]; omega) v key _ rfl X h)
    (fun hh W hW => by
      rw [hg, if_pos hh]
      exact get_pairs bd cb B (by omega) key W (PB.below hW))
    (fun hh W hW => by
      rw [hg, if_neg (by rw [hh]; simp)]
      exact get_pairs ad ca A (by omega) key W (PA.below hW))
end Go.Proofs.YtheiamidochooaaDoor
