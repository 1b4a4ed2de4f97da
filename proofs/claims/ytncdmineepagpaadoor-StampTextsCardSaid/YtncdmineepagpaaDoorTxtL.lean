/- StampTexts: true, at every time. -/
import Derived.Test.YtncdmineepagpaaDoorTxtR
import Derived.Test.YtncdmineepagpaaDoorTell
namespace Go.Proofs.YtncdmineepagpaaDoor
open Go.RowKit Go.Joins

theorem refText_ok (s n : Int) (w : World) (hp : PowLaid w) (hr : rightB s n = true) :
    Calls Tryd.prog 17 #[tmV s n] w fun e w' => e = .returned (.tuple #[.string (mkS (textL s n)), .int .i64 0]) ∧ Below w.heap.size w w' := by
  have hb := rightB_true s n hr
  unfold textL
  by_cases h0 : 0 ≤ s
  · rw [if_pos h0]
    exact refText_of s n s.toNat n.toNat [] w hp hr (Or.inl ⟨h0, by omega, by omega, rfl⟩)
  · rw [if_neg h0]
    by_cases hm : n = 0
    · rw [if_pos hm]
      have h := refText_of s n (-s).toNat 0 [45] w hp hr (Or.inr (Or.inl ⟨by omega, hm, by omega, rfl, rfl⟩))
      rwa [show fracL 0 = [] from rfl, List.append_nil] at h
    · rw [if_neg hm]
      exact refText_of s n (-s - 1).toNat (1000000000 - n).toNat [45] w hp hr (Or.inr (Or.inr ⟨by omega, by omega, by omega, by omega, rfl⟩))

theorem stampTexts_walk (s : Int) (_ : (Lit.int .i64 s).wf = true) (n : Int) (_ : (Lit.int .i64 n).wf = true) (w : World) (hg : ErrLaid w) (hp : PowLaid w) :
    Calls Tryd.prog 5 #[tmV s n] w fun e w' => e = .returned (.bool true) ∧ Below w.heap.size w w' := by
  have HP := Lib.hid (fun w1 (h : Below w.heap.size w w1) => hp.below h)
  have HG := Lib.hid (fun w1 (h : Below w.heap.size w w1) => hg.below h)
  clear hp hg
  by_cases hr : rightB s n = true
  · have T1 := Lib.hid (fun w hp => refText_ok s n w hp hr)
    have T2 := Lib.hid (fun w hp => text_ok s n w hp hr)
    clear hr
    generalize textL s n = X at T1 T2
    go_enter Tryd.func5, Tryd.ntmps5
    go_wp2_with (first
      | (go_at_call 17; refine (T1.out _ (HP.out _ (below_alloc1 _ _))).mono ?_; rintro e w1 ⟨rfl, h1⟩; have c0 : w1.cell? ⟨w.heap.size, 0, none⟩ = some (.int .i64 s) := by { rw [h1.cell (by simp)]; simp [go_sem] }; have c1 : w1.cell? ⟨w.heap.size, 1, none⟩ = some (.int .i64 n) := by { rw [h1.cell (by simp)]; simp [go_sem] }; replace h1 := (below_alloc1 w _).trans (h1.mono (by simp)))
      | (go_at_call 18; refine (T2.out _ (HP.out _ h1)).mono ?_; rintro e w2 ⟨rfl, h2⟩; replace h2 := h1.trans (h2.mono h1.size))
      | (go_at_call 13; refine (bare_nil _).mono ?_; rintro e w' ⟨rfl, hw⟩; replace hw := hw.symm; subst hw))
    go_ret
    exact ⟨rfl, h2⟩
  · rw [Bool.not_eq_true] at hr
    have T1 := Lib.hid (fun w => refText_bad s n w hr)
    have T2 := Lib.hid (fun w => text_bad s n w hr)
    clear hr
    go_enter Tryd.func5, Tryd.ntmps5
    go_wp2_with (first
      | (go_at_call 17; refine (T1.out _).mono ?_; rintro e w1 ⟨rfl, h1⟩; have c0 : w1.cell? ⟨w.heap.size, 0, none⟩ = some (.int .i64 s) := by { rw [h1.cell (by simp)]; simp [go_sem] }; have c1 : w1.cell? ⟨w.heap.size, 1, none⟩ = some (.int .i64 n) := by { rw [h1.cell (by simp)]; simp [go_sem] }; replace h1 := (below_alloc1 w _).trans (h1.mono (by simp)))
      | (go_at_call 18; refine (T2.out _).mono ?_; rintro e w2 ⟨rfl, h2⟩; replace h2 := h1.trans (h2.mono h1.size))
      | (go_at_call 13; refine (bare_err 1 _ (HG.out _ h2)).mono ?_; rintro e w3 ⟨rfl, h3⟩; replace h3 := h2.trans (h3.mono h2.size)))
    go_ret
    exact ⟨rfl, h3⟩
end Go.Proofs.YtncdmineepagpaaDoor
