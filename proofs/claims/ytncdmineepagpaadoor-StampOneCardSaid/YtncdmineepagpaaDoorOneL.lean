/- StampOne, StampOrder: true, at every argument. -/
import Derived.Test.YtncdmineepagpaaDoorStm
import Derived.Test.YtncdmineepagpaaDoorInv
namespace Go.Proofs.YtncdmineepagpaaDoor
open Go.RowKit Go.Joins

theorem stampOne_walk (a0 : Int) (_ : (Lit.int .i64 a0).wf = true) (a1 : Int) (_ : (Lit.int .i64 a1).wf = true) (a2 : Int) (_ : (Lit.int .i64 a2).wf = true) (a3 : Int) (_ : (Lit.int .i64 a3).wf = true) (w : World) (hp : PowLaid w) (hT : TabLaid w) :
    Calls Tryd.prog 9 #[.int .i64 a0, .int .i64 a1, .int .i64 a2, .int .i64 a3] w fun e w' => e = .returned (.bool true) ∧ Below w.heap.size w w' := by
  have HS := Lib.hid (stamped_ok w hp hT)
  have HP := Lib.hid (fun w1 (h : Below w.heap.size w w1) => hp.below h)
  have hr := timed_right a0 a1
  have hr' := timed_right a2 a3
  have T1 := Lib.hid (fun w => timed_ex a0 a1 w)
  have T2 := Lib.hid (fun w => timed_ex a2 a3 w)
  generalize secF a0 = s at *
  generalize nanF a1 = n at *
  generalize secF a2 = s' at *
  generalize nanF a3 = n' at *
  have X1 := Lib.hid (fun w hp => text_ok s n w hp hr)
  have X2 := Lib.hid (fun w hp => text_ok s' n' w hp hr')
  have hq : ((mkS (textL s n)).toList == (mkS (textL s' n')).toList) = decide (s = s' ∧ n = n') := by
    rw [ByteArray.toList_eq, ByteArray.toList_eq, mkS_list, mkS_list, Bool.eq_iff_iff, beq_iff_eq, decide_eq_true_iff]
    exact ⟨text_inj hr hr', fun h => by rw [h.1, h.2]⟩
  generalize textL s n = x at *
  generalize textL s' n' = x' at *
  clear hr hr' hp hT
  go_enter Tryd.func9, Tryd.ntmps9
  go_wp2_with (first
    | (go_at_call 19; refine HS.out.mono ?_; rintro e w1 ⟨rfl, h1⟩)
    | (go_at_call 20; with_reducible refine (T1.out _).mono ?_; rintro e w2 ⟨rfl, rfl⟩)
    | (go_at_call 20; with_reducible refine (T2.out _).mono ?_; rintro e w3 ⟨rfl, rfl⟩)
    | fail)
  obtain ⟨W, hW⟩ : ∃ W, W = (((w1.alloc (.cells #[.int .i64 s, .int .i64 n] 23)).alloc (.cells #[.int .i64 s', .int .i64 n'] 23)).alloc (.cells #[.int .i64 s, .int .i64 n] 23)).alloc (.cells #[.int .i64 s', .int .i64 n'] 23) := ⟨_, rfl⟩
  rw [← hW]
  have hsz : W.heap.size = w1.heap.size + 4 := by rw [hW]; simp
  have hbW : Below w.heap.size w W := by
    have := h1.size
    rw [hW]
    exact (((h1.alloc h1.size _).alloc (by simp; omega) _).alloc (by simp; omega) _).alloc (by simp; omega) _
  have c : (∀ w', Below W.heap.size W w' → w'.cell? ⟨w1.heap.size + 1 + 1, 0, none⟩ = some (.int .i64 s) ∧ w'.cell? ⟨w1.heap.size + 1 + 1, 1, none⟩ = some (.int .i64 n) ∧ w'.cell? ⟨w1.heap.size + 1 + 1 + 1, 0, none⟩ = some (.int .i64 s') ∧ w'.cell? ⟨w1.heap.size + 1 + 1 + 1, 1, none⟩ = some (.int .i64 n')) := fun w' hb => by
    refine ⟨?_, ?_, ?_, ?_⟩ <;> rw [hb.cell (by rw [hsz]; simp), hW] <;> simp [go_sem]
  have C := Lib.hid c
  have Q := Lib.hid hq
  clear hW c hq
  have hcase : (s = s' ∧ n = n') ∨ (s ≠ s') ∨ (s = s' ∧ n ≠ n') := by
    by_cases a : s = s'
    · by_cases b : n = n'
      · exact Or.inl ⟨a, b⟩
      · exact Or.inr (Or.inr ⟨a, b⟩)
    · exact Or.inr (Or.inl a)
  rcases hcase with ⟨a, b⟩ | a | ⟨a, b⟩
  · have hq : ((mkS x).toList == (mkS x').toList) = true := by rw [Q.out]; simp [a, b]
    clear Q
    subst a b
    go_wp2_with (first
      | (go_at_call 18; with_reducible refine (X1.out W (HP.out _ hbW)).mono ?_; rintro e w4 ⟨rfl, h4⟩; obtain ⟨d0, d1, d2, d3⟩ := C.out _ h4)
      | (go_at_call 18; with_reducible refine (X2.out w4 (HP.out _ (hbW.trans (h4.mono hbW.size)))).mono ?_; rintro e w5 ⟨rfl, h5⟩; replace h5 := h4.trans (h5.mono h4.size); obtain ⟨e0, e1, e2, e3⟩ := C.out _ h5))
    go_ret
    exact ⟨rfl, hbW.trans (h5.mono hbW.size)⟩
  · have hq : ((mkS x).toList == (mkS x').toList) = false := by rw [Q.out]; simp [a]
    clear Q
    have a1 : (s == s') = false := by simpa using a
    go_wp2_with (first
      | (go_at_call 18; with_reducible refine (X1.out W (HP.out _ hbW)).mono ?_; rintro e w4 ⟨rfl, h4⟩; obtain ⟨d0, d1, d2, d3⟩ := C.out _ h4)
      | (go_at_call 18; with_reducible refine (X2.out w4 (HP.out _ (hbW.trans (h4.mono hbW.size)))).mono ?_; rintro e w5 ⟨rfl, h5⟩; replace h5 := h4.trans (h5.mono h4.size); obtain ⟨e0, e1, e2, e3⟩ := C.out _ h5))
    go_ret
    exact ⟨rfl, hbW.trans (h5.mono hbW.size)⟩
  · have hq : ((mkS x).toList == (mkS x').toList) = false := by rw [Q.out]; simp [b]
    clear Q
    subst a
    have b1 : (n == n') = false := by simpa using b
    go_wp2_with (first
      | (go_at_call 18; with_reducible refine (X1.out W (HP.out _ hbW)).mono ?_; rintro e w4 ⟨rfl, h4⟩; obtain ⟨d0, d1, d2, d3⟩ := C.out _ h4)
      | (go_at_call 18; with_reducible refine (X2.out w4 (HP.out _ (hbW.trans (h4.mono hbW.size)))).mono ?_; rintro e w5 ⟨rfl, h5⟩; replace h5 := h4.trans (h5.mono h4.size); obtain ⟨e0, e1, e2, e3⟩ := C.out _ h5))
    go_ret
    exact ⟨rfl, hbW.trans (h5.mono hbW.size)⟩
end Go.Proofs.YtncdmineepagpaaDoor
