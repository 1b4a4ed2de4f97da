/- StampRights, StampBefore: true, at every time. -/
import Derived.Test.YtncdmineepagpaaTim
import Derived.Lib.QuietBelow
namespace Go.Proofs.Ytncdmineepagpaa
open Go.RowKit Go.Joins

theorem stampRights_walk (s : Int) (_ : (Lit.int .i64 s).wf = true) (n : Int) (_ : (Lit.int .i64 n).wf = true) (w : World) :
    Calls Try.prog 3 #[tmV s n] w fun e w' => e = .returned (.bool true) ∧ Below w.heap.size w w' := by
  have R := Lib.hid (fun w => right_any s n w)
  have F := Lib.hid (fun w => refRight_any s n w)
  have C := Lib.hid (fun w => cut_any s n w)
  generalize rightB s n = b at R F
  have c0 : ∀ d os, (Sort.grow (redrawn (w.alloc (.cells #[.int .i64 s, .int .i64 n] 23)) d) os).cell? ⟨w.heap.size, 0, none⟩ = some (.int .i64 s) := fun d os => cell_regrown (by simp [go_sem]) d os
  have c1 : ∀ d os, (Sort.grow (redrawn (w.alloc (.cells #[.int .i64 s, .int .i64 n] 23)) d) os).cell? ⟨w.heap.size, 1, none⟩ = some (.int .i64 n) := fun d os => cell_regrown (by simp [go_sem]) d os
  go_enter Try.func3, Try.ntmps3
  go_wp2
  refine wp_region_quiet_below (by kernel_rfl) (by kernel_rfl) ?_
  repeat (go_big_quiet_step (first
    | (go_at_call 5; with_reducible exact Calls.regrown_of (R.out _))
    | (go_at_call 6; with_reducible exact Calls.regrown_of (F.out _))
    | (go_at_call 7; with_reducible exact Calls.regrown_of (C.out _))))
  refine wpQuiet_nil ?_
  intro _ hw'
  obtain ⟨⟨dq, osq⟩, hw''⟩ := hw'
  subst hw''
  go_wp2
  go_ret
  exact ⟨rfl, (below_alloc1 _ _).trans ((below_regrown _ dq osq).mono (by simp))⟩

set_option maxHeartbeats 4000000 in
theorem stampBefore_walk (s : Int) (_ : (Lit.int .i64 s).wf = true) (n : Int) (_ : (Lit.int .i64 n).wf = true) (s' : Int) (_ : (Lit.int .i64 s').wf = true) (n' : Int) (_ : (Lit.int .i64 n').wf = true) (w : World) :
    Calls Try.prog 4 #[tmV s n, tmV s' n'] w fun e w' => e = .returned (.bool true) ∧ Below w.heap.size w w' := by
  have B := Lib.hid (fun w => before_any s n s' n' w)
  have hb : ahead s n s' n' = (decide (s < s') || (decide (s = s') && decide (n < n'))) := rfl
  generalize ahead s n s' n' = b at B hb
  generalize hW : (w.alloc (.cells #[.int .i64 s, .int .i64 n] 23)).alloc (.cells #[.int .i64 s', .int .i64 n'] 23) = W
  have c0 : ∀ d os, (Sort.grow (redrawn W d) os).cell? ⟨w.heap.size, 0, none⟩ = some (.int .i64 s) := fun d os => cell_regrown (by subst hW; simp [go_sem]) d os
  have c1 : ∀ d os, (Sort.grow (redrawn W d) os).cell? ⟨w.heap.size, 1, none⟩ = some (.int .i64 n) := fun d os => cell_regrown (by subst hW; simp [go_sem]) d os
  have c2 : ∀ d os, (Sort.grow (redrawn W d) os).cell? ⟨w.heap.size + 1, 0, none⟩ = some (.int .i64 s') := fun d os => cell_regrown (by subst hW; simp [go_sem]) d os
  have c3 : ∀ d os, (Sort.grow (redrawn W d) os).cell? ⟨w.heap.size + 1, 1, none⟩ = some (.int .i64 n') := fun d os => cell_regrown (by subst hW; simp [go_sem]) d os
  have hbel : Below w.heap.size w W := hW ▸ below_alloc2 _ _ _
  have HW := Lib.hid hW
  clear hW
  by_cases h1 : s < s'
  · simp only [h1, decide_true, Bool.true_or] at hb
    subst hb
    go_enter Try.func4, Try.ntmps4
    go_wp2
    rw [HW.out]
    refine wp_region_quiet_below (by kernel_rfl) (by kernel_rfl) ?_
    repeat (go_big_quiet_step ((go_at_call 8; with_reducible exact Calls.regrown_of (B.out _))))
    refine wpQuiet_nil ?_
    intro _ hw'
    obtain ⟨⟨dq, osq⟩, hw''⟩ := hw'
    subst hw''
    go_wp2
    go_ret
    exact ⟨rfl, hbel.trans ((below_regrown _ dq osq).mono hbel.size)⟩
  · have e1 : decide (s < s') = false := by simpa using h1
    clear h1
    by_cases h2 : s = s'
    · have e0 : decide (s' < s') = false := by simp
      simp only [h2, decide_true, Bool.true_and, e0, Bool.false_or] at hb
      clear e0
      subst h2 hb
      go_enter Try.func4, Try.ntmps4
      go_wp2
      rw [HW.out]
      refine wp_region_quiet_below (by kernel_rfl) (by kernel_rfl) ?_
      repeat (go_big_quiet_step ((go_at_call 8; with_reducible exact Calls.regrown_of (B.out _))))
      refine wpQuiet_nil ?_
      intro _ hw'
      obtain ⟨⟨dq, osq⟩, hw''⟩ := hw'
      subst hw''
      go_wp2
      go_ret
      exact ⟨rfl, hbel.trans ((below_regrown _ dq osq).mono hbel.size)⟩
    · have e2 : decide (s = s') = false := by simpa using h2
      have e3 : (s == s') = false := by simpa using h2
      simp only [e1, e2, Bool.false_and, Bool.or_false] at hb
      subst hb
      go_enter Try.func4, Try.ntmps4
      go_wp2
      rw [HW.out]
      refine wp_region_quiet_below (by kernel_rfl) (by kernel_rfl) ?_
      repeat (go_big_quiet_step ((go_at_call 8; with_reducible exact Calls.regrown_of (B.out _))))
      refine wpQuiet_nil ?_
      intro _ hw'
      obtain ⟨⟨dq, osq⟩, hw''⟩ := hw'
      subst hw''
      go_wp2
      go_ret
      exact ⟨rfl, hbel.trans ((below_regrown _ dq osq).mono hbel.size)⟩
end Go.Proofs.Ytncdmineepagpaa
