/- Lt: what the texts of the name hold, joined. -/
import Derived.Test.YtnjcefmmdghbmaaNd
set_option linter.unusedSimpArgs false
set_option linter.unusedVariables false
section
/- The law TreeRights. -/
namespace Go.Proofs.Ytnjcefmmdghbmaa
open Go.RowKit Go.Joins
set_option linter.unusedVariables false
set_option linter.unusedSimpArgs false

set_option maxRecDepth 100000 in
set_option maxHeartbeats 8000000 in
theorem treeRights_walk (q : NodL) (hi : intsN q) (ht : textsN q) (w : World) :
    Calls Try.prog 3 #[nodV q] w fun r w' => r = .returned (.bool true) ∧ Below w.heap.size w w' := by
  have hr := reachBytes_lt
  have sd := mkS_size q.data
  have sl := mkS_size q.link
  have hdl : (q.data.length : Int) ≤ 200000000000000 := by have := ht.1; omega
  have hll : (q.link.length : Int) ≤ 200000000000000 := by have := ht.2; omega
  have hB := Lib.hid (below_alloc1 w (.cells (nodC q) 25))
  have HN := Lib.hid (heap_alloc_new w (.cells (nodC q) 25))
  have A := Lib.hid (fun w => treeRight_any q hi ht w)
  have B := Lib.hid (fun w => nodeRight_any q hi ht w)
  generalize rightNd q = R at *
  clear hi ht hr
  have hR : (R == R) = true := by cases R <;> rfl
  by_cases h1 : (900 : Int) < (q.data.length : Int) ∧ (q.data.length : Int) < 3991
  · obtain ⟨h1, h2⟩ := h1
    go_enter Try.func3, Try.ntmps3
    go_upto_region 1 with fail
    have c0 := row_cellN HN.out 0 _ rfl
    have c1 := row_cellN HN.out 1 _ rfl
    have c2 := row_cellN HN.out 2 _ rfl
    have c3 := row_cellN HN.out 3 _ rfl
    have c4 := row_cellN HN.out 4 _ rfl
    have c5 := row_cellN HN.out 5 _ rfl
    have c6 := row_cellN HN.out 6 _ rfl
    have c7 := row_cellN HN.out 7 _ rfl
    have c8 := row_cellN HN.out 8 _ rfl
    have c9 := row_cellN HN.out 9 _ rfl
    have v0 := fun d os => cell_regrown c0 d os
    have v1 := fun d os => cell_regrown c1 d os
    have v2 := fun d os => cell_regrown c2 d os
    have v3 := fun d os => cell_regrown c3 d os
    have v4 := fun d os => cell_regrown c4 d os
    have v5 := fun d os => cell_regrown c5 d os
    have v6 := fun d os => cell_regrown c6 d os
    have v7 := fun d os => cell_regrown c7 d os
    have v8 := fun d os => cell_regrown c8 d os
    have v9 := fun d os => cell_regrown c9 d os
    refine wp_region_quiet_below (by kernel_rfl) (by kernel_rfl) ?_
    repeat (go_big_quiet_step (first
      | (go_at_call 4; with_reducible exact Calls.regrown_of (A.out _))
      | (go_at_call 5; with_reducible exact Calls.regrown_of (B.out _))))
    refine wpQuiet_nil ?_
    intro _ hw'
    obtain ⟨⟨dq, osq⟩, hw''⟩ := hw'
    subst hw''
    have hB3 := Lib.hid (hB.out.trans ((below_regrown _ dq osq).mono hB.out.size))
    dsimp only at *
    go_wp2_with fail
    go_ret
    exact ⟨by first | rfl | simp, hB3.out⟩
  by_cases h2 : (4009 : Int) < (q.data.length : Int)
  · have h3 : (900 : Int) < (q.data.length : Int) := by omega
    have h4 : ¬ (q.data.length : Int) < 3991 := by omega
    clear h1
    go_enter Try.func3, Try.ntmps3
    go_upto_region 1 with fail
    have c0 := row_cellN HN.out 0 _ rfl
    have c1 := row_cellN HN.out 1 _ rfl
    have c2 := row_cellN HN.out 2 _ rfl
    have c3 := row_cellN HN.out 3 _ rfl
    have c4 := row_cellN HN.out 4 _ rfl
    have c5 := row_cellN HN.out 5 _ rfl
    have c6 := row_cellN HN.out 6 _ rfl
    have c7 := row_cellN HN.out 7 _ rfl
    have c8 := row_cellN HN.out 8 _ rfl
    have c9 := row_cellN HN.out 9 _ rfl
    have v0 := fun d os => cell_regrown c0 d os
    have v1 := fun d os => cell_regrown c1 d os
    have v2 := fun d os => cell_regrown c2 d os
    have v3 := fun d os => cell_regrown c3 d os
    have v4 := fun d os => cell_regrown c4 d os
    have v5 := fun d os => cell_regrown c5 d os
    have v6 := fun d os => cell_regrown c6 d os
    have v7 := fun d os => cell_regrown c7 d os
    have v8 := fun d os => cell_regrown c8 d os
    have v9 := fun d os => cell_regrown c9 d os
    refine wp_region_quiet_below (by kernel_rfl) (by kernel_rfl) ?_
    repeat (go_big_quiet_step (first
      | (go_at_call 4; with_reducible exact Calls.regrown_of (A.out _))
      | (go_at_call 5; with_reducible exact Calls.regrown_of (B.out _))))
    refine wpQuiet_nil ?_
    intro _ hw'
    obtain ⟨⟨dq, osq⟩, hw''⟩ := hw'
    subst hw''
    have hB3 := Lib.hid (hB.out.trans ((below_regrown _ dq osq).mono hB.out.size))
    dsimp only at *
    go_wp2_with fail
    go_ret
    exact ⟨by first | rfl | simp, hB3.out⟩
  by_cases h3 : (300 : Int) < (q.link.length : Int)
  · by_cases h4 : (900 : Int) < (q.data.length : Int)
    · have h5 : ¬ (q.data.length : Int) < 3991 := fun h => h1 ⟨h4, h⟩
      clear h1
      go_enter Try.func3, Try.ntmps3
      go_upto_region 1 with fail
      have c0 := row_cellN HN.out 0 _ rfl
      have c1 := row_cellN HN.out 1 _ rfl
      have c2 := row_cellN HN.out 2 _ rfl
      have c3 := row_cellN HN.out 3 _ rfl
      have c4 := row_cellN HN.out 4 _ rfl
      have c5 := row_cellN HN.out 5 _ rfl
      have c6 := row_cellN HN.out 6 _ rfl
      have c7 := row_cellN HN.out 7 _ rfl
      have c8 := row_cellN HN.out 8 _ rfl
      have c9 := row_cellN HN.out 9 _ rfl
      have v0 := fun d os => cell_regrown c0 d os
      have v1 := fun d os => cell_regrown c1 d os
      have v2 := fun d os => cell_regrown c2 d os
      have v3 := fun d os => cell_regrown c3 d os
      have v4 := fun d os => cell_regrown c4 d os
      have v5 := fun d os => cell_regrown c5 d os
      have v6 := fun d os => cell_regrown c6 d os
      have v7 := fun d os => cell_regrown c7 d os
      have v8 := fun d os => cell_regrown c8 d os
      have v9 := fun d os => cell_regrown c9 d os
      refine wp_region_quiet_below (by kernel_rfl) (by kernel_rfl) ?_
      repeat (go_big_quiet_step (first
        | (go_at_call 4; with_reducible exact Calls.regrown_of (A.out _))
        | (go_at_call 5; with_reducible exact Calls.regrown_of (B.out _))))
      refine wpQuiet_nil ?_
      intro _ hw'
      obtain ⟨⟨dq, osq⟩, hw''⟩ := hw'
      subst hw''
      have hB3 := Lib.hid (hB.out.trans ((below_regrown _ dq osq).mono hB.out.size))
      dsimp only at *
      go_wp2_with fail
      go_ret
      exact ⟨by first | rfl | simp, hB3.out⟩
    · clear h1
      go_enter Try.func3, Try.ntmps3
      go_upto_region 1 with fail
      have c0 := row_cellN HN.out 0 _ rfl
      have c1 := row_cellN HN.out 1 _ rfl
      have c2 := row_cellN HN.out 2 _ rfl
      have c3 := row_cellN HN.out 3 _ rfl
      have c4 := row_cellN HN.out 4 _ rfl
      have c5 := row_cellN HN.out 5 _ rfl
      have c6 := row_cellN HN.out 6 _ rfl
      have c7 := row_cellN HN.out 7 _ rfl
      have c8 := row_cellN HN.out 8 _ rfl
      have c9 := row_cellN HN.out 9 _ rfl
      have v0 := fun d os => cell_regrown c0 d os
      have v1 := fun d os => cell_regrown c1 d os
      have v2 := fun d os => cell_regrown c2 d os
      have v3 := fun d os => cell_regrown c3 d os
      have v4 := fun d os => cell_regrown c4 d os
      have v5 := fun d os => cell_regrown c5 d os
      have v6 := fun d os => cell_regrown c6 d os
      have v7 := fun d os => cell_regrown c7 d os
      have v8 := fun d os => cell_regrown c8 d os
      have v9 := fun d os => cell_regrown c9 d os
      refine wp_region_quiet_below (by kernel_rfl) (by kernel_rfl) ?_
      repeat (go_big_quiet_step (first
        | (go_at_call 4; with_reducible exact Calls.regrown_of (A.out _))
        | (go_at_call 5; with_reducible exact Calls.regrown_of (B.out _))))
      refine wpQuiet_nil ?_
      intro _ hw'
      obtain ⟨⟨dq, osq⟩, hw''⟩ := hw'
      subst hw''
      have hB3 := Lib.hid (hB.out.trans ((below_regrown _ dq osq).mono hB.out.size))
      dsimp only at *
      go_wp2_with fail
      go_ret
      exact ⟨by first | rfl | simp, hB3.out⟩
  by_cases h4 : (900 : Int) < (q.data.length : Int)
  · have h5 : ¬ (q.data.length : Int) < 3991 := fun h => h1 ⟨h4, h⟩
    clear h1
    go_enter Try.func3, Try.ntmps3
    go_upto_region 1 with fail
    have c0 := row_cellN HN.out 0 _ rfl
    have c1 := row_cellN HN.out 1 _ rfl
    have c2 := row_cellN HN.out 2 _ rfl
    have c3 := row_cellN HN.out 3 _ rfl
    have c4 := row_cellN HN.out 4 _ rfl
    have c5 := row_cellN HN.out 5 _ rfl
    have c6 := row_cellN HN.out 6 _ rfl
    have c7 := row_cellN HN.out 7 _ rfl
    have c8 := row_cellN HN.out 8 _ rfl
    have c9 := row_cellN HN.out 9 _ rfl
    have v0 := fun d os => cell_regrown c0 d os
    have v1 := fun d os => cell_regrown c1 d os
    have v2 := fun d os => cell_regrown c2 d os
    have v3 := fun d os => cell_regrown c3 d os
    have v4 := fun d os => cell_regrown c4 d os
    have v5 := fun d os => cell_regrown c5 d os
    have v6 := fun d os => cell_regrown c6 d os
    have v7 := fun d os => cell_regrown c7 d os
    have v8 := fun d os => cell_regrown c8 d os
    have v9 := fun d os => cell_regrown c9 d os
    refine wp_region_quiet_below (by kernel_rfl) (by kernel_rfl) ?_
    repeat (go_big_quiet_step (first
      | (go_at_call 4; with_reducible exact Calls.regrown_of (A.out _))
      | (go_at_call 5; with_reducible exact Calls.regrown_of (B.out _))))
    refine wpQuiet_nil ?_
    intro _ hw'
    obtain ⟨⟨dq, osq⟩, hw''⟩ := hw'
    subst hw''
    have hB3 := Lib.hid (hB.out.trans ((below_regrown _ dq osq).mono hB.out.size))
    dsimp only at *
    go_wp2_with fail
    go_ret
    exact ⟨by first | rfl | simp, hB3.out⟩
  · clear h1
    go_enter Try.func3, Try.ntmps3
    go_upto_region 1 with fail
    have c0 := row_cellN HN.out 0 _ rfl
    have c1 := row_cellN HN.out 1 _ rfl
    have c2 := row_cellN HN.out 2 _ rfl
    have c3 := row_cellN HN.out 3 _ rfl
    have c4 := row_cellN HN.out 4 _ rfl
    have c5 := row_cellN HN.out 5 _ rfl
    have c6 := row_cellN HN.out 6 _ rfl
    have c7 := row_cellN HN.out 7 _ rfl
    have c8 := row_cellN HN.out 8 _ rfl
    have c9 := row_cellN HN.out 9 _ rfl
    have v0 := fun d os => cell_regrown c0 d os
    have v1 := fun d os => cell_regrown c1 d os
    have v2 := fun d os => cell_regrown c2 d os
    have v3 := fun d os => cell_regrown c3 d os
    have v4 := fun d os => cell_regrown c4 d os
    have v5 := fun d os => cell_regrown c5 d os
    have v6 := fun d os => cell_regrown c6 d os
    have v7 := fun d os => cell_regrown c7 d os
    have v8 := fun d os => cell_regrown c8 d os
    have v9 := fun d os => cell_regrown c9 d os
    refine wp_region_quiet_below (by kernel_rfl) (by kernel_rfl) ?_
    repeat (go_big_quiet_step (first
      | (go_at_call 4; with_reducible exact Calls.regrown_of (A.out _))
      | (go_at_call 5; with_reducible exact Calls.regrown_of (B.out _))))
    refine wpQuiet_nil ?_
    intro _ hw'
    obtain ⟨⟨dq, osq⟩, hw''⟩ := hw'
    subst hw''
    have hB3 := Lib.hid (hB.out.trans ((below_regrown _ dq osq).mono hB.out.size))
    dsimp only at *
    go_wp2_with fail
    go_ret
    exact ⟨by first | rfl | simp, hB3.out⟩
end Go.Proofs.Ytnjcefmmdghbmaa
end
