/- The law PaxRights' walk: whether a record may be, the program's answer and the document's. -/
import Derived.Test.YtheiamidochooaaPr
import Derived.SizedLaws
namespace Go.Proofs.Ytheiamidochooaa
open Go.RowKit Go.Joins

set_option maxHeartbeats 1000000 in
theorem paxRights_walk (a : ByteArray) (wa : a.size ≤ reachBytes) (b : ByteArray) (wb : b.size ≤ reachBytes) (w : World) :
    Calls Try.prog 3 #[.agg #[.string a, .string b]] w fun e w' => e = .returned (.bool true) ∧ Below w.heap.size w w' := by
  obtain ⟨k, rfl⟩ : ∃ k, a = mkS k := ⟨_, (mkS_self a).symm⟩
  obtain ⟨v, rfl⟩ : ∃ v, b = mkS v := ⟨_, (mkS_self b).symm⟩
  have s1 := mkS_size k
  have s2 := mkS_size v
  rw [s1] at wa
  rw [s2] at wb
  have hr := reachBytes_lt
  have hb1 := below_alloc1 w (.cells #[.string (mkS k), .string (mkS v)] 23)
  have hc1 : (w.alloc (.cells #[.string (mkS k), .string (mkS v)] 23)).cell? ⟨w.heap.size, 0, none⟩ = some (.string (mkS k)) := by simp
  have hc2 : (w.alloc (.cells #[.string (mkS k), .string (mkS v)] 23)).cell? ⟨w.heap.size, 1, none⟩ = some (.string (mkS v)) := by simp
  have c1 := fun d os => cell_regrown hc1 d os
  have c2 := fun d os => cell_regrown hc2 d os
  have L1 : ∀ d os, Sem.run Try.prog (loadCellsFrom ⟨w.heap.size, 0, none⟩ 0 2 #[]) (Sort.grow (redrawn (w.alloc (.cells #[.string (mkS k), .string (mkS v)] 23)) d) os) = .ok #[.string (mkS k), .string (mkS v)] (Sort.grow (redrawn (w.alloc (.cells #[.string (mkS k), .string (mkS v)] 23)) d) os) := fun d os =>
    run_loadPair _ _ 0 (c1 d os) (c2 d os)
  have R1 := Lib.hid (fun (h : (k.length : Int) + (v.length : Int) ≤ 500) w => right_any k v (by omega) (by omega) w)
  have R2 := Lib.hid (fun (h : (k.length : Int) + (v.length : Int) ≤ 500) w => pairRight_any k v (by omega) (by omega) w)
  generalize hr : rightP k v = r at *
  clear hr hc1 hc2
  go_enter Try.func3, Try.ntmps3
  go_wp2
  generalize w.alloc (.cells #[.string (mkS k), .string (mkS v)] 23) = W at *
  by_cases h : (500 : Int) < (k.length : Int) + (v.length : Int)
  · refine wp_region_quiet_below (by kernel_rfl) (by kernel_rfl) ?_
    repeat (go_big_quiet_step (fail))
    refine wpQuiet_nil ?_
    intro _ hw'
    obtain ⟨⟨dq, osq⟩, hw''⟩ := hw'
    subst hw''
    go_wp2
    go_ret
    exact ⟨by simp, hb1.trans ((below_regrown _ dq osq).mono hb1.size)⟩
  · have h' : (k.length : Int) + (v.length : Int) ≤ 500 := by omega
    have hdec : decide ((500 : Int) < (k.length : Int) + (v.length : Int)) = false := decide_eq_false h
    clear h
    refine wp_region_quiet_below (by kernel_rfl) (by kernel_rfl) ?_
    repeat (go_big_quiet_step ((first
      | (go_at_call 6; with_reducible exact Calls.regrown_of (R1.out h' _))
      | (go_at_call 7; with_reducible exact Calls.regrown_of (R2.out h' _)))))
    refine wpQuiet_nil ?_
    intro _ hw'
    obtain ⟨⟨dq, osq⟩, hw''⟩ := hw'
    subst hw''
    go_wp2
    go_ret
    exact ⟨by simp, hb1.trans ((below_regrown _ dq osq).mono hb1.size)⟩
end Go.Proofs.Ytheiamidochooaa
