/- Em: what the texts of the name hold, joined. -/
import Derived.Test.YthnonmniponahaaEq
import Derived.Test.YthnonmniponahaaEl
section
/- The law MemberRights: its walk. -/
namespace Go.Proofs.Ythnonmniponahaa
open Go.RowKit Go.Joins
set_option linter.unusedVariables false
set_option linter.unusedSimpArgs false

set_option maxRecDepth 100000 in
set_option maxHeartbeats 4000000 in
theorem memberRights_walk (e : EntL) (ad : Option Addr) (cap : Nat) (ho : EntOk e) (w : World) (hM : PiecesAt w ad e.map) :
    Calls Try.prog 3 #[entV e (.slice ad e.map.length cap)] w fun r w' => r = .returned (.bool true) ∧ Below w.heap.size w w' := by
  obtain ⟨b, _, hl⟩ := large_law e ho ad cap
  have CL := Lib.hid hl
  have hdt := reach_fits ho.texts.2.2.2.2
  have HM := Lib.hid (fun W (h : Below w.heap.size w W) => hM.below h)
  have CA := Lib.hid (fun W (h : Below w.heap.size w W) => rightM_any e ad cap ho W (HM.out W h))
  have CB := Lib.hid (fun W (h : Below w.heap.size w W) => refRightE_any e ad cap ho W (HM.out W h))
  have CP := Lib.hid (fun w => sparse_any e ad cap hdt w)
  have CQ := Lib.hid (fun w => refSparse_any e ad cap hdt w)
  have hE := EntAt.new w e (.slice ad e.map.length cap) 26
  have hB := Lib.hid (below_alloc1 w (.cells (entC e (.slice ad e.map.length cap)) 26))
  clear ho hM hl hdt
  generalize rightE e = x at *
  generalize sparseE e = y at *
  unfold entC at hB hE
  unfold entV at CL CA CB CP CQ ⊢
  generalize e.map.length = n at *
  have hb2 := Lib.hid (fun d os => hB.out.trans ((below_regrown _ d os).mono hB.out.size))
  obtain ⟨c0, c1, c2, c3, c4, c5, c6, c7, c8, c9, c10, c11, c12, c13, c14⟩ := hE
  have v0 := fun d os => cell_regrown c0 d os
  have v1 := fun d os => cell_regrown c1 d os
  have v2 := fun d os => cell_regrown c2 d os
  have v3 := fun d os => cell_regrown c3 d os
  have v4 := fun d os => cell_regrown c4 d os
  have v5 := fun d os => cell_regrown c5 d os
  have v6 := fun d os => cell_regrown c6 d os
  have v7 := fun d os => cell_regrown c7 d os
  have v8 := fun d os => cell_regrown c8 d os
  have v9 := fun d os => cell_regrown c9 d os
  have v10 := fun d os => cell_regrown c10 d os
  have v11 := fun d os => cell_regrown c11 d os
  have v12 := fun d os => cell_regrown c12 d os
  have v13 := fun d os => cell_regrown c13 d os
  have v14 := fun d os => cell_regrown c14 d os
  clear c0 c1 c2 c3 c4 c5 c6 c7 c8 c9 c10 c11 c12 c13 c14
  go_enter Try.func3, Try.ntmps3
  go_wp2_with fail
  have e1 : (x == x) = true := by cases x <;> rfl
  have e2 : (y == y) = true := by cases y <;> rfl
  cases b
  all_goals
    refine wp_region_quiet_below (by kernel_rfl) (by kernel_rfl) ?_
    repeat (go_big_quiet_step (first
      | (go_at_call 4; with_reducible exact Calls.regrown_of (CL.out _))
      | (go_at_call 5; with_reducible exact Calls.regrown_of (CA.out _ (hb2.out _ _)))
      | (go_at_call 6; with_reducible exact Calls.regrown_of (CB.out _ (hb2.out _ _)))
      | (go_at_call 7; with_reducible exact Calls.regrown_of (CP.out _))
      | (go_at_call 8; with_reducible exact Calls.regrown_of (CQ.out _))))
    refine wpQuiet_nil ?_
    intro _ hw'
    obtain ⟨⟨dq, osq⟩, hw''⟩ := hw'
    subst hw''
    have hq := Lib.hid (hb2.out dq osq)
    dsimp only at *
    generalize Sort.grow (redrawn _ dq) osq = w2 at *
    go_wp2_with fail
    go_ret
    exact ⟨by first | rfl | simp, hq.out⟩
end Go.Proofs.Ythnonmniponahaa
end
