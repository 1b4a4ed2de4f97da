/- The law GlobRights' walk. -/
import Derived.Test.YtcdoiadmnckccaaGis
import Derived.Test.YtcdoiadmnckccaaRig
namespace Go.Proofs.Ytcdoiadmnckccaa
set_option linter.unusedVariables false
set_option linter.unusedSimpArgs false
open Go.RowKit Go.Joins
set_option maxRecDepth 100000
set_option maxHeartbeats 1000000 in
theorem globRights_walk (a0 : ByteArray) (z0 : a0.size ≤ reachBytes) (w : World) :
    Calls Try.prog 3 #[.string a0] w fun e w' => e = .returned (.bool true) ∧ Below w.heap.size w w' := by
  obtain ⟨l, rfl⟩ : ∃ l, a0 = mkS l := ⟨a0.data.toList, (mkS_self a0).symm⟩
  have hsz := mkS_size l
  rw [hsz] at z0
  unfold reachBytes at z0
  by_cases h : l.length ≤ 130
  · have hz : decide ((130 : Int) < ((mkS l).size : Int)) = false := decide_eq_false (by rw [hsz]; omega)
    have hy : decide (((mkS l).size : Int) ≤ 120) = decide (l.length ≤ 120) := by
      rw [hsz]
      by_cases h2 : l.length ≤ 120
      · rw [decide_eq_true h2, decide_eq_true (by omega)]
      · rw [decide_eq_false h2, decide_eq_false (by omega)]
    have R1 := Lib.hid (fun w => right_any l w (by omega))
    have R2 := Lib.hid (fun w => globIs_any l (by omega) w)
    generalize (patL l).isSome = p at *
    generalize decide (l.length ≤ 120) = q at *
    clear hsz h z0
    generalize mkS l = S at *
    cases p <;> cases q <;> (
      go_enter Try.func3, Try.ntmps3
      go_wp2_with (first
        | (go_at_call 10; with_reducible refine (R1.out _).mono ?_; rintro e w1 ⟨rfl, hb1⟩)
        | (go_at_call 11; with_reducible refine (R2.out _).mono ?_; rintro e w2 ⟨rfl, hb2⟩))
      go_ret
      exact ⟨by first | rfl | simp, hb1.trans (hb2.mono hb1.size)⟩)
  · have hz : decide ((130 : Int) < ((mkS l).size : Int)) = true := decide_eq_true (by rw [hsz]; omega)
    clear hsz h z0
    generalize mkS l = S at *
    go_enter Try.func3, Try.ntmps3
    go_wp2
    go_ret
    exact ⟨rfl, Below.refl _ _⟩
end Go.Proofs.Ytcdoiadmnckccaa
