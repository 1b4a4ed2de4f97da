/- The law PathUps' walk. -/
import Derived.Test.YtlgfdlfijfcfbaaUpR
import Derived.SizedLaws
namespace Go.Proofs.Ytlgfdlfijfcfbaa
open Go.RowKit Go.Joins
set_option linter.unusedVariables false

set_option maxHeartbeats 1000000 in
theorem pathUps_walk (a : ByteArray) (za : a.size ≤ reachBytes) (w : World) :
    Calls Try.prog 3 #[.string a] w fun e w' => e = .returned (.bool true) ∧ Below w.heap.size w w' := by
  obtain ⟨l, rfl⟩ : ∃ k, a = mkS k := ⟨_, (mkS_self a).symm⟩
  have s1 := mkS_size l
  rw [s1] at za
  have hr := reachBytes_lt
  by_cases h : (200 : Int) < (l.length : Int)
  · go_enter Try.func3, Try.ntmps3
    go_wp2
    go_ret
    exact ⟨rfl, Below.refl _ _⟩
  · have C1 := Lib.hid (fun w => up_any l (by omega) w)
    have C2 := Lib.hid (fun w => refUp_any l (by omega) w)
    generalize (upL l).1 = x at *
    generalize (upL l).2 = y at *
    go_enter Try.func3, Try.ntmps3
    go_wp2_with (first
      | (go_at_call 7; with_reducible refine (C1.out _).mono ?_; rintro e w1 ⟨rfl, h1⟩)
      | (go_at_call 6; with_reducible refine (C2.out _).mono ?_; rintro e w2 ⟨rfl, h2⟩))
    go_ret
    exact ⟨by simp, h2.trans (h1.mono h2.size)⟩
end Go.Proofs.Ytlgfdlfijfcfbaa
