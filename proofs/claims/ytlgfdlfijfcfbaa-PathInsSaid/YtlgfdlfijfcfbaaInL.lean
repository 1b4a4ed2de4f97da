/- The law PathIns' walk. -/
import Derived.Test.YtlgfdlfijfcfbaaInR
import Derived.SizedLaws
namespace Go.Proofs.Ytlgfdlfijfcfbaa
open Go.RowKit Go.Joins
set_option linter.unusedVariables false

set_option maxHeartbeats 1000000 in
theorem pathIns_walk (a : ByteArray) (za : a.size ≤ reachBytes) (b : ByteArray) (zb : b.size ≤ reachBytes) (w : World) :
    Calls Try.prog 4 #[.string a, .string b] w fun e w' => e = .returned (.bool true) ∧ Below w.heap.size w w' := by
  obtain ⟨n, rfl⟩ : ∃ k, a = mkS k := ⟨_, (mkS_self a).symm⟩
  obtain ⟨d, rfl⟩ : ∃ v, b = mkS v := ⟨_, (mkS_self b).symm⟩
  have s1 := mkS_size n
  have s2 := mkS_size d
  rw [s1] at za
  rw [s2] at zb
  have hr := reachBytes_lt
  have C1 := Lib.hid (fun w => in_any n d (by omega) w)
  have C2 := Lib.hid (fun w => refIn_any n d (by omega) (by omega) w)
  generalize inB n d = r at *
  by_cases h : (400 : Int) < (n.length : Int) + (d.length : Int)
  · go_enter Try.func4, Try.ntmps4
    go_wp2
    go_ret
    exact ⟨by simp, Below.refl _ _⟩
  · have hdec : decide ((400 : Int) < (n.length : Int) + (d.length : Int)) = false := decide_eq_false h
    clear h
    go_enter Try.func4, Try.ntmps4
    go_wp2_with (first
      | (go_at_call 8; with_reducible refine (C1.out _).mono ?_; rintro e w' ⟨rfl, rfl⟩)
      | (go_at_call 9; with_reducible refine (C2.out _).mono ?_; rintro e w' ⟨rfl, rfl⟩))
    go_ret
    exact ⟨by simp, Below.refl _ _⟩
end Go.Proofs.Ytlgfdlfijfcfbaa
