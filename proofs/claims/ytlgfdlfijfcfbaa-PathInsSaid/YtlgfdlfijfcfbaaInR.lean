/- The reference's In. -/
import Derived.Test.YtlgfdlfijfcfbaaIn
namespace Go.Proofs.Ytlgfdlfijfcfbaa
open Go.RowKit Go.Joins
set_option linter.unusedVariables false

set_option maxHeartbeats 1000000 in
theorem refIn_any (n d : List UInt8) (hn : n.length ≤ 140737488355328) (hd : d.length ≤ 140737488355328) (w : World) :
    Calls Try.prog 9 #[.string (mkS n), .string (mkS d)] w fun e w' => e = .returned (.bool (inB n d)) ∧ w = w' := by
  have e1 := sEq d []
  have hcat := fun w => mkS_cat2 d [47] (by simp; omega) w
  have hcat2 := fun w => mkS_cat2 n [47] (by simp; omega) w
  have C := Lib.hid (fun w => hasPrefix_mk (n ++ [47]) (d ++ [47]) w)
  have hlit : (⟨#[47]⟩ : ByteArray) = mkS [47] := rfl
  have hlit0 : (⟨#[]⟩ : ByteArray) = mkS [] := rfl
  have HB := Lib.hid (in_ref n d)
  by_cases h1 : d = []
  · subst h1
    rw [decide_eq_true rfl] at e1
    go_enter Try.func9, Try.ntmps9
    go_wp2
    go_ret
    exact ⟨by simp [inB], rfl⟩
  · rw [decide_eq_false h1] at e1
    have HB2 := Lib.hid (show inB n d = decide (d ++ [47] <+: n ++ [47]) by rw [HB.out]; simp [h1])
    clear h1 HB
    go_enter Try.func9, Try.ntmps9
    go_wp2_with (go_at_call 13; with_reducible refine (C.out _).mono ?_; rintro e w' ⟨rfl, rfl⟩)
    go_ret
    refine ⟨?_, rfl⟩
    rw [HB2.out]
    rfl
end Go.Proofs.Ytlgfdlfijfcfbaa
