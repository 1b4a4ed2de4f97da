/- path.In: what lies in a directory. -/
import Derived.Test.YtlgfdlfijfcfbaaDoorShelf
import Derived.Test.YtlgfdlfijfcfbaaDoorMk
import Derived.Test.YtlgfdlfijfcfbaaDoorPn
namespace Go.Proofs.YtlgfdlfijfcfbaaDoor
open Go.RowKit Go.Joins
set_option linter.unusedVariables false

theorem hasPrefix_mk (l p : List UInt8) (w : World) :
    Calls Tryd.prog 39 #[.string (mkS l), .string (mkS p)] w fun e w' => e = .returned (.bool (decide (p <+: l))) ∧ w = w' := by
  have h := Tryd.strings_HasPrefix (mkS l) (mkS p) w
  rw [mkS_list, mkS_list] at h
  refine h.mono fun e w' ⟨he, hw⟩ => ⟨?_, hw.symm⟩
  rw [he]
  congr 2
  have : Lib.hasPrefix l p = p.isPrefixOf l := rfl
  rw [this, Bool.eq_iff_iff, List.isPrefixOf_iff_prefix, decide_eq_true_eq]
theorem sEq (x y : List UInt8) : ((mkS x).toList == (mkS y).toList) = decide (x = y) := by
  rw [ByteArray.toList_eq, ByteArray.toList_eq, mkS_list, mkS_list]
  by_cases h : x = y <;> simp [h]
theorem sLit (s : ByteArray) (y : List UInt8) (h : s = mkS y) : s.toList = (mkS y).toList := by rw [h]

set_option maxHeartbeats 1000000 in
theorem in_any (n d : List UInt8) (hd : d.length ≤ 140737488355328) (w : World) :
    Calls Tryd.prog 29 #[.string (mkS n), .string (mkS d)] w fun e w' => e = .returned (.bool (inB n d)) ∧ w = w' := by
  have e1 := sEq d []
  have e2 := sEq n d
  have hcat := fun w => mkS_cat2 d [47] (by simp; omega) w
  have C := Lib.hid (fun w => hasPrefix_mk n (d ++ [47]) w)
  have hlit : (⟨#[47]⟩ : ByteArray) = mkS [47] := rfl
  have hlit0 : (⟨#[]⟩ : ByteArray) = mkS [] := rfl
  by_cases h1 : d = []
  · subst h1
    rw [decide_eq_true rfl] at e1
    go_enter Tryd.func29, Tryd.ntmps29
    go_wp2
    go_ret
    exact ⟨by simp [inB], rfl⟩
  · rw [decide_eq_false h1] at e1
    by_cases h2 : n = d
    · subst h2
      go_enter Tryd.func29, Tryd.ntmps29
      go_wp2
      go_ret
      exact ⟨by simp [inB], rfl⟩
    · rw [decide_eq_false h2] at e2
      have HB : Hid (inB n d = decide (d ++ [47] <+: n)) := by
        refine Lib.hid ?_
        unfold inB
        simp [h1, h2]
      clear h1 h2
      go_enter Tryd.func29, Tryd.ntmps29
      go_wp2_with (go_at_call 39; with_reducible refine (C.out _).mono ?_; rintro e w' ⟨rfl, rfl⟩)
      go_ret
      refine ⟨?_, rfl⟩
      rw [HB.out]
      rfl
end Go.Proofs.YtlgfdlfijfcfbaaDoor
