/- strings.Cut at a zero byte. -/
import Derived.Test.YtapfkjdkpcgoiaaDoorMk
import Derived.Test.YtapfkjdkpcgoiaaDoorHd
import Derived.Test.YtapfkjdkpcgoiaaDoorShelf
import Derived.Lib.IndexLaws
namespace Go.Proofs.YtapfkjdkpcgoiaaDoor
open Go.RowKit Go.Joins
set_option linter.unusedVariables false
set_option linter.unusedSimpArgs false
theorem index_cutZ : ∀ l : List UInt8, (Lib.indexByte l 0 = -1 ∧ cutZ l = l) ∨ ∃ i : Nat, i < l.length ∧ Lib.indexByte l 0 = i ∧ cutZ l = l.take i
  | [] => Or.inl ⟨rfl, rfl⟩
  | c :: r => by
    unfold cutZ
    by_cases h : c = 0
    · subst h
      exact Or.inr ⟨0, by simp, by simp [Lib.indexByte], by simp⟩
    · have h1 : (c == 0) = false := by simpa using h
      rw [List.takeWhile_cons_of_pos (by simpa using h)]
      rcases index_cutZ r with ⟨h2, h3⟩ | ⟨i, hi, h2, h3⟩
      · left
        unfold cutZ at h3
        exact ⟨by simp [Lib.indexByte, h1, h2], by rw [h3]⟩
      · right
        unfold cutZ at h3
        refine ⟨i + 1, by simp; omega, ?_, by rw [h3]; rfl⟩
        have h4 : (Lib.indexByte r 0 == -1) = false := by rw [h2, beq_eq_false_iff_ne]; omega
        rw [Lib.indexByte, h1]
        simp [h4, h2]
def CutIs (l : List UInt8) (w : World) (e : Ending) (w' : World) : Prop := ∃ t b, e = .returned (.tuple #[.string (mkS (cutZ l)), .string t, .bool b]) ∧ Below w.heap.size w w'
set_option maxHeartbeats 2000000 in
theorem slCut_any (l : List UInt8) (hl : l.length ≤ 1000000) (w : World) :
    Calls Tryd.prog 54 #[.string (mkS l), .string { data := #[0] }] w (CutIs l w) := by
  have s1 := mkS_size l
  have ix := Tryd.stringslite_Index_one (mkS l) 0
  rw [mkS_list] at ix
  rcases index_cutZ l with ⟨h2, h3⟩ | ⟨i, hi, h2, h3⟩
  · rw [h2] at ix
    have IX := Lib.hid ix
    have H := Lib.hid h3
    clear ix h2 h3
    go_enter Tryd.func54, Tryd.ntmps54
    go_wp2_with (go_at_call 63; (with_reducible refine (IX.out _).mono ?_); rintro e w' ⟨rfl, hw⟩; replace hw := hw.symm; subst hw)
    go_ret3
    exact ⟨⟨#[]⟩, false, by rw [H.out]; rfl, Below.refl _ _⟩
  · rw [h2] at ix
    have IX := Lib.hid ix
    have H := Lib.hid h3
    have u1 := fun w => mkS_upto l i (by omega) w
    have u2 := fun w => mkS_onward l (i + 1) (by omega) w
    simp only [Int.natCast_add, Int.natCast_one] at u2
    clear ix h2 h3
    go_enter Tryd.func54, Tryd.ntmps54
    go_wp2_with (go_at_call 63; (with_reducible refine (IX.out _).mono ?_); rintro e w' ⟨rfl, hw⟩; replace hw := hw.symm; subst hw)
    go_quiet (fail)
    go_wp2
    go_ret3
    exact ⟨_, true, by rw [H.out]; rfl, (Below.refl _ _).trans ⟨rfl, rfl, rfl, Nat.le_refl _, fun _ _ => rfl⟩⟩
theorem cut_any (l : List UInt8) (hl : l.length ≤ 1000000) (w : World) :
    Calls Tryd.prog 37 #[.string (mkS l), .string { data := #[0] }] w (CutIs l w) := by
  have C := Lib.hid (slCut_any l hl)
  go_enter Tryd.func37, Tryd.ntmps37
  go_wp2_with (go_at_call 54; (with_reducible refine (C.out _).mono ?_); rintro e w1 ⟨t, b, rfl, h1⟩)
  go_ret3
  exact ⟨t, b, rfl, h1⟩
end Go.Proofs.YtapfkjdkpcgoiaaDoor
