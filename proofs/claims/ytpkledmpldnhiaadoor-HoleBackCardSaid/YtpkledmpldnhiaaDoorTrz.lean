/- strings.Trim at a zero byte, strings.Repeat of it. -/
import Derived.Test.YtpkledmpldnhiaaDoorMk
import Derived.Test.YtpkledmpldnhiaaDoorShelf
import Derived.Shelf.Strings.Trim
namespace Go.Proofs.YtpkledmpldnhiaaDoor
open Go.RowKit Go.Joins
set_option linter.unusedVariables false

theorem dropW_nil (l : List UInt8) : l.dropWhile (· == 0) = [] ↔ l.any (· != 0) = false := by
  induction l with
  | nil => simp
  | cons c r ih =>
    rw [List.any_cons]
    by_cases h : c = 0
    · subst h
      rw [List.dropWhile_cons_of_pos (by simp), ih]
      simp
    · rw [List.dropWhile_cons_of_neg (by simpa using h)]
      simp [h]
theorem dropW_any (l : List UInt8) : (l.dropWhile (· == 0)).any (· != 0) = l.any (· != 0) := by
  induction l with
  | nil => rfl
  | cons c r ih =>
    by_cases h : c = 0
    · subst h
      rw [List.dropWhile_cons_of_pos (by simp), ih]
      simp
    · rw [List.dropWhile_cons_of_neg (by simpa using h)]
theorem trimB_nil (l : List UInt8) : Lib.trimB l 0 = [] ↔ l.any (· != 0) = false := by
  unfold Lib.trimB Lib.trimLeftB
  rw [dropW_nil]
  unfold Lib.trimRightB
  rw [List.any_reverse, dropW_any, List.any_reverse]
/-- strings.Trim(s, "\x00"): empty where all is zero. -/
theorem trimZ_any (l : List UInt8) (hl : l.length ≤ 1000000) : ∃ T : List UInt8, (T = [] ↔ l.any (· != 0) = false) ∧ ∀ w,
    Calls Tryd.prog 20 #[.string (mkS l), .string { data := #[0] }] w fun e w' => e = .returned (.string (mkS T)) ∧ Below w.heap.size w w' := by
  refine ⟨Lib.trimB l 0, trimB_nil l, fun w => ?_⟩
  have h := Tryd.strings_Trim_one (mkS l) 0 (by decide) w (by rw [mkS_size]; omega)
  rw [mkS_list] at h
  refine h.mono ?_
  rintro e w' ⟨rfl, rfl | rfl⟩
  · exact ⟨rfl, Below.refl _ _⟩
  · exact ⟨rfl, (Below.refl _ _).drew⟩
theorem repeatZ_any (n : Nat) (w : World) (h2 : n ≤ 1000000) :
    Calls Tryd.prog 26 #[.string { data := #[0] }, .int .i64 n] w fun e w' => e = .returned (.string (mkS (List.replicate n 0))) ∧ Below w.heap.size w w' := by
  have h := Tryd.strings_Repeat ⟨#[0]⟩ n w (by omega) (by show 1 * n ≤ _; omega)
  have e : (⟨(Lib.repeatL [0] n).toArray⟩ : ByteArray) = mkS (List.replicate n 0) := by
    have hc : ∀ m, Lib.repeatL [0] m = List.replicate m 0 := by
      intro m
      induction m with
      | zero => rfl
      | succ m ih => rw [Lib.repeatL, ih]; rfl
    unfold mkS
    rw [hc]
  rwa [e] at h
end Go.Proofs.YtpkledmpldnhiaaDoor
