/- Numbers as a header's writer gives them: Wr at the fields' widths. -/
import Derived.Test.YtapfkjdkpcgoiaaDoorHd
import Derived.Test.YtapfkjdkpcgoiaaDoorWr
import Derived.Test.YtapfkjdkpcgoiaaDoorKeepN
namespace Go.Proofs.YtapfkjdkpcgoiaaDoor
open Go.RowKit Go.Joins
set_option linter.unusedVariables false

theorem str_mk (xs : List Int) : strOfNums xs = mkS (xs.map u8) := by rw [← mkS_self (strOfNums xs), strOf_list]
theorem wr_ok {n : Int} {W : Nat} {b : Bool} (hW : W = 8 ∨ W = 12) (h : numOk n W b = true) : Wr n W b 0 (mkS (numG n W b)) := by
  unfold numG
  by_cases ho : octOk n W = true
  · rw [if_pos ho, ← str_mk]
    unfold octOk at ho
    rw [Bool.and_eq_true, decide_eq_true_iff, decide_eq_true_iff] at ho
    exact .oct n W b (by omega) (by omega) ho.1 ((mostF_lt n W (by omega) (by omega) ho.1).2 ho.2)
  · unfold numOk at h
    rw [Bool.eq_false_iff.2 ho, Bool.false_or] at h
    rw [if_neg ho, if_pos h, ← str_mk]
    unfold binOk at h
    rw [Bool.and_eq_true, Bool.and_eq_true, decide_eq_true_iff, Bool.or_eq_true, decide_eq_true_iff, Bool.and_eq_true, decide_eq_true_iff, decide_eq_true_iff] at h
    obtain ⟨rfl, h1, h2⟩ := h
    refine .bin n W h1 (by omega) ?_ fun h8 => ?_
    · by_cases hn : n < 0
      · exact Or.inl hn
      · right
        rcases Int.lt_or_le (mostF W) n with h3 | h3
        · exact h3
        · exact absurd (by unfold octOk; rw [Bool.and_eq_true, decide_eq_true_iff, decide_eq_true_iff]; exact ⟨by omega, (mostF_lt n W (by omega) (by omega) (by omega)).1 h3⟩) ho
    · rcases h2 with h2 | h2
      · exact absurd h8 h2
      · exact h2
theorem wr_no {n : Int} {W : Nat} {b : Bool} (hW : W = 8 ∨ W = 12) (h : ¬ numOk n W b = true) : Wr n W b 2 ByteArray.empty := by
  unfold numOk at h
  rw [Bool.or_eq_true, not_or] at h
  obtain ⟨ho, hb⟩ := h
  have hr : n < 0 ∨ mostF W < n := by
    by_cases hn : n < 0
    · exact Or.inl hn
    · right
      rcases Int.lt_or_le (mostF W) n with h3 | h3
      · exact h3
      · exact absurd (by unfold octOk; rw [Bool.and_eq_true, decide_eq_true_iff, decide_eq_true_iff]; exact ⟨by omega, (mostF_lt n W (by omega) (by omega) (by omega)).1 h3⟩) ho
  by_cases hbb : b = false
  · exact .no n W b (by omega) (by omega) hr (Or.inl hbb)
  · have hbt : b = true := by cases b <;> simp_all
    subst hbt
    unfold binOk at hb
    rw [Bool.and_eq_true, Bool.and_eq_true, decide_eq_true_iff, Bool.or_eq_true, decide_eq_true_iff, Bool.and_eq_true, decide_eq_true_iff, decide_eq_true_iff] at hb
    rcases hW with rfl | rfl
    · exact .range n (by
        rcases Int.lt_or_le n (-36028797018963968) with h3 | h3
        · exact Or.inl h3
        · rcases Int.lt_or_le 36028797018963967 n with h4 | h4
          · exact Or.inr h4
          · exact absurd ⟨rfl, by omega, Or.inr ⟨h3, h4⟩⟩ hb)
    · exact absurd ⟨rfl, by omega, Or.inl (by omega)⟩ hb
end Go.Proofs.YtapfkjdkpcgoiaaDoor
