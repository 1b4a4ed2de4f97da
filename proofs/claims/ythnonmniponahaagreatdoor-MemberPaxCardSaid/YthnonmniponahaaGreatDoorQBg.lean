/- Bg: what the texts of the name hold, joined. -/
import Derived.Test.YthnonmniponahaaGreatDoorQBk
import Derived.Test.YthnonmniponahaaGreatDoorQGu
set_option linter.unusedSimpArgs false
set_option linter.unusedVariables false
section
/- What is written is read again: Gnu's long texts and pieces; no run in it. -/
namespace Go.Proofs.YthnonmniponahaaGreatDoor
set_option linter.unusedVariables false

/-! ### Long texts -/
/-! ### Pieces -/
def Dense (l : List Pc) : Prop := ∀ q ∈ l, (0 ≤ q.1 ∧ q.1 ≤ 8589934591) ∧ (1 ≤ q.2 ∧ q.2 ≤ 8589934591)
theorem rightF_dense {size : Int} (hs : size ≤ 8589934591) : ∀ (l : List Pc) (e : Int), -1 ≤ e → rightF size e l = true → Dense l
  | [], _, _, _ => fun q h => by cases h
  | p :: l, e, he, h => by
    unfold rightF at h
    simp only [Bool.and_eq_true, decide_eq_true_iff] at h
    obtain ⟨h1, h2, h3, h4⟩ := h
    intro q hq
    rcases List.mem_cons.1 hq with rfl | hq
    · omega
    · exact rightF_dense hs l (p.1 + p.2) (by omega) h4 q hq
theorem mapRight_parts {l : List Pc} {size : Int} (hs : size ≤ 8589934591) (h : mapRight l size = true) : l.length ≤ 20 ∧ Dense l := by
  unfold mapRight at h
  simp only [Bool.and_eq_true, decide_eq_true_iff] at h
  exact ⟨h.2.1, rightF_dense hs l (-1) (by omega) h.2.2⟩

/-! ### A header with pieces -/
/-! ### Gnu -/
end Go.Proofs.YthnonmniponahaaGreatDoor
end
