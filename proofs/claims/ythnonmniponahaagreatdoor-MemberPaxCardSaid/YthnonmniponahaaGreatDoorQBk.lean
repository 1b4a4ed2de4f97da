/- Bk: what the texts of the name hold, joined. -/
import Derived.Test.YthnonmniponahaaGreatDoorQMg
set_option linter.unusedSimpArgs false
set_option linter.unusedVariables false
section
/- What is written is read again: members as lists of bytes; no run in it. -/
namespace Go.Proofs.YthnonmniponahaaGreatDoor
set_option linter.unusedVariables false

/-! ### Parts -/
/-! ### Headers -/
theorem full_named {d : Nat} {R : RawL} {n link : List UInt8} (h : (namedF d R n).2 = true) : fullL { (namedF d R n).1 with link := link } = n := by
  unfold namedF at h ⊢
  by_cases hd : d = 2 ∨ d = 4
  · rw [if_pos hd] at h ⊢
    unfold fullL
    dsimp only at h ⊢
    rcases halfF_is n with ⟨_, h1, h2, _⟩ | ⟨_, ⟨i, hi, _, h1, h2, _⟩ | ⟨_, _, _, h3⟩⟩
    · rw [h1, if_pos rfl, h2]
    · obtain ⟨i1, i2, i3, i4, i5⟩ := hi
      obtain ⟨hlt, hv⟩ := List.getElem?_eq_some_iff.1 i3
      rw [h1, h2, if_neg (fun hh => by have := congrArg List.length hh; rw [List.length_take, List.length_nil] at this; omega)]
      rw [← hv, ← List.drop_eq_getElem_cons hlt, List.take_append_drop]
    · rw [h3] at h; cases h
  · rw [if_neg hd]
    rfl
theorem whole_parts {d : Nat} {R : RawL} {n link data s : List UInt8} (h : wholeF d R n link data = (s, 0)) :
    ∃ q, (∃ f nm, q = { R with front := f, name := nm, link := link }) ∧ goodL d q ∧ fullL q = n ∧ s = writeL d q ++ fillL data := by
  unfold wholeF at h
  by_cases hc : (namedF d R n).2 = true ∧ goodL d { (namedF d R n).1 with link := link }
  · rw [if_pos hc] at h
    have hq : ∃ f nm, (namedF d R n).1 = { R with front := f, name := nm } := by
      unfold namedF
      split
      · exact ⟨_, _, rfl⟩
      · exact ⟨_, _, rfl⟩
    have hf := full_named (link := link) hc.1
    obtain ⟨f, nm, hq⟩ := hq
    rw [hq] at hc h hf
    simp only [Prod.mk.injEq, and_true] at h
    exact ⟨_, ⟨f, nm, rfl⟩, hc.2, hf, h.symm⟩
  · rw [if_neg hc] at h
    simp at h

/-! ### What is valid -/
theorem right_txt {e : EntL} (h : rightE e = true) : e.name ≠ [] ∧ txtOk e.name 120 = true ∧ txtOk e.link 120 = true ∧ txtOk e.user 32 = true ∧ txtOk e.group 32 = true := by
  unfold rightE rightT at h
  simp only [Bool.and_eq_true] at h
  exact ⟨by simpa using h.1.1, h.1.2.2.2⟩
theorem fitsI_iff {n m : Int} : fitsI n m = true ↔ 0 ≤ n ∧ n ≤ m := by unfold fitsI; simp
theorem right_num {e : EntL} (h : rightE e = true) : (0 ≤ e.mode ∧ e.mode ≤ 4095) ∧ (0 ≤ e.uid ∧ e.uid ≤ 1099511627775) ∧ (0 ≤ e.gid ∧ e.gid ≤ 1099511627775) ∧ St.rightB e.sec e.nano = true ∧ (0 ≤ e.major ∧ e.major ≤ devMost e.kind) ∧ (0 ≤ e.minor ∧ e.minor ≤ devMost e.kind) := by
  unfold rightE rightN at h
  simp only [Bool.and_eq_true, fitsI_iff] at h
  exact h.2.1
theorem dense_parts {e : EntL} (h : sparseE e = false) : e.map = [] ∧ (e.data.length : Int) = e.size := by
  unfold sparseE at h
  rw [Bool.or_eq_false_iff] at h
  exact ⟨List.eq_nil_of_length_eq_zero (by have := h.1; simp at this; simpa using this), by simpa using h.2⟩
theorem right_other {e : EntL} (h : rightE e = true) : e.kind ≠ 48 → e.size = 0 ∧ e.map = [] ∧ e.data = [] ∧ sparseE e = false := fun hk => by
  unfold rightE rightD at h
  rw [if_neg hk] at h
  simp only [Bool.and_eq_true] at h
  have h2 := h.2.2
  by_cases hk2 : 49 ≤ e.kind ∧ e.kind ≤ 54
  · rw [if_pos hk2] at h2
    simp only [Bool.and_eq_true, decide_eq_true_iff, Bool.not_eq_true'] at h2
    obtain ⟨h3, h4⟩ := h2
    obtain ⟨h5, h6⟩ := dense_parts h4
    exact ⟨h3, h5, List.eq_nil_of_length_eq_zero (by omega), h4⟩
  · rw [if_neg hk2] at h2
    cases h2
theorem right_kinds {e : EntL} (h : rightE e = true) : e.kind = 48 ∨ e.kind = 49 ∨ e.kind = 50 ∨ e.kind = 51 ∨ e.kind = 52 ∨ e.kind = 53 ∨ e.kind = 54 := by
  by_cases hk : e.kind = 48
  · exact .inl hk
  · right
    unfold rightE rightD at h
    rw [if_neg hk] at h
    simp only [Bool.and_eq_true] at h
    have h2 := h.2.2
    by_cases hk2 : 49 ≤ e.kind ∧ e.kind ≤ 54
    · obtain ⟨a, b⟩ := hk2
      rw [UInt8.le_iff_toNat_le] at a b
      have a' : 49 ≤ e.kind.toNat := a
      have b' : e.kind.toNat ≤ 54 := b
      have hc : e.kind.toNat = 49 ∨ e.kind.toNat = 50 ∨ e.kind.toNat = 51 ∨ e.kind.toNat = 52 ∨ e.kind.toNat = 53 ∨ e.kind.toNat = 54 := by omega
      exact hc.imp (fun x => UInt8.toNat_inj.1 x) (Or.imp (fun x => UInt8.toNat_inj.1 x) (Or.imp (fun x => UInt8.toNat_inj.1 x) (Or.imp (fun x => UInt8.toNat_inj.1 x) (Or.imp (fun x => UInt8.toNat_inj.1 x) (fun x => UInt8.toNat_inj.1 x)))))
    · rw [if_neg hk2] at h2
      cases h2
theorem right_file {e : EntL} (h : rightE e = true) (hk : e.kind = 48) : (0 ≤ e.size ∧ e.size ≤ 4000) ∧ (sparseE e = true → mapRight e.map e.size = true ∧ (e.data.length : Int) = sizeF 0 e.map) := by
  unfold rightE rightD at h
  rw [if_pos hk] at h
  simp only [Bool.and_eq_true, fitsI_iff] at h
  refine ⟨h.2.2.1, fun hs => ?_⟩
  have h2 := h.2.2.2
  rw [hs] at h2
  simpa using h2
/-! ### V7 and Ustar -/
end Go.Proofs.YthnonmniponahaaGreatDoor
end
