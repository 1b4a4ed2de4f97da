/- Merge and Get, as lists. -/
import Derived.Test.YtheiamidochooaaDoorMrg
import Derived.Test.YtheiamidochooaaDoorGet
namespace Go.Proofs.YtheiamidochooaaDoor
open Go.RowKit Go.Joins
set_option linter.unusedVariables false

theorem getL_snoc (l : List Pr) (p : Pr) (key : List UInt8) : getL (l ++ [p]) key = if p.1 = key then p.2 else getL l key := by
  unfold getL; rw [List.foldl_append]; rfl
theorem getL_last : ∀ (n : Nat) (l : List Pr), l.length ≤ n → ∀ key, (lastOf l key = none → getL l key = []) ∧ ∀ p, lastOf l key = some p → getL l key = p.2
  | 0, l, hn, key => by
    obtain rfl := List.length_eq_zero_iff.1 (Nat.le_zero.1 hn)
    exact ⟨fun _ => rfl, fun p h => (by cases h)⟩
  | n + 1, l, hn, key => by
    rcases List.eq_nil_or_concat l with rfl | ⟨L, b, rfl⟩
    · exact ⟨fun _ => rfl, fun p h => (by cases h)⟩
    · rw [List.concat_eq_append] at hn ⊢
      rw [List.length_append] at hn
      obtain ⟨h1, h2⟩ := getL_last n L (by simp at hn; omega) key
      rw [lastOf_snoc, getL_snoc]
      by_cases e : b.1 = key
      · rw [if_pos e, if_pos e]
        exact ⟨fun h => (by cases h), fun p h => (by cases h; rfl)⟩
      · rw [if_neg e, if_neg e]
        exact ⟨h1, h2⟩
theorem getL_of_none {l : List Pr} {key : List UInt8} (h : lastOf l key = none) : getL l key = [] := (getL_last l.length l (Nat.le_refl _) key).1 h
theorem getL_of_some {l : List Pr} {key : List UInt8} {p : Pr} (h : lastOf l key = some p) : getL l key = p.2 := (getL_last l.length l (Nat.le_refl _) key).2 p h
/-- What is asked of a merge is what is asked of the lists. -/
theorem getL_merged {M l : List Pr} (h : MergedOf M l) (key : List UInt8) : getL M key = getL l key := by
  cases hl : lastOf l key with
  | none =>
    rw [getL_of_none hl]
    cases hm : lastOf M key with
    | none => exact getL_of_none hm
    | some q =>
      have h1 := ((h.2 q).1 (lastOf_mem hm).1).1
      rw [(lastOf_mem hm).2, hl] at h1
      cases h1
  | some p =>
    rw [getL_of_some hl]
    have hp1 := (lastOf_mem hl).2
    by_cases he : p.2 = []
    · cases hm : lastOf M key with
      | none => rw [he]; exact getL_of_none hm
      | some q =>
        have h1 := (h.2 q).1 (lastOf_mem hm).1
        rw [(lastOf_mem hm).2, hl] at h1
        have := h1.1
        cases this
        exact absurd he h1.2
    · have hM : p ∈ M := (h.2 p).2 ⟨by rw [hp1]; exact hl, he⟩
      have h2 := (rising_last h.1 p).1 hM
      rw [hp1] at h2
      exact getL_of_some h2
/-- A merge contains a key with its value where it has one. -/
theorem mem_merged {M l : List Pr} (h : MergedOf M l) (key : List UInt8) : (key, getL l key) ∈ M ↔ getL l key ≠ [] := by
  constructor
  · exact fun hm => ((h.2 _).1 hm).2
  · intro hv
    cases hl : lastOf l key with
    | none => exact absurd (getL_of_none hl) hv
    | some p =>
      have e1 := getL_of_some hl
      have e2 := lastOf_pair l key hl
      rw [e1] at hv ⊢
      rw [← e2]
      exact (h.2 p).2 ⟨by rw [(lastOf_mem hl).2]; exact hl, hv⟩
theorem getL_append (a b : List Pr) (key : List UInt8) : getL (a ++ b) key = if (b.any fun p => p.1 == key) = true then getL b key else getL a key := by
  cases hb : lastOf b key with
  | none =>
    have h0 : (b.any fun p => p.1 == key) = false := by
      rw [List.any_eq_false]
      intro p hp
      have := lastOf_none.1 hb p hp
      simpa using this
    rw [h0, if_neg (by simp)]
    have hab : lastOf (a ++ b) key = lastOf a key := by rw [lastOf_append, hb]; rfl
    cases ha : lastOf a key with
    | none => rw [getL_of_none (hab.trans ha), getL_of_none ha]
    | some p => rw [getL_of_some (hab.trans ha), getL_of_some ha]
  | some p =>
    have h0 : (b.any fun p => p.1 == key) = true := List.any_eq_true.2 ⟨p, (lastOf_mem hb).1, by simp [(lastOf_mem hb).2]⟩
    rw [h0, if_pos rfl]
    have hab : lastOf (a ++ b) key = some p := by rw [lastOf_append, hb]; rfl
    rw [getL_of_some hab, getL_of_some hb]
/-- Where no key is of both, either order merges to the same. -/
theorem merged_apart {M M' A B : List Pr} (h : MergedOf M (A ++ B)) (h' : MergedOf M' (B ++ A)) (hn : (A.any fun p => B.any fun q => p.1 == q.1) = false) : M' = M := by
  refine (h.unique h' fun k v hv => ?_).symm
  rw [lastOf_apart A B fun p hp q hq e => ?_]
  rw [List.any_eq_false] at hn
  have h1 := hn p hp
  rw [Bool.not_eq_true, List.any_eq_false] at h1
  exact h1 q hq (by simp [e])
end Go.Proofs.YtheiamidochooaaDoor
