/- What Merge makes of pairs, as lists. -/
import Derived.Test.YtheiamidochooaaMap
namespace Go.Proofs.Ytheiamidochooaa
open Go.RowKit Go.Joins Go.Maps
set_option linter.unusedVariables false

theorem keyLt_irrefl (a : List UInt8) : ¬ a < a := List.lt_irrefl a
theorem keyLt_asymm {a b : List UInt8} (h : a < b) : ¬ b < a := List.lt_asymm h
theorem keyLt_trans {a b c : List UInt8} (h : a < b) (h' : b < c) : a < c := List.lt_trans h h'

/-- A list whose keys ascend. -/
def Rising (M : List (List UInt8 × List UInt8)) : Prop := M.Pairwise fun p q => p.1 < q.1
theorem rising_ext : ∀ (A B : List (List UInt8 × List UInt8)), Rising A → Rising B → (∀ p, p ∈ A ↔ p ∈ B) → A = B
  | [], [], _, _, _ => rfl
  | [], b :: B, _, _, h => by have := (h b).2 (List.mem_cons_self ..); cases this
  | a :: A, [], _, _, h => by have := (h a).1 (List.mem_cons_self ..); cases this
  | a :: A, b :: B, hA, hB, h => by
    obtain ⟨a1, a2⟩ := List.pairwise_cons.1 hA
    obtain ⟨b1, b2⟩ := List.pairwise_cons.1 hB
    have e : a = b := by
      rcases List.mem_cons.1 ((h a).1 (List.mem_cons_self ..)) with e | hab
      · exact e
      · rcases List.mem_cons.1 ((h b).2 (List.mem_cons_self ..)) with e | hba
        · exact e.symm
        · exact absurd (a1 b hba) (keyLt_asymm (b1 a hab))
    subst e
    rw [rising_ext A B a2 b2 fun p => ⟨fun hp => ?_, fun hp => ?_⟩]
    · rcases List.mem_cons.1 ((h p).1 (List.mem_cons_of_mem _ hp)) with e | h'
      · subst e; exact absurd (a1 _ hp) (keyLt_irrefl _)
      · exact h'
    · rcases List.mem_cons.1 ((h p).2 (List.mem_cons_of_mem _ hp)) with e | h'
      · subst e; exact absurd (b1 _ hp) (keyLt_irrefl _)
      · exact h'

/-- Merge of l: of each key the last pair, if it has a value; the keys ascend. -/
def MergedOf (M l : List (List UInt8 × List UInt8)) : Prop := Rising M ∧ ∀ p, p ∈ M ↔ lastOf l p.1 = some p ∧ p.2 ≠ []
theorem MergedOf.unique {M M' l l' : List (List UInt8 × List UInt8)} (h : MergedOf M l) (h' : MergedOf M' l') (he : ∀ k v, v ≠ [] → (lastOf l k = some (k, v) ↔ lastOf l' k = some (k, v))) : M = M' :=
  rising_ext M M' h.1 h'.1 fun p => by
    rw [h.2, h'.2]
    constructor
    · rintro ⟨h1, h2⟩; exact ⟨(he p.1 p.2 h2).1 h1, h2⟩
    · rintro ⟨h1, h2⟩; exact ⟨(he p.1 p.2 h2).2 h1, h2⟩
theorem lastOf_mem {l : List (List UInt8 × List UInt8)} {k : List UInt8} {p : List UInt8 × List UInt8} (h : lastOf l k = some p) : p ∈ l ∧ p.1 = k := by
  unfold lastOf at h
  exact ⟨List.mem_reverse.1 (List.mem_of_find?_eq_some h), by simpa using List.find?_some h⟩
theorem rising_one : ∀ (M : List (List UInt8 × List UInt8)), Rising M → ∀ a b, a ∈ M → b ∈ M → a.1 = b.1 → a = b
  | c :: M, h, a, b, ha, hb, e => by
    obtain ⟨h1, h2⟩ := List.pairwise_cons.1 h
    rcases List.mem_cons.1 ha with ea | ha'
    · rcases List.mem_cons.1 hb with eb | hb'
      · rw [ea, eb]
      · have := h1 b hb'
        rw [← ea, e] at this
        exact absurd this (keyLt_irrefl _)
    · rcases List.mem_cons.1 hb with eb | hb'
      · have := h1 a ha'
        rw [← eb, e] at this
        exact absurd this (keyLt_irrefl _)
      · exact rising_one M h2 a b ha' hb' e
theorem rising_last {M : List (List UInt8 × List UInt8)} (h : Rising M) (p : List UInt8 × List UInt8) : p ∈ M ↔ lastOf M p.1 = some p := by
  constructor
  · intro hp
    cases hl : lastOf M p.1 with
    | none =>
      unfold lastOf at hl
      rw [List.find?_eq_none] at hl
      exact absurd (by simp) (hl p (List.mem_reverse.2 hp))
    | some q =>
      obtain ⟨h1, h2⟩ := lastOf_mem hl
      congr 1
      by_cases e : q = p
      · exact e
      · exact absurd (rising_one M h q p h1 hp h2) e
  · intro hl; exact (lastOf_mem hl).1
theorem lastOf_pair (l : List (List UInt8 × List UInt8)) (k : List UInt8) {p : List UInt8 × List UInt8} (h : lastOf l k = some p) : p = (k, p.2) := by
  have := (lastOf_mem h).2
  exact Prod.ext this rfl
/-- What is merged, merged again. -/
theorem MergedOf.idem {M M' l : List (List UInt8 × List UInt8)} (h : MergedOf M l) (h' : MergedOf M' M) : M' = M := by
  refine rising_ext M' M h'.1 h.1 fun p => ?_
  rw [h'.2, ← rising_last h.1]
  constructor
  · exact fun ⟨h1, _⟩ => h1
  · exact fun h1 => ⟨h1, ((h.2 p).1 h1).2⟩

theorem tells_nil : Tells (.map []) [] := fun k => ⟨fun _ => rfl, fun p h => by cases h⟩
theorem tells_put {D : DataW Unit} {l : List (List UInt8 × List UInt8)} (hD : IsMap D) (h : Tells D l) (p : List UInt8 × List UInt8) : Tells (D.put (.string p.1) (prU p)) (l ++ [p]) := fun k => by
  have hk : WideAt.IsKeyLit (.string p.1) := by simp [WideAt.IsKeyLit]
  rw [lastOf_snoc]
  by_cases e : p.1 = k
  · subst e
    rw [if_pos rfl]
    refine ⟨fun h => (by cases h), fun q hq => ?_⟩
    cases hq
    exact ⟨has_put_same hD hk _, fun z => atKey_put_same hD hk _ z⟩
  · rw [if_neg e]
    have hne : (Lit.string k) ≠ .string p.1 := fun h => by injection h with h; exact e h.symm
    obtain ⟨h1, h2⟩ := h k
    refine ⟨fun hn => by rw [has_put_other hne]; exact h1 hn, fun q hq => ?_⟩
    obtain ⟨h3, h4⟩ := h2 q hq
    exact ⟨by rw [has_put_other hne]; exact h3, fun z => by rw [atKey_put_other hne]; exact h4 z⟩

/-- Later pairs count before earlier ones. -/
theorem lastOf_append (a b : List (List UInt8 × List UInt8)) (k : List UInt8) : lastOf (a ++ b) k = (lastOf b k).or (lastOf a k) := by
  unfold lastOf
  rw [List.reverse_append, List.find?_append]
theorem lastOf_none {l : List (List UInt8 × List UInt8)} {k : List UInt8} : lastOf l k = none ↔ ∀ p ∈ l, p.1 ≠ k := by
  unfold lastOf
  rw [List.find?_eq_none]
  simp
/-- Where no key is of both, the order does not matter. -/
theorem lastOf_apart (a b : List (List UInt8 × List UInt8)) (h : ∀ p ∈ a, ∀ q ∈ b, p.1 ≠ q.1) (k : List UInt8) : lastOf (a ++ b) k = lastOf (b ++ a) k := by
  rw [lastOf_append, lastOf_append]
  cases ha : lastOf a k with
  | none => simp
  | some p =>
    cases hb : lastOf b k with
    | none => simp
    | some q =>
      obtain ⟨a1, a2⟩ := lastOf_mem ha
      obtain ⟨b1, b2⟩ := lastOf_mem hb
      exact absurd (a2.trans b2.symm) (h p a1 q b1)
end Go.Proofs.Ytheiamidochooaa
