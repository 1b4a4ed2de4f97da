/- What the reference's Merge takes: of each key the last pair, if it has a value. -/
import Derived.Test.YtheiamidochooaaMrg
import Derived.Test.YtheiamidochooaaCat
namespace Go.Proofs.Ytheiamidochooaa
open Go.RowKit Go.Joins
set_option linter.unusedVariables false

/-- No pair of l has this key. -/
def allNe (k : List UInt8) (l : List Pr) : Bool := l.all fun q => !decide (q.1 = k)
theorem allNe_true (k : List UInt8) (l : List Pr) : allNe k l = true ↔ ∀ q ∈ l, q.1 ≠ k := by simp [allNe]
theorem allNe_take (k : List UInt8) (l : List Pr) (j : Nat) (q : Pr) (h : l[j]? = some q) : allNe k (l.take (j + 1)) = (allNe k (l.take j) && !decide (q.1 = k)) := by
  unfold allNe
  rw [List.take_add_one, h, List.all_append]
  simp
theorem allNe_last (k : List UInt8) (l : List Pr) : allNe k l = true ↔ lastOf l k = none := (allNe_true k l).trans lastOf_none.symm

def lasts : List Pr → List Pr
  | [] => []
  | p :: l => if allNe p.1 l && !p.2.isEmpty then p :: lasts l else lasts l
theorem lasts_drop_in (L : List Pr) (i : Nat) (p : Pr) (h : L[i]? = some p) (h1 : allNe p.1 (L.drop (i + 1)) = true) (h2 : p.2 ≠ []) : lasts (L.drop i) = p :: lasts (L.drop (i + 1)) := by
  obtain ⟨hi, he⟩ := List.getElem?_eq_some_iff.1 h
  rw [List.drop_eq_getElem_cons hi, he, lasts, h1]
  simp [h2]
theorem lasts_drop_key (L : List Pr) (i : Nat) (p : Pr) (h : L[i]? = some p) (h1 : allNe p.1 (L.drop (i + 1)) = false) : lasts (L.drop i) = lasts (L.drop (i + 1)) := by
  obtain ⟨hi, he⟩ := List.getElem?_eq_some_iff.1 h
  rw [List.drop_eq_getElem_cons hi, he, lasts, h1]
  simp
theorem lasts_drop_emp (L : List Pr) (i : Nat) (p : Pr) (h : L[i]? = some p) (h2 : p.2 = []) : lasts (L.drop i) = lasts (L.drop (i + 1)) := by
  obtain ⟨hi, he⟩ := List.getElem?_eq_some_iff.1 h
  rw [List.drop_eq_getElem_cons hi, he, lasts, h2]
  simp
theorem lastOf_cons (p : Pr) (l : List Pr) (k : List UInt8) : lastOf (p :: l) k = (lastOf l k).or (if p.1 = k then some p else none) := by
  rw [← List.singleton_append, lastOf_append]
  congr 1
  by_cases h : p.1 = k <;> simp [lastOf, h]
theorem mem_lasts (p : Pr) : ∀ (L : List Pr), p ∈ lasts L ↔ lastOf L p.1 = some p ∧ p.2 ≠ []
  | [] => by simp [lasts, lastOf]
  | q :: l => by
    have ih := mem_lasts p l
    rw [lastOf_cons]
    cases hl : lastOf l p.1 with
    | some r =>
      rw [hl] at ih
      have hne : allNe p.1 l = false := by
        cases h : allNe p.1 l with
        | false => rfl
        | true => rw [(allNe_last p.1 l).1 h] at hl; cases hl
      rw [Option.some_or, ← ih, lasts]
      split
      · rename_i h
        rw [Bool.and_eq_true] at h
        rw [List.mem_cons]
        constructor
        · rintro (e | h')
          · subst e; rw [h.1] at hne; cases hne
          · exact h'
        · exact Or.inr
      · rfl
    | none =>
      rw [hl] at ih
      have hn : ¬ p ∈ lasts l := fun h => by have := (ih.1 h).1; cases this
      have ht := (allNe_last p.1 l).2 hl
      rw [Option.none_or, lasts]
      by_cases e : q.1 = p.1
      · rw [if_pos e, e, ht]
        by_cases hq : q.2 = []
        · simp only [hq, List.isEmpty_nil, Bool.not_true, Bool.and_false, Bool.false_eq_true, if_false]
          constructor
          · exact fun h => absurd h hn
          · rintro ⟨h, h2⟩; cases h; exact absurd hq h2
        · rw [if_pos (by simp [hq]), List.mem_cons]
          constructor
          · rintro (h | h)
            · subst h; exact ⟨rfl, hq⟩
            · exact absurd h hn
          · rintro ⟨h, _⟩; cases h; exact Or.inl rfl
      · rw [if_neg e]
        constructor
        · intro h
          split at h
          · rcases List.mem_cons.1 h with h | h
            · subst h; exact absurd rfl e
            · exact absurd h hn
          · exact absurd h hn
        · rintro ⟨h, _⟩; cases h
theorem lasts_apart : ∀ (L : List Pr), (lasts L).Pairwise fun a b => a.1 ≠ b.1
  | [] => List.Pairwise.nil
  | q :: l => by
    rw [lasts]
    split
    · rename_i h
      rw [Bool.and_eq_true] at h
      refine List.pairwise_cons.2 ⟨fun r hr e => ?_, lasts_apart l⟩
      have h1 := (lastOf_mem ((mem_lasts r l).1 hr).1).1
      exact (allNe_true q.1 l).1 h.1 r h1 e.symm
    · exact lasts_apart l
theorem lasts_le : ∀ (L : List Pr), (lasts L).length ≤ L.length
  | [] => Nat.le_refl _
  | q :: l => by
    have := lasts_le l
    rw [lasts]
    split <;> simp <;> omega
theorem merged_sorted {K L : List Pr} (h : K.Perm (lasts L)) (hs : K.Pairwise fun p q => ¬ q.1 < p.1) : MergedOf K L := by
  constructor
  · have h2 : K.Pairwise fun a b => a.1 ≠ b.1 := (h.pairwise_iff fun {a b} e e' => e e'.symm).2 (lasts_apart L)
    refine (hs.and h2).imp fun {a b} h => ?_
    rcases Classical.em (a.1 < b.1) with hlt | hlt
    · exact hlt
    · exact absurd (List.le_antisymm (List.not_lt.1 h.1) (List.not_lt.1 hlt)) h.2
  · intro p
    rw [h.mem_iff, mem_lasts]
theorem ownsRow_below {W W' : World} {base : Nat} {e : TypeId} {size : Nat} {v : Value} {k : Nat} {xs : List Value} (h : W.ownsRow base e size v k xs) (hb : Below W.heap.size W W') : W'.ownsRow base e size v k xs := by
  refine ⟨h.1, ?_⟩
  rcases h.2 with h0 | ⟨g, cap, cur, h1, h2, h3, h4⟩
  · exact Or.inl h0
  · exact Or.inr ⟨g, cap, cur, h1, h2, (hb.block g (Array.getElem?_eq_some_iff.1 h3).1).trans h3, h4⟩
theorem pairsAt_drop {W : World} {b off : Nat} {L : List Pr} (i : Nat) (h : PairsAt W (some ⟨b, off, none⟩) L) : PairsAt W (some ⟨b, off + i * 2, none⟩) (L.drop i) := fun j p hj => by
  rw [List.getElem?_drop] at hj
  obtain ⟨b', o', e, h1, h2, h3⟩ := h (i + j) p hj
  cases e
  refine ⟨b, off + i * 2, rfl, h1, ?_, ?_⟩
  · rw [show off + i * 2 + j * 2 = off + (i + j) * 2 by omega]; exact h2
  · rw [show off + i * 2 + j * 2 = off + (i + j) * 2 by omega]; exact h3
/-- l[i:], as a value. -/
theorem slice_onward (b off n cap i : Nat) (L : List Pr) (hn : L.length = n) (hi : i ≤ n) (hnc : n ≤ cap) : ∃ ad2 c2, (∀ W, (Instr.slice 25 (.slice (some ⟨b, off, none⟩) n cap) (some (.int .i64 (i : Int))) none none).run Try.prog W = .ok (.slice ad2 (n - i) c2) W) ∧ ∀ W, PairsAt W (some ⟨b, off, none⟩) L → PairsAt W ad2 (L.drop i) := by
  have ht : Try.prog.underlying 25 = some (.slice (Try.prog.elem 25)) := by kernel_rfl
  have hsz : ∀ W, (Go.sizeOf (Try.prog.elem 25)).run Try.prog W = .ok 2 W := fun W => by kernel_rfl
  by_cases hc : cap = i
  · refine ⟨some ⟨b, off, none⟩, cap - i, fun W => ?_, fun W h => ?_⟩
    · rw [run_slice_l W 25 _ n cap ht .i64 i (by omega) (by omega), hsz]
      simp [Result.andThen, sliced, hc]
    · rw [List.drop_eq_nil_of_le (by omega)]
      exact fun j p hj => by simp at hj
  · refine ⟨some ⟨b, off + i * 2, none⟩, cap - i, fun W => ?_, fun W h => pairsAt_drop i h⟩
    rw [run_slice_l W 25 _ n cap ht .i64 i (by omega) (by omega), hsz]
    simp [Result.andThen, sliced, hc, Go.WideShapes.add_plain]
end Go.Proofs.Ytheiamidochooaa
