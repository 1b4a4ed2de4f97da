/- Gh: what the texts of the name hold, joined. -/
import Derived.Test.YthnonmniponahaaGreatDoorQGu
import Derived.Test.YthnonmniponahaaGreatDoorQWo
set_option linter.unusedSimpArgs false
set_option linter.unusedVariables false
section
/- member.writeGnu: lengths, a builder beside a store. -/
namespace Go.Proofs.YthnonmniponahaaGreatDoor
open Go.RowKit Go.Joins
set_option linter.unusedVariables false
set_option linter.unusedSimpArgs false

theorem longF_le (k : UInt8) (hk : k ≠ 0) (t : List UInt8) (ht : t.length ≤ 2000) : (longF k t).length ≤ 5000 := by
  unfold longF
  by_cases h : 100 < t.length
  · rw [if_pos h]
    have := fillL_le (t ++ [0])
    have h3 : (writeL 3 (rawLong k (t.length + 1))).length = 512 := write_length (goodLong k hk _ (by omega) (by omega))
    rw [List.length_append] at *
    rw [List.length_singleton] at this
    omega
  · rw [if_neg h]; decide
theorem whole_two (d : Nat) (R : RawL) (n link data : List UInt8) : (∃ s, wholeF d R n link data = (s, 0)) ∨ wholeF d R n link data = ([], 2) := by
  unfold wholeF
  split
  · exact .inl ⟨_, rfl⟩
  · exact .inr rfl
theorem whole_len (d : Nat) (R : RawL) (n link data : List UInt8) : (wholeF d R n link data).1.length ≤ data.length + 1100 := by
  unfold wholeF
  split
  · next h =>
    have h1 := write_length h.2
    have h2 := fillL_le data
    show (writeL _ _ ++ fillL data).length ≤ _
    rw [List.length_append, h1]
    omega
  · simp
theorem whole_ge {d : Nat} {R : RawL} {n link data X : List UInt8} (h : wholeF d R n link data = (X, 0)) : 512 ≤ X.length := by
  unfold wholeF at h
  split at h
  · next h2 =>
    have h1 := write_length h2.2
    have hX := (Prod.mk.inj h).1
    rw [← hX, List.length_append, h1]
    omega
  · simp at h
theorem holesF_len (X : List UInt8) (e : EntL) (h : 512 ≤ X.length) : (holesF X e).length ≤ X.length + 1100 := by
  have h1 := octL_length e.size
  have h2 := listF_len e.map 4
  have h3 := moreF_len (e.map.drop 4)
  have hB : (X.take 386 ++ (listF e.map 4 ++ (octL e.size ++ sub X 495 17))).length = 512 := by
    simp only [List.length_append, List.length_take, sub, List.length_drop]
    omega
  have h4 := sealL_length _ hB
  unfold holesF
  rw [List.length_append, List.length_append, h4, List.length_drop]
  omega
theorem bd_lt {B b : Nat} {l : List UInt8} {w : World} (h : Bd B b l w) : b < w.heap.size := by
  rcases h with ⟨_, _, h, _⟩ | ⟨_, _, h, _⟩ <;> exact (Array.getElem?_eq_some_iff.1 h).1
/-- A store into a block of another kind, behind the builder. -/
theorem bd_store {B b k : Nat} {l : List UInt8} {w w' : World} {cs : Array Value} {t : TypeId} {fr : Nat × Nat} (h : Bd B b l w) (hb : b < k) (hk : w.heap[k]? = some (.cells cs t fr)) (ht : t ≠ 5) (hs : ∀ j, j ≠ k → w'.heap[j]? = w.heap[j]?) : Bd B b l w' := by
  have row : ∀ {v : Value} {n : Nat} {xs : List Value}, w.ownsRowF B 5 1 v n xs → w'.ownsRowF B 5 1 v n xs := fun {v n xs} hr => by
    refine ⟨hr.1, ?_⟩
    rcases hr.2 with h0 | ⟨g, cap, cur, fz, h1, h2, h3, h4⟩
    · exact Or.inl h0
    · refine Or.inr ⟨g, cap, cur, fz, h1, h2, (hs g fun e => ?_).trans h3, h4⟩
      subst e
      rw [h3] at hk
      simp only [Option.some.injEq, Obj.cells.injEq] at hk
      exact ht hk.2.1.symm
  rcases h with ⟨h1, v, h2, h3, h4⟩ | ⟨h1, v, h2, h3, h4⟩
  · exact Or.inl ⟨h1, v, (hs _ (Nat.ne_of_lt hb)).trans h2, row h3, h4⟩
  · exact Or.inr ⟨h1, v, (hs _ (Nat.ne_of_lt hb)).trans h2, row h3, h4⟩
end Go.Proofs.YthnonmniponahaaGreatDoor
end
