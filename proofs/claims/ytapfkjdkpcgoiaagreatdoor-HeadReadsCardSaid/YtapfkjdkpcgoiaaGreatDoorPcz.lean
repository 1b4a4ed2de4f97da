/- The pieces of a text between zero bytes. -/
import Derived.Test.YtapfkjdkpcgoiaaGreatDoorHd
import Derived.Lib.IndexLaws
import Derived.Lib.IndexBytes
namespace Go.Proofs.YtapfkjdkpcgoiaaGreatDoor
set_option linter.unusedVariables false

/-- The pieces of a text between zero bytes. -/
def piecesZ : List UInt8 → List (List UInt8)
  | [] => [[]]
  | c :: r => if c = 0 then [] :: piecesZ r else match piecesZ r with
    | [] => [[c]]
    | p :: ps => (c :: p) :: ps
theorem pieces_ne : ∀ l : List UInt8, piecesZ l ≠ []
  | [] => by simp [piecesZ]
  | c :: r => by
    unfold piecesZ
    split
    · simp
    · split <;> simp
theorem pieces_zero (r : List UInt8) : piecesZ (0 :: r) = [] :: piecesZ r := by rw [piecesZ, if_pos rfl]
theorem pieces_cons (c : UInt8) (r : List UInt8) (h : c ≠ 0) : ∃ p ps, piecesZ r = p :: ps ∧ piecesZ (c :: r) = (c :: p) :: ps := by
  cases e : piecesZ r with
  | nil => exact absurd e (pieces_ne r)
  | cons p ps => exact ⟨p, ps, rfl, by rw [piecesZ, if_neg h, e]⟩
theorem pieces_append : ∀ a b : List UInt8, piecesZ (a ++ 0 :: b) = piecesZ a ++ piecesZ b
  | [], b => by rw [List.nil_append, pieces_zero]; rfl
  | c :: a, b => by
    by_cases h : c = 0
    · subst h
      rw [List.cons_append, pieces_zero, pieces_zero, pieces_append a b]; rfl
    · obtain ⟨p, ps, e1, e2⟩ := pieces_cons c a h
      obtain ⟨q, qs, f1, f2⟩ := pieces_cons c (a ++ 0 :: b) h
      rw [pieces_append a b, e1] at f1
      rw [List.cons_append, f2, e2]
      injection f1 with g1 g2
      rw [← g1, ← g2]; rfl
theorem pieces_free : ∀ (l : List UInt8), ∀ p ∈ piecesZ l, (0 : UInt8) ∉ p
  | [], p, h => by
    rw [piecesZ, List.mem_singleton] at h
    subst h; simp
  | c :: r, p, h => by
    by_cases hc : c = 0
    · subst hc
      rw [pieces_zero] at h
      rcases List.mem_cons.1 h with e | h
      · subst e; simp
      · exact pieces_free r p h
    · obtain ⟨q, qs, e1, e2⟩ := pieces_cons c r hc
      have ih := pieces_free r
      rw [e1] at ih
      rw [e2] at h
      rcases List.mem_cons.1 h with e | h
      · subst e
        intro hm
        rcases List.mem_cons.1 hm with e | hm
        · exact hc e.symm
        · exact ih q (List.mem_cons_self ..) hm
      · exact ih p (List.mem_cons_of_mem _ h)
theorem pieces_one : ∀ a : List UInt8, (0 : UInt8) ∉ a → piecesZ a = [a]
  | [], _ => rfl
  | c :: a, h => by
    have h1 : c ≠ 0 := fun e => h (by rw [e]; exact List.mem_cons_self ..)
    obtain ⟨p, ps, e1, e2⟩ := pieces_cons c a h1
    rw [pieces_one a (fun hm => h (List.mem_cons_of_mem _ hm))] at e1
    injection e1 with g1 g2
    rw [e2, ← g1, ← g2]
theorem pieces_head (a b : List UInt8) (h : (0 : UInt8) ∉ a) : piecesZ (a ++ 0 :: b) = a :: piecesZ b := by
  rw [pieces_append, pieces_one a h]; rfl

theorem pieces_length_le (l : List UInt8) : (piecesZ l).length ≤ l.length + 1 := by
  induction l with
  | nil => simp [piecesZ]
  | cons c r ih =>
    by_cases h : c = 0
    · subst h; rw [pieces_zero]; simp; exact ih
    · obtain ⟨p, ps, e1, e2⟩ := pieces_cons c r h
      rw [e2]; rw [e1] at ih; simp at ih ⊢; omega
theorem pieces_le : ∀ (l : List UInt8), ∀ p ∈ piecesZ l, p.length ≤ l.length
  | [], p, h => by
    rw [piecesZ, List.mem_singleton] at h
    subst h; simp
  | c :: r, p, h => by
    by_cases hc : c = 0
    · subst hc
      rw [pieces_zero] at h
      rcases List.mem_cons.1 h with e | h
      · subst e; simp
      · have := pieces_le r p h; simp; omega
    · obtain ⟨q, qs, e1, e2⟩ := pieces_cons c r hc
      have ih := pieces_le r
      rw [e1] at ih
      rw [e2] at h
      rcases List.mem_cons.1 h with e | h
      · subst e; have := ih q (List.mem_cons_self ..); simp; omega
      · have := ih p (List.mem_cons_of_mem _ h); simp; omega
theorem take_zero (l : List UInt8) (i : Nat) (h : l[i]? = some 0) : l.take i ++ 0 :: l.drop (i + 1) = l := by
  obtain ⟨h1, h2⟩ := List.getElem?_eq_some_iff.1 h
  have e : l.drop i = 0 :: l.drop (i + 1) := by rw [List.drop_eq_getElem_cons h1, h2]
  have := List.take_append_drop i l
  rwa [e] at this

theorem first_cases (l : List UInt8) : ((0 : UInt8) ∉ l ∧ Lib.indexByte l 0 = -1) ∨ ∃ i : Nat, i < l.length ∧ l[i]? = some 0 ∧ (0 : UInt8) ∉ l.take i ∧ Lib.indexByte l 0 = i := by
  have hge := Lib.indexByte_ge l 0
  by_cases h : Lib.indexByte l 0 = -1
  · left
    refine ⟨fun hm => ?_, h⟩
    obtain ⟨j, hj, he⟩ := List.mem_iff_getElem.1 hm
    exact Lib.indexByte_none h j (by rw [List.getElem?_eq_getElem hj, he])
  · right
    obtain ⟨o, ho⟩ : ∃ o : Nat, Lib.indexByte l 0 = o := ⟨(Lib.indexByte l 0).toNat, by omega⟩
    obtain ⟨h1, h2⟩ := Lib.indexByte_some ho
    refine ⟨o, (List.getElem?_eq_some_iff.1 h1).1, h1, fun hm => ?_, ho⟩
    obtain ⟨j, hj, he⟩ := List.mem_iff_getElem.1 hm
    rw [List.length_take] at hj
    rw [List.getElem_take] at he
    exact h2 j (by omega) (by rw [List.getElem?_eq_getElem (by omega), he])
theorem pieces_none (l : List UInt8) (h : (0 : UInt8) ∉ l) : piecesZ l = [l] := pieces_one l h
theorem pieces_at (l : List UInt8) (i : Nat) (h : l[i]? = some 0) (hn : (0 : UInt8) ∉ l.take i) : piecesZ l = l.take i :: piecesZ (l.drop (i + 1)) := by
  have := pieces_head (l.take i) (l.drop (i + 1)) hn
  rwa [take_zero l i h] at this
theorem pieces_first : ∀ l : List UInt8, (piecesZ l)[0]? = some (cutZ l)
  | [] => rfl
  | c :: r => by
    by_cases h : c = 0
    · subst h
      rw [pieces_zero]; rfl
    · obtain ⟨p, ps, e1, e2⟩ := pieces_cons c r h
      have ih := pieces_first r
      rw [e1] at ih
      rw [e2]
      unfold cutZ at ih ⊢
      rw [List.takeWhile_cons_of_pos (by simpa using h)]
      simp only [List.getElem?_cons_zero, Option.some.injEq] at ih ⊢
      rw [ih]
end Go.Proofs.YtapfkjdkpcgoiaaGreatDoor
