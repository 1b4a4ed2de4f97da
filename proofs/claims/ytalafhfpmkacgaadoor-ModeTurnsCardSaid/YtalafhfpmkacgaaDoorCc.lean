/- The pieces of a text between commas; the first comma; strings.Index at a comma. -/
import Derived.Test.YtalafhfpmkacgaaDoorMm
import Derived.Test.YtalafhfpmkacgaaDoorShelf
import Derived.Lib.IndexLaws
namespace Go.Proofs.YtalafhfpmkacgaaDoor
open Go.RowKit Go.Joins
set_option linter.unusedVariables false

theorem pieces_ne : ∀ l : List UInt8, piecesC l ≠ []
  | [] => by simp [piecesC]
  | c :: r => by
    unfold piecesC
    split
    · simp
    · split <;> simp
theorem pieces_comma (r : List UInt8) : piecesC (44 :: r) = [] :: piecesC r := by rw [piecesC, if_pos rfl]
theorem pieces_cons (c : UInt8) (r : List UInt8) (h : c ≠ 44) : ∃ p ps, piecesC r = p :: ps ∧ piecesC (c :: r) = (c :: p) :: ps := by
  cases e : piecesC r with
  | nil => exact absurd e (pieces_ne r)
  | cons p ps => exact ⟨p, ps, rfl, by rw [piecesC, if_neg h, e]⟩
theorem pieces_append : ∀ a b : List UInt8, piecesC (a ++ 44 :: b) = piecesC a ++ piecesC b
  | [], b => by rw [List.nil_append, pieces_comma]; rfl
  | c :: a, b => by
    by_cases h : c = 44
    · subst h
      rw [List.cons_append, pieces_comma, pieces_comma, pieces_append a b]; rfl
    · obtain ⟨p, ps, e1, e2⟩ := pieces_cons c a h
      obtain ⟨q, qs, f1, f2⟩ := pieces_cons c (a ++ 44 :: b) h
      rw [pieces_append a b, e1] at f1
      rw [List.cons_append, f2, e2]
      injection f1 with g1 g2
      rw [← g1, ← g2]; rfl
theorem pieces_free : ∀ (l : List UInt8), ∀ p ∈ piecesC l, (44 : UInt8) ∉ p
  | [], p, h => by
    rw [piecesC, List.mem_singleton] at h
    subst h; simp
  | c :: r, p, h => by
    by_cases hc : c = 44
    · subst hc
      rw [pieces_comma] at h
      rcases List.mem_cons.1 h with e | h
      · subst e; simp
      · exact pieces_free r p h
    · obtain ⟨q, qs, e1, e2⟩ := pieces_cons c r hc
      have ih := pieces_free r
      rw [e1] at ih
      rw [e2] at h
      rcases List.mem_cons.1 h with e | h
      · subst e
        intro hm
        rcases List.mem_cons.1 hm with e | hm
        · exact hc e.symm
        · exact ih q (List.mem_cons_self ..) hm
      · exact ih p (List.mem_cons_of_mem _ h)
theorem pieces_one : ∀ a : List UInt8, (44 : UInt8) ∉ a → piecesC a = [a]
  | [], _ => rfl
  | c :: a, h => by
    have h1 : c ≠ 44 := fun e => h (by rw [e]; exact List.mem_cons_self ..)
    obtain ⟨p, ps, e1, e2⟩ := pieces_cons c a h1
    rw [pieces_one a (fun hm => h (List.mem_cons_of_mem _ hm))] at e1
    injection e1 with g1 g2
    rw [e2, ← g1, ← g2]
theorem pieces_head (a b : List UInt8) (h : (44 : UInt8) ∉ a) : piecesC (a ++ 44 :: b) = a :: piecesC b := by
  rw [pieces_append, pieces_one a h]; rfl

theorem pieces_length_le (l : List UInt8) : (piecesC l).length ≤ l.length + 1 := by
  induction l with
  | nil => simp [piecesC]
  | cons c r ih =>
    by_cases h : c = 44
    · subst h; rw [pieces_comma]; simp; exact ih
    · obtain ⟨p, ps, e1, e2⟩ := pieces_cons c r h
      rw [e2]; rw [e1] at ih; simp at ih ⊢; omega
theorem pieces_le : ∀ (l : List UInt8), ∀ p ∈ piecesC l, p.length ≤ l.length
  | [], p, h => by
    rw [piecesC, List.mem_singleton] at h
    subst h; simp
  | c :: r, p, h => by
    by_cases hc : c = 44
    · subst hc
      rw [pieces_comma] at h
      rcases List.mem_cons.1 h with e | h
      · subst e; simp
      · have := pieces_le r p h; simp; omega
    · obtain ⟨q, qs, e1, e2⟩ := pieces_cons c r hc
      have ih := pieces_le r
      rw [e1] at ih
      rw [e2] at h
      rcases List.mem_cons.1 h with e | h
      · subst e; have := ih q (List.mem_cons_self ..); simp; omega
      · have := ih p (List.mem_cons_of_mem _ h); simp; omega
theorem take_comma (l : List UInt8) (i : Nat) (h : l[i]? = some 44) : l.take i ++ 44 :: l.drop (i + 1) = l := by
  obtain ⟨h1, h2⟩ := List.getElem?_eq_some_iff.1 h
  have e : l.drop i = 44 :: l.drop (i + 1) := by rw [List.drop_eq_getElem_cons h1, h2]
  have := List.take_append_drop i l
  rwa [e] at this

theorem first_cases (l : List UInt8) : ((44 : UInt8) ∉ l ∧ Lib.indexByte l 44 = -1) ∨ ∃ i : Nat, i < l.length ∧ l[i]? = some 44 ∧ (44 : UInt8) ∉ l.take i ∧ Lib.indexByte l 44 = i := by
  have hge := Lib.indexByte_ge l 44
  by_cases h : Lib.indexByte l 44 = -1
  · left
    refine ⟨fun hm => ?_, h⟩
    obtain ⟨j, hj, he⟩ := List.mem_iff_getElem.1 hm
    exact Lib.indexByte_none h j (by rw [List.getElem?_eq_getElem hj, he])
  · right
    obtain ⟨o, ho⟩ : ∃ o : Nat, Lib.indexByte l 44 = o := ⟨(Lib.indexByte l 44).toNat, by omega⟩
    obtain ⟨h1, h2⟩ := Lib.indexByte_some ho
    refine ⟨o, (List.getElem?_eq_some_iff.1 h1).1, h1, fun hm => ?_, ho⟩
    obtain ⟨j, hj, he⟩ := List.mem_iff_getElem.1 hm
    rw [List.length_take] at hj
    rw [List.getElem_take] at he
    exact h2 j (by omega) (by rw [List.getElem?_eq_getElem (by omega), he])
theorem pieces_none (l : List UInt8) (h : (44 : UInt8) ∉ l) : piecesC l = [l] := pieces_one l h
theorem pieces_at (l : List UInt8) (i : Nat) (h : l[i]? = some 44) (hn : (44 : UInt8) ∉ l.take i) : piecesC l = l.take i :: piecesC (l.drop (i + 1)) := by
  have := pieces_head (l.take i) (l.drop (i + 1)) hn
  rwa [take_comma l i h] at this
theorem index_mk (l : List UInt8) (w : World) :
    Calls Tryd.prog 36 #[.string (mkS l), .string (mkS [44])] w fun e w' => e = .returned (.int .i64 (Lib.indexByte l 44)) ∧ w = w' := by
  have h := Tryd.strings_Index_one (mkS l) 44 w
  rw [mkS_list] at h
  exact h.mono fun e w' ⟨he, hw⟩ => ⟨he, hw.symm⟩
end Go.Proofs.YtalafhfpmkacgaaDoor
