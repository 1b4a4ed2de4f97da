/- The reference's RecordsRead: of each end it is tried whether it is a record's. -/
import Derived.Test.YtheiamidochooaaDoorRd
import Derived.Deep.LoopGhost
namespace Go.Proofs.YtheiamidochooaaDoor
open Go.RowKit Go.Joins
set_option linter.unusedVariables false

/-- What stands from off to e. -/
def segL (s : List UInt8) (off e : Nat) : List UInt8 := (s.drop off).take (e - off)
/-- It is a record. -/
def Hit (s : List UInt8) (off e : Nat) : Prop := ∃ k v, rightP k v = true ∧ recL k v = segL s off e
theorem hit_begins (s : List UInt8) (off e : Nat) (k v : List UInt8) (hr : rightP k v = true) (h : recL k v = segL s off e) : Begins (s.drop off) k v := ⟨hr, by rw [h]; exact List.take_prefix _ _⟩
theorem begins_hit (s : List UInt8) (off : Nat) (k v : List UInt8) (h : Begins (s.drop off) k v) : Hit s off (off + (recL k v).length) ∧ off < off + (recL k v).length ∧ off + (recL k v).length ≤ s.length := by
  have h1 := recL_pos k v
  have h2 := h.2.length_le
  rw [List.length_drop] at h2
  refine ⟨⟨k, v, h.1, ?_⟩, by omega, by omega⟩
  unfold segL
  rw [show off + (recL k v).length - off = (recL k v).length by omega]
  exact List.prefix_iff_eq_take.1 h.2

theorem idx_of (c : UInt8) (a b : List UInt8) (h : ∀ x ∈ a, (x != c) = true) : Lib.indexByte (a ++ c :: b) c = (a.length : Int) := by
  have := (index_yes c (a ++ c :: b) (by simp)).1
  rw [this]
  unfold wholeOf
  rw [(takeWhile_stop (· != c) c (by simp) a b h).1]
/-- What the tests meet at a record's end. -/
theorem hit_parts (s : List UInt8) (off e : Nat) (k v : List UInt8) (hoe : off < e) (he : e ≤ s.length) (hr : rightP k v = true) (h : recL k v = segL s off e) :
    ∃ a : Nat, s[e - 1]? = some 10 ∧ Lib.indexByte (segL s off e) 32 = (a : Int) ∧ Lib.indexByte (segL s off e) 61 = ((a + 1 + k.length : Nat) : Int) ∧ off + a + 1 + k.length + v.length + 2 = e ∧
      (s.drop (off + a + 1)).take k.length = k ∧ (s.drop (off + a + 1 + k.length + 1)).take v.length = v := by
  have hl := recL_length k v (rightP_true k v hr).2.2
  have hf := lenOf_fits (k.length + v.length + 3) (by have := (rightP_true k v hr).2.2; omega)
  have hlen : (segL s off e).length = e - off := by unfold segL; rw [List.length_take, List.length_drop]; omega
  rw [← h] at hlen
  obtain ⟨D, hD⟩ : ∃ D, Lib.decDigits (lenOf (k.length + v.length + 3)) = D := ⟨_, rfl⟩
  have hrec : recL k v = D ++ 32 :: (k ++ 61 :: (v ++ [10])) := by unfold recL restL; rw [hD]
  rw [hD] at hf
  have hdrop : s.drop off = D ++ 32 :: (k ++ 61 :: (v ++ [10])) ++ s.drop e := by
    rw [← hrec, h]
    unfold segL
    conv => rhs; arg 2; rw [show e = off + (e - off) by omega, ← List.drop_drop]
    exact (List.take_append_drop _ _).symm
  have hno32 : ∀ x ∈ D, (x != 32) = true := by rw [← hD]; exact dec_no 32 (by decide) _
  have hno61 : ∀ x ∈ D ++ 32 :: k, (x != 61) = true := fun x hx => by
    rcases List.mem_append.1 hx with hx | hx
    · rw [← hD] at hx; exact dec_no 61 (by decide) _ x hx
    · rcases List.mem_cons.1 hx with rfl | hx
      · rfl
      · exact key_no k v hr x hx
  refine ⟨D.length, ?_, ?_, ?_, by omega, ?_, ?_⟩
  · have e1 : s[e - 1]? = (s.drop off)[e - 1 - off]? := by rw [List.getElem?_drop]; congr 1; omega
    rw [e1, hdrop, List.getElem?_append_left (by simp; omega), show e - 1 - off = (D ++ 32 :: (k ++ 61 :: v)).length by simp; omega]
    rw [show D ++ 32 :: (k ++ 61 :: (v ++ [10])) = (D ++ 32 :: (k ++ 61 :: v)) ++ [10] by simp, List.getElem?_append_right (Nat.le_refl _)]
    simp
  · rw [← h, hrec]; exact idx_of 32 D _ hno32
  · rw [← h, hrec, show D ++ 32 :: (k ++ 61 :: (v ++ [10])) = (D ++ 32 :: k) ++ 61 :: (v ++ [10]) by simp, idx_of 61 _ _ hno61]
    simp; omega
  · rw [show off + D.length + 1 = off + (D.length + 1) by omega, ← List.drop_drop, hdrop,
      show D ++ 32 :: (k ++ 61 :: (v ++ [10])) ++ s.drop e = (D ++ [32]) ++ (k ++ (61 :: (v ++ [10]) ++ s.drop e)) by simp,
      show D.length + 1 = (D ++ [32]).length by simp, List.drop_left, List.take_left]
  · rw [show off + D.length + 1 + k.length + 1 = off + (D.length + 1 + k.length + 1) by omega, ← List.drop_drop, hdrop,
      show D ++ 32 :: (k ++ 61 :: (v ++ [10])) ++ s.drop e = (D ++ 32 :: (k ++ [61])) ++ (v ++ ([10] ++ s.drop e)) by simp,
      show D.length + 1 + k.length + 1 = (D ++ 32 :: (k ++ [61])).length by simp; omega, List.drop_left, List.take_left]
end Go.Proofs.YtheiamidochooaaDoor
