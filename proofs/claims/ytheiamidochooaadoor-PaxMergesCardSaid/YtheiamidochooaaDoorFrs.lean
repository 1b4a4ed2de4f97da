/- pax.first, at any text. -/
import Derived.Test.YtheiamidochooaaDoorFst
namespace Go.Proofs.YtheiamidochooaaDoor
open Go.RowKit Go.Joins

theorem begins_parts (u k v : List UInt8) (h : Begins u k v) :
    wholeOf 32 u = Lib.decDigits (recL k v).length ∧ (wholeOf 32 u).length + 2 ≤ (recL k v).length ∧ (recL k v).length ≤ u.length ∧ (recL k v).length ≤ 206 ∧ recL k v = u.take (recL k v).length ∧ wholeOf 61 (midL u (recL k v).length) = k ∧ fracOf 61 (midL u (recL k v).length) = v := by
  have hl := (rightP_true k v h.1).2.2
  have h1 := recL_length k v hl
  have h2 := begins_head u k v h
  have h3 := lenOf_fits (k.length + v.length + 3) (by omega)
  have h4 := lenOf_bound (k.length + v.length + 3)
  have h5 := h.2.length_le
  have h6 : wholeOf 32 u = Lib.decDigits (recL k v).length := by rw [h1]; exact h2
  have h7 : (wholeOf 32 u).length + (k.length + v.length + 3) = (recL k v).length := by rw [h6, h1]; exact h3
  have h8 : recL k v = u.take (recL k v).length := List.prefix_iff_eq_take.1 h.2
  have h9 : midL u (recL k v).length = k ++ 61 :: v := by
    obtain ⟨r, hr⟩ := h.2
    have e1 : u = wholeOf 32 u ++ (32 :: (k ++ 61 :: (v ++ [10]))) ++ r := by
      conv => lhs; rw [← hr]
      rw [h6, h1]; rfl
    have e2 : u.drop ((wholeOf 32 u).length + 1) = k ++ 61 :: (v ++ [10]) ++ r := by
      conv => lhs; arg 2; rw [e1]
      rw [← List.drop_drop, List.append_assoc, List.drop_left]
      rfl
    unfold midL
    rw [e2, show (recL k v).length - 1 - ((wholeOf 32 u).length + 1) = (k ++ 61 :: v).length by simp; omega]
    rw [show k ++ 61 :: (v ++ [10]) ++ r = (k ++ 61 :: v) ++ ([10] ++ r) by simp, List.take_left]
  have t := takeWhile_stop (· != 61) 61 rfl k v (key_no k v h.1)
  refine ⟨h6, by omega, h5, by omega, h8, ?_, ?_⟩
  · rw [h9]; exact t.1
  · rw [h9]; unfold fracOf; rw [t.2]; rfl

theorem first_any (u : List UInt8) (hu : u.length ≤ 6000) (w : World) (hp : PowLaid w) (hA : AtoiLaid w) :
    Calls Tryd.prog 62 #[.string (mkS u)] w fun e w' => FirstIs u e ∧ Below w.heap.size w w' := by
  by_cases hN : Nx u
  · obtain ⟨k, v, hb⟩ := hN
    obtain ⟨h1, h2, h3, h4, h5, h6, h7⟩ := begins_parts u k v hb
    refine (first_go u hu w hp hA (recL k v).length (by rw [h1]; exact dec_atoi _ (by omega)) h2 h3).mono fun e w' ⟨he, hw⟩ => ⟨?_, hw⟩
    rw [h6, h7] at he
    rcases he with ⟨_, _, he⟩ | ⟨he, _⟩
    · exact Or.inl ⟨k, v, hb, he⟩
    · exact absurd ⟨hb.1, h5⟩ he
  · by_cases hv : ∃ v, Lib.atoiAll (wholeOf 32 u) = .ok v
    · obtain ⟨v, hv⟩ := hv
      by_cases hs : v < ((wholeOf 32 u).length : Int) + 2 ∨ (u.length : Int) < v
      · exact (first_short u hu w hA v hv hs).mono fun e w' ⟨he, hw⟩ => ⟨Or.inr ⟨hN, he⟩, hw⟩
      · obtain ⟨n, rfl⟩ := Int.eq_ofNat_of_zero_le (show 0 ≤ v by omega)
        refine (first_go u hu w hp hA n hv (by omega) (by omega)).mono fun e w' ⟨he, hw⟩ => ⟨?_, hw⟩
        rcases he with ⟨h1, h2, _⟩ | ⟨_, he⟩
        · exact absurd ⟨_, _, h1, by rw [h2]; exact List.take_prefix _ _⟩ hN
        · exact Or.inr ⟨hN, he⟩
    · exact (first_err u hu w hA fun v h => hv ⟨v, h⟩).mono fun e w' ⟨he, hw⟩ => ⟨Or.inr ⟨hN, he⟩, hw⟩
end Go.Proofs.YtheiamidochooaaDoor
