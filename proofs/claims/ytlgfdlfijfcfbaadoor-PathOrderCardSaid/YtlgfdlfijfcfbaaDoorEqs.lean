/- slices.Equal at slices of texts. -/
import Derived.Test.YtlgfdlfijfcfbaaDoorPtn
namespace Go.Proofs.YtlgfdlfijfcfbaaDoor
open Go.RowKit Go.Joins
set_option linter.unusedVariables false

theorem map_mk_inj (X Y : List (List UInt8)) : X.map mkS = Y.map mkS ↔ X = Y := by
  constructor
  · intro h
    have := congrArg (List.map fun s : ByteArray => s.data.toList) h
    rw [List.map_map, List.map_map] at this
    have e : ∀ L : List (List UInt8), L.map ((fun s : ByteArray => s.data.toList) ∘ mkS) = L := fun L => by
      conv => rhs; rw [← List.map_id L]
      exact List.map_congr_left fun x _ => mkS_list x
    rwa [e, e] at this
  · rintro rfl; rfl
theorem equal_sl (v1 v2 : Value) (X Y : List (List UInt8)) (hX : X.length ≤ 1000000) (hY : Y.length ≤ 1000000) (w : World) (h1 : SlIs w v1 X) (h2 : SlIs w v2 Y) :
    Calls Tryd.prog 28 #[v1, v2] w fun e w' => e = .returned (.bool (decide (X = Y))) ∧ Below w.heap.size w w' := by
  obtain ⟨a1, c1, rfl, hc1⟩ := h1.len
  obtain ⟨a2, c2, rfl, hc2⟩ := h2.len
  by_cases hl : X.length = Y.length
  · by_cases h0 : X = []
    · subst h0
      have hy : Y = [] := List.length_eq_zero_iff.1 hl.symm
      subst hy
      refine (Tryd.slices_Equal_string_empty a1 a2 c1 0 c2 w (by omega)).mono fun e w' ⟨he, hw⟩ => ⟨by rw [he]; simp, hw ▸ Below.refl _ _⟩
    · have hy0 : Y ≠ [] := fun e => h0 (List.length_eq_zero_iff.1 (by rw [hl, e]; rfl))
      obtain ⟨b1, o1, rfl⟩ : ∃ b o, a1 = some ⟨b, o, none⟩ := by
        obtain ⟨x, hx⟩ : ∃ x, X[0]? = some x := ⟨_, List.getElem?_eq_getElem (List.length_pos_iff.2 h0)⟩
        obtain ⟨b, o, e, _⟩ := h1.at 0 x hx
        exact ⟨b, o, e⟩
      obtain ⟨b2, o2, rfl⟩ : ∃ b o, a2 = some ⟨b, o, none⟩ := by
        obtain ⟨x, hx⟩ : ∃ x, Y[0]? = some x := ⟨_, List.getElem?_eq_getElem (List.length_pos_iff.2 hy0)⟩
        obtain ⟨b, o, e, _⟩ := h2.at 0 x hx
        exact ⟨b, o, e⟩
      have cells : ∀ (L : List (List UInt8)) (b o n c : Nat), SlIs w (.slice (some ⟨b, o, none⟩) n c) L → ∀ j, j < (L.map mkS).length → w.cell? ⟨b, o + j, none⟩ = some (.string ((L.map mkS).getD j ByteArray.empty)) := fun L b o n c h j hj => by
        rw [List.length_map] at hj
        obtain ⟨b', o', e, hc, _⟩ := h.at j L[j] (List.getElem?_eq_getElem hj)
        injection e with e; injection e with e1 e2; subst e1; subst e2
        rw [hc, List.getD_eq_getElem?_getD, List.getElem?_map, List.getElem?_eq_getElem hj]
        rfl
      refine (Tryd.slices_Equal_string b1 o1 X.length c1 b2 o2 Y.length c2 (X.map mkS) (Y.map mkS) w (by simp) (by simp) (by omega) (by omega) (cells X b1 o1 _ _ h1) (cells Y b2 o2 _ _ h2)).mono fun e w' ⟨he, q, hw⟩ => ⟨?_, hw ▸ below_draws _ _ _⟩
      rw [he]
      congr 2
      rw [decide_eq_decide, List.take_of_length_le (by simp), List.take_of_length_le (by simp)]
      exact map_mk_inj X Y
  · refine (Tryd.slices_Equal_string_lens a1 a2 X.length c1 Y.length c2 w hl).mono fun e w' ⟨he, hw⟩ => ⟨?_, hw ▸ Below.refl _ _⟩
    rw [he]
    congr 2
    rw [eq_comm, decide_eq_false_iff_not]
    rintro rfl
    exact hl rfl
end Go.Proofs.YtlgfdlfijfcfbaaDoor
