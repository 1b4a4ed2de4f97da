/- Changes without X: done twice, they are done once; parts one behind the other. -/
import Derived.Test.YtalafhfpmkacgaaDoorKmd
namespace Go.Proofs.YtalafhfpmkacgaaDoor
open Go.RowKit Go.Joins
set_option linter.unusedVariables false
set_option linter.unusedSimpArgs false

/-- Each bit kept, set or cleared, the same way whatever the mode; or no mode at all. -/
def Aff (f : Nat → Option Nat) : Prop := (∀ m, m < 4096 → f m = none) ∨ ∃ A B, A < 4096 ∧ B < 4096 ∧ ∀ m, m < 4096 → f m = some ((m &&& A) ||| B)
theorem and_all (m : Nat) (hm : m < 4096) : m &&& 4095 = m := by
  rw [show (4095 : Nat) = 2 ^ 12 - 1 from rfl, Nat.and_two_pow_sub_one_eq_mod]
  exact Nat.mod_eq_of_lt hm
theorem high_bit (m j : Nat) (hm : m < 4096) (hj : ¬ j < 12) : m.testBit j = false :=
  Nat.testBit_lt_two_pow (Nat.lt_of_lt_of_le hm (show 2 ^ 12 ≤ 2 ^ j from Nat.pow_le_pow_right (by decide) (by omega)))
theorem less_and (m X : Nat) (hm : m < 4096) : less m X = m &&& less 4095 X := Nat.eq_of_testBit_eq fun j => by
  rw [less_bit, Nat.testBit_and, less_bit, show (4095 : Nat) = 2 ^ 12 - 1 from rfl, Nat.testBit_two_pow_sub_one]
  by_cases h : j < 12
  · rw [decide_eq_true h]; simp
  · rw [high_bit m j hm h]; rfl
theorem letM_same (r r' : Bool) : ∀ (L : List UInt8) (a : Nat), (88 : UInt8) ∉ L → letM r L a = letM r' L a
  | [], _, _ => rfl
  | c :: L, a, h => by
    have hc : ¬ c.toNat = 88 := fun e => h (by rw [show c = 88 from by rw [← UInt8.ofNat_toNat (x := c), e]; rfl]; exact List.mem_cons_self ..)
    have e : lm r c.toNat = lm r' c.toNat := by
      unfold lm
      simp only [if_neg hc]
    show letM r L (a ||| lm r c.toNat) = letM r' L (a ||| lm r' c.toNat)
    rw [e]
    exact letM_same r r' L _ (fun hm => h (List.mem_cons_of_mem _ hm))
theorem stepA_aff (who : Nat) (hw : who < 4096) (dir : Bool) (x : UInt8 × List UInt8) (hx : (88 : UInt8) ∉ x.2) : Aff fun m => stepA who dir m x := by
  have hl := letM_lt false x.2 0 (by decide)
  have hX := and_lt who _ hl
  have hs : ∀ m, who &&& letM (runsB dir m) x.2 0 = who &&& letM false x.2 0 := fun m => by rw [letM_same (runsB dir m) false x.2 0 hx]
  by_cases h1 : x.1 = 43
  · exact .inr ⟨4095, _, by decide, hX, fun m hm => by
      show stepA who dir m x = _
      unfold stepA; rw [if_pos h1, hs, and_all m hm]⟩
  · by_cases h2 : x.1 = 45
    · exact .inr ⟨less 4095 (who &&& letM false x.2 0), 0, less_lt' _ _ (by decide), by decide, fun m hm => by
      show stepA who dir m x = _
      unfold stepA; rw [if_neg h1, if_pos h2, hs, less_and m _ hm, Nat.or_zero]⟩
    · by_cases h3 : x.1 = 61
      · exact .inr ⟨less 4095 who, _, less_lt' _ _ (by decide), hX, fun m hm => by
      show stepA who dir m x = _
      unfold stepA; rw [if_neg h1, if_neg h2, if_pos h3, hs, less_and m _ hm]⟩
      · exact .inl fun m hm => by
          show stepA who dir m x = _
          unfold stepA; rw [if_neg h1, if_neg h2, if_neg h3]
theorem aff_comp {f g : Nat → Option Nat} (hf : Aff f) (hg : Aff g) : Aff fun m => (f m).bind g := by
  rcases hf with hf | ⟨A, B, hA, hB, hf⟩
  · exact .inl fun m hm => by show (f m).bind g = none; rw [hf m hm]; rfl
  · have hlt : ∀ m, m < 4096 → (m &&& A) ||| B < 4096 := fun m hm => or_lt _ _ (and_lt _ _ hA) hB
    rcases hg with hg | ⟨C, D, hC, hD, hg⟩
    · exact .inl fun m hm => by show (f m).bind g = none; rw [hf m hm]; exact hg _ (hlt m hm)
    · refine .inr ⟨A &&& C, (B &&& C) ||| D, and_lt _ _ hC, or_lt _ _ (and_lt _ _ hC) hD, fun m hm => ?_⟩
      show (f m).bind g = _
      rw [hf m hm]
      show g ((m &&& A) ||| B) = _
      rw [hg _ (hlt m hm)]
      congr 1
      apply Nat.eq_of_testBit_eq
      intro j
      simp only [Nat.testBit_or, Nat.testBit_and]
      cases m.testBit j <;> cases A.testBit j <;> cases B.testBit j <;> cases C.testBit j <;> cases D.testBit j <;> rfl
theorem aff_id : Aff fun m => some m := .inr ⟨4095, 0, by decide, by decide, fun m hm => by rw [and_all m hm, Nat.or_zero]⟩
theorem foldA_aff (who : Nat) (hw : who < 4096) (dir : Bool) : ∀ xs : List (UInt8 × List UInt8), (∀ x ∈ xs, (88 : UInt8) ∉ x.2) → Aff fun m => foldA who dir m xs
  | [], _ => aff_id
  | x :: xs, h => aff_comp (stepA_aff who hw dir x (h x (List.mem_cons_self ..))) (foldA_aff who hw dir xs fun y hy => h y (List.mem_cons_of_mem _ hy))
theorem actsF_in (b : UInt8) : ∀ (k : Nat) (l : List UInt8), b ∉ l → ∀ x ∈ actsF k l, b ∉ x.2
  | 0, _, _, x, hx => by simp [actsF] at hx
  | _ + 1, [], _, x, hx => by simp [actsF] at hx
  | k + 1, c :: r, h, x, hx => by
    have hs : (restS permS r).Sublist r := List.dropWhile_sublist _
    have hh : (headS permS r).Sublist r := List.takeWhile_sublist _
    simp only [actsF, List.mem_cons] at hx
    rcases hx with rfl | hx
    · exact fun hm => h (List.mem_cons_of_mem _ (hh.subset hm))
    · exact actsF_in b k _ (fun hm => h (List.mem_cons_of_mem _ (hs.subset hm))) x hx
theorem partF_aff (dir : Bool) (p : List UInt8) (h : (88 : UInt8) ∉ p) : Aff fun m => partF dir m p := by
  unfold partF
  by_cases hr : restS whoS p = []
  · exact .inl fun m _ => if_pos hr
  · simp only [if_neg hr]
    have hs : (restS whoS p).Sublist p := List.dropWhile_sublist _
    exact foldA_aff _ (whoM_lt _) dir _ fun x hx => actsF_in 88 _ _ (fun hm => h (hs.subset hm)) x hx
theorem chF_aff (dir : Bool) : ∀ ps : List (List UInt8), (∀ p ∈ ps, (88 : UInt8) ∉ p) → Aff fun m => chF dir m ps
  | [], _ => aff_id
  | p :: ps, h => aff_comp (partF_aff dir p (h p (List.mem_cons_self ..))) (chF_aff dir ps fun q hq => h q (List.mem_cons_of_mem _ hq))
theorem aff_twice {f : Nat → Option Nat} (hf : Aff f) (m k : Nat) (hm : m < 4096) (h : f m = some k) : f k = some k := by
  rcases hf with hf | ⟨A, B, hA, hB, hf⟩
  · rw [hf m hm] at h; cases h
  · rw [hf m hm] at h
    injection h with h
    have hk : k < 4096 := by rw [← h]; exact or_lt _ _ (and_lt _ _ hA) hB
    rw [hf k hk, ← h]
    congr 1
    apply Nat.eq_of_testBit_eq
    intro j
    simp only [Nat.testBit_or, Nat.testBit_and]
    cases m.testBit j <;> cases A.testBit j <;> cases B.testBit j <;> rfl
theorem pieces_in (b : UInt8) : ∀ (l : List UInt8), b ∉ l → ∀ p ∈ piecesC l, b ∉ p
  | [], _, p, h => by
    rw [piecesC, List.mem_singleton] at h
    subst h; simp
  | c :: r, hl, p, h => by
    have hr : b ∉ r := fun hm => hl (List.mem_cons_of_mem _ hm)
    by_cases hc : c = 44
    · subst hc
      rw [pieces_comma] at h
      rcases List.mem_cons.1 h with e | h
      · subst e; simp
      · exact pieces_in b r hr p h
    · obtain ⟨q, qs, e1, e2⟩ := pieces_cons c r hc
      have ih := pieces_in b r hr
      rw [e1] at ih
      rw [e2] at h
      rcases List.mem_cons.1 h with e | h
      · subst e
        intro hm
        rcases List.mem_cons.1 hm with e | hm
        · exact hl (by rw [e]; exact List.mem_cons_self ..)
        · exact ih q (List.mem_cons_self ..) hm
      · exact ih p (List.mem_cons_of_mem _ h)
/-- Twice is once. -/
theorem twice_once (dir : Bool) (s : List UInt8) (h : (88 : UInt8) ∉ s) (m k : Nat) (hm : m < 4096) (hk : chF dir m (piecesC s) = some k) : chF dir k (piecesC s) = some k :=
  aff_twice (chF_aff dir _ (pieces_in 88 s h)) m k hm hk
theorem both_oct (s t : List UInt8) : octB (s ++ 44 :: t) = false := by
  unfold octB
  have : restS octS (s ++ 44 :: t) ≠ [] := fun h => by
    rw [restS_nil] at h
    have := h 44 (by simp)
    revert this; decide
  rw [decide_eq_false this, Bool.and_false]
theorem both_parts (dir : Bool) (s t : List UInt8) (m k : Nat) (hk : chF dir m (piecesC s) = some k) : chF dir m (piecesC (s ++ 44 :: t)) = chF dir k (piecesC t) := by
  rw [pieces_append, chF_append, hk]; rfl
end Go.Proofs.YtalafhfpmkacgaaDoor
