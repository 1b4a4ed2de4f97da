/- Two patterns, one behind the other. No run in it. -/
import Derived.Test.YtcdoiadmnckccaaDoorGn
namespace Go.Proofs.YtcdoiadmnckccaaDoor
set_option linter.unusedVariables false
set_option linter.unusedSimpArgs false

theorem elemL_app {s r : List UInt8} {c : UInt8} (t : List UInt8) (h : elemL s = some (c, r)) : elemL (s ++ t) = some (c, r ++ t) := by
  cases s with
  | nil => cases h
  | cons d s =>
    by_cases hd : d = 92
    · subst hd
      cases s with
      | nil => simp [elemL, trimB] at h
      | cons x y =>
        simp [elemL, trimB] at h ⊢
        exact ⟨h.1, by rw [h.2]⟩
    · simp [elemL, trimB, hd] at h ⊢
      exact ⟨h.1, by rw [h.2]⟩
theorem dashed_app {r : List UInt8} (t : List UInt8) (h : 2 ≤ r.length) : dashed (r ++ t) = dashed r := by
  match r, h with
  | c :: d :: _, _ => rfl
theorem elsL_app (t : List UInt8) : ∀ (k : Nat) (b : Bool) (s : List UInt8) (E F : Nat → Bool) (r : List UInt8), s.length ≤ k → elsL b s E = some (F, r) → elsL b (s ++ t) E = some (F, r ++ t) := by
  intro k
  induction k with
  | zero =>
    intro b s E F r hk h
    obtain rfl : s = [] := List.eq_nil_of_length_eq_zero (by omega)
    rw [elsL_none (by simp [shuts]) rfl] at h; cases h
  | succ k ih =>
    intro b s E F r hk h
    by_cases hs : b = true ∧ shuts s = true
    · obtain ⟨rfl, h2⟩ := hs
      rw [elsL_shut h2] at h
      cases h
      cases s with
      | nil => cases h2
      | cons c s => rw [List.cons_append, elsL_shut (by exact h2)]; rfl
    · have hs2 : ¬ (b = true ∧ shuts (s ++ t) = true) := by
        cases s with
        | nil => rw [elsL_none (by simp [shuts]) rfl] at h; cases h
        | cons c s => exact hs
      cases e : spanL s with
      | none => rw [elsL_none hs e] at h; cases h
      | some x =>
        obtain ⟨x, y, r2⟩ := x
        rw [elsL_some hs e] at h
        have hlt := spanL_lt e
        have hne : r2 ≠ [] := by
          rintro rfl
          rw [elsL_none (by simp [shuts]) rfl] at h; cases h
        have e2 : spanL (s ++ t) = some (x, y, r2 ++ t) := by
          unfold spanL at e ⊢
          cases hel : elemL s with
          | none => rw [hel] at e; cases e
          | some z =>
            obtain ⟨a, r1⟩ := z
            rw [hel] at e
            rw [elemL_app t hel]
            simp only at e ⊢
            by_cases hd : dashed r1 = true
            · rw [if_pos hd] at e
              have hl : 2 ≤ r1.length := by
                match r1, hd with
                | c :: d :: _, _ => simp
              rw [dashed_app t hl, if_pos hd]
              cases hel2 : elemL r1.tail with
              | none => rw [hel2] at e; cases e
              | some z2 =>
                obtain ⟨b2, r3⟩ := z2
                rw [hel2] at e
                cases e
                have e3 : (r1 ++ t).tail = r1.tail ++ t := by cases r1 with | nil => simp at hl | cons _ _ => rfl
                rw [e3, elemL_app t hel2]
            · rw [if_neg hd] at e
              cases e
              by_cases hl : 2 ≤ r2.length
              · rw [dashed_app t hl, if_neg hd]
              · match r2, hne, hl with
                | [d], _, _ =>
                  have hd93 : d = 93 := by
                    by_cases h93 : d = 93
                    · exact h93
                    · exfalso
                      have hns : ¬ (true = true ∧ shuts [d] = true) := by simp [shuts, h93]
                      by_cases h92 : d = 92
                      · subst h92
                        rw [elsL_none hns rfl] at h; cases h
                      · have e5 : spanL [d] = some (d, d, []) := by simp [spanL, elemL, trimB, h92, dashed]
                        rw [elsL_some hns e5, elsL_none (by simp [shuts]) rfl] at h; cases h
                  subst hd93
                  have e6 : dashed ([93] ++ t) = false := by cases t <;> rfl
                  rw [e6, if_neg (by simp)]
                | _ :: _ :: _, _, hl => simp at hl
        rw [elsL_some hs2 e2]
        exact ih true r2 _ F r (by omega) h
theorem setL_app {s r : List UInt8} {F : Nat → Bool} (t : List UInt8) (h : setL s = some (F, r)) : setL (s ++ t) = some (F, r ++ t) := by
  unfold setL at *
  cases s with
  | nil =>
    rw [show (if negL [] = true then ([] : List UInt8).tail else []) = [] from rfl, elsL_none (by simp) rfl] at h
    cases h
  | cons c s =>
    have hn : negL (c :: s ++ t) = negL (c :: s) := rfl
    rw [hn]
    have e : (if negL (c :: s) = true then (c :: s ++ t).tail else c :: s ++ t) = (if negL (c :: s) = true then (c :: s).tail else c :: s) ++ t := by split <;> rfl
    rw [e]
    cases hel : elsL false (if negL (c :: s) = true then (c :: s).tail else c :: s) (fun _ => false) with
    | none => rw [hel] at h; cases h
    | some x =>
      obtain ⟨E, r2⟩ := x
      rw [hel] at h
      cases h
      rw [elsL_app t _ _ _ _ _ _ (Nat.le_refl _) hel]
/-- The first piece is the same with a pattern behind, but where a star alone meets a star. -/
theorem firstL_app {s r : List UInt8} {p : Pc} (t : List UInt8) (h : firstL s = some (p, r)) (hn : ¬ (s = [42] ∧ starred t = true)) : firstL (s ++ t) = some (p, r ++ t) := by
  cases s with
  | nil => cases h
  | cons c s =>
    rw [List.cons_append, firstL_cons]
    rw [firstL_cons] at h
    by_cases h1 : c = 42
    · rw [if_pos h1] at h ⊢
      unfold starP at *
      cases s with
      | nil =>
        rw [if_neg (by simp [starred])] at h
        cases h
        rw [List.nil_append, if_neg (fun x => hn ⟨by rw [h1], x⟩)]
      | cons d s =>
        have e : starred (d :: s ++ t) = starred (d :: s) := rfl
        rw [e]
        split
        · rename_i h2
          rw [if_pos h2] at h; cases h; rfl
        · rename_i h2
          rw [if_neg h2] at h; cases h; rfl
    · rw [if_neg h1] at h ⊢
      by_cases h2 : c = 63
      · rw [if_pos h2] at h ⊢; cases h; rfl
      · rw [if_neg h2] at h ⊢
        by_cases h3 : c = 91
        · rw [if_pos h3] at h ⊢
          unfold setP at *
          cases hs : setL s with
          | none => rw [hs] at h; cases h
          | some x =>
            obtain ⟨F, r2⟩ := x
            rw [hs] at h
            cases h
            rw [setL_app t hs]
        · rw [if_neg h3] at h ⊢
          unfold elemP at *
          cases hs : elemL (c :: s) with
          | none => rw [hs] at h; cases h
          | some x =>
            obtain ⟨d, r2⟩ := x
            rw [hs] at h
            cases h
            rw [← List.cons_append, elemL_app t hs]
theorem all_one (r s : List UInt8) : mat (42 :: 42 :: r) s = (mat r s || (match s with | [] => false | _ :: m => mat (42 :: 42 :: r) m)) := by
  have e : firstL (42 :: 42 :: r) = some (⟨allT, true⟩, r) := rfl
  rw [mat_many e]
  cases s <;> simp [allT]
theorem star_first {r : List UInt8} (h : starred r = false) : firstL (42 :: r) = some (⟨noSl, true⟩, r) := by
  rw [firstL_cons, if_pos rfl]; unfold starP; rw [if_neg (by simp [h])]
theorem starred_iff {r : List UInt8} (h : starred r = true) : ∃ r2, r = 42 :: r2 := by
  cases r with
  | nil => cases h
  | cons c r2 => exact ⟨r2, by simp only [starred, decide_eq_true_eq] at h; rw [h]⟩
/-- Two stars match what one does. -/
theorem star_two : ∀ (k : Nat) (r b : List UInt8), r.length ≤ k → mat (42 :: r) b = true → mat (42 :: 42 :: r) b = true := by
  intro k
  induction k with
  | zero =>
    intro r b hk h
    obtain rfl : r = [] := List.eq_nil_of_length_eq_zero (by omega)
    induction b with
    | nil => rw [all_one]; rw [mat_many (star_first rfl)] at h; simpa using h
    | cons c m ih =>
      rw [all_one]
      rw [mat_many (star_first rfl)] at h
      simp only [Bool.or_eq_true, Bool.and_eq_true] at h ⊢
      rcases h with h | ⟨_, h⟩
      · exact Or.inl h
      · exact Or.inr (ih h)
  | succ k ihk =>
    intro r b hk h
    cases hs : starred r with
    | false =>
      induction b with
      | nil => rw [all_one]; rw [mat_many (star_first hs)] at h; simpa using h
      | cons c m ih =>
        rw [all_one]
        rw [mat_many (star_first hs)] at h
        simp only [Bool.or_eq_true, Bool.and_eq_true] at h ⊢
        rcases h with h | ⟨_, h⟩
        · exact Or.inl h
        · exact Or.inr (ih h)
    | true =>
      obtain ⟨r2, rfl⟩ := starred_iff hs
      have up : ∀ v, mat r2 v = true → mat (42 :: r2) v = true := by
        intro v hv
        cases hs2 : starred r2 with
        | false =>
          rw [mat_many (star_first hs2), hv]; rfl
        | true =>
          obtain ⟨r3, rfl⟩ := starred_iff hs2
          exact ihk r3 v (by simp at hk; omega) hv
      induction b with
      | nil =>
        rw [all_one] at h ⊢
        simp only [Bool.or_false] at h ⊢
        exact up [] h
      | cons c m ih =>
        rw [all_one] at h ⊢
        simp only [Bool.or_eq_true] at h ⊢
        rcases h with h | h
        · exact Or.inl (up _ h)
        · exact Or.inr (ih h)
theorem all_more (r : List UInt8) : ∀ a b : List UInt8, mat (42 :: 42 :: r) b = true → mat (42 :: 42 :: r) (a ++ b) = true
  | [], b, h => h
  | c :: a, b, h => by
    rw [List.cons_append, all_one]
    simp only [Bool.or_eq_true]
    exact Or.inr (all_more r a b h)
/-- Two patterns that match two names, one behind the other. -/
theorem mat_app (q b : List UInt8) (hq : mat q b = true) : ∀ (k : Nat) (p a : List UInt8), p.length ≤ k → mat p a = true → mat (p ++ q) (a ++ b) = true := by
  intro k
  induction k with
  | zero =>
    intro p a hk h
    obtain rfl : p = [] := List.eq_nil_of_length_eq_zero (by omega)
    rw [mat_nil] at h
    obtain rfl : a = [] := by simpa using h
    exact hq
  | succ k ihk =>
    intro p a hk h
    cases hf : firstL p with
    | none =>
      by_cases hp : p = []
      · subst hp
        rw [mat_nil] at h
        obtain rfl : a = [] := by simpa using h
        exact hq
      · unfold mat at h
        rw [patL_none hp hf] at h; cases h
    | some x =>
      obtain ⟨⟨t, m⟩, r⟩ := x
      have hlt := firstL_lt hf
      by_cases hsp : p = [42] ∧ starred q = true
      · obtain ⟨rfl, hs⟩ := hsp
        obtain ⟨q2, rfl⟩ := starred_iff hs
        exact all_more q2 a b (star_two _ q2 b (Nat.le_refl _) hq)
      · have hf2 := firstL_app q hf hsp
        cases m with
        | true =>
          induction a with
          | nil =>
            rw [mat_many hf] at h
            simp only [Bool.or_false] at h
            rw [mat_many hf2]
            have := ihk r [] (by omega) h
            rw [this]; rfl
          | cons c a ih =>
            rw [mat_many hf] at h
            simp only [Bool.or_eq_true, Bool.and_eq_true] at h
            rw [mat_many hf2]
            simp only [List.cons_append, Bool.or_eq_true, Bool.and_eq_true]
            rcases h with h | ⟨h1, h2⟩
            · exact Or.inl (ihk r (c :: a) (by omega) h)
            · exact Or.inr ⟨h1, ih h2⟩
        | false =>
          rw [mat_one hf] at h
          cases a with
          | nil => cases h
          | cons c a =>
            simp only [Bool.and_eq_true] at h
            rw [mat_one hf2]
            simp only [List.cons_append, Bool.and_eq_true]
            exact ⟨h.1, ihk r a (by omega) h.2⟩
theorem mat_valid {p a : List UInt8} (h : mat p a = true) : (patL p).isSome = true := by
  unfold mat at h
  cases hp : patL p with
  | none => rw [hp] at h; cases h
  | some l => rfl
end Go.Proofs.YtcdoiadmnckccaaDoor
