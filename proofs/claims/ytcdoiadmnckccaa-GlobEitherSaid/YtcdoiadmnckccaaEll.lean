/- A set whose elements have no ']' and no backslash. No run in it. -/
import Derived.Test.YtcdoiadmnckccaaGn
import Derived.Test.YtcdoiadmnckccaaAnb
namespace Go.Proofs.Ytcdoiadmnckccaa
set_option linter.unusedVariables false
set_option linter.unusedSimpArgs false

theorem elemL_plain {c : UInt8} (h : c ≠ 92) (r : List UInt8) : elemL (c :: r) = some (c, r) := by simp [elemL, trimB, h]
theorem span_plain {c : UInt8} {r : List UInt8} (h : c ≠ 92) (hd : dashed r = false) : spanL (c :: r) = some (c, c, r) := by
  unfold spanL
  rw [elemL_plain h]
  simp [hd]
theorem span_range {c e : UInt8} {r : List UInt8} (h : c ≠ 92) (h2 : e ≠ 92) (h3 : e ≠ 93) : spanL (c :: 45 :: e :: r) = some (c, e, r) := by
  unfold spanL
  rw [elemL_plain h]
  have hd : dashed (45 :: e :: r) = true := by simp [dashed, h3]
  simp only [hd, if_true, List.tail_cons, elemL_plain h2]
theorem hasBad_free {s : List UInt8} (h : hasBad s = false) : ∀ x ∈ s, x ≠ 93 ∧ x ≠ 92 := by
  intro x hx
  unfold hasBad at h
  rw [List.any_eq_false] at h
  have := h x hx
  simp only [Bool.or_eq_true, beq_iff_eq, not_or] at this
  exact this
theorem elsL_free : ∀ (k : Nat) (b : Bool) (s : List UInt8) (E : Nat → Bool), s.length ≤ k → (∀ x ∈ s, x ≠ 93 ∧ x ≠ 92) → (b = true ∨ s ≠ []) → ∃ F, ∀ t, elsL b (s ++ 93 :: t) E = some (F, t) := by
  intro k
  induction k with
  | zero =>
    intro b s E hk hs hb
    obtain rfl : s = [] := List.eq_nil_of_length_eq_zero (by omega)
    rcases hb with rfl | hb
    · exact ⟨E, fun t => elsL_shut rfl⟩
    · exact absurd rfl hb
  | succ k ih =>
    intro b s E hk hs hb
    cases s with
    | nil =>
      rcases hb with rfl | hb
      · exact ⟨E, fun t => elsL_shut rfl⟩
      · exact absurd rfl hb
    | cons c s =>
      have hc := hs c (by simp)
      have hn : ∀ t, ¬ (b = true ∧ shuts (c :: s ++ 93 :: t) = true) := fun t => by simp [shuts, hc.1]
      by_cases hr : ∃ e r, s = 45 :: e :: r
      · obtain ⟨e, r, rfl⟩ := hr
        have he := hs e (by simp)
        obtain ⟨F, hF⟩ := ih true r (fun i => E i || within c e i) (by simp at hk; omega) (fun x hx => hs x (by simp [hx])) (Or.inl rfl)
        refine ⟨F, fun t => ?_⟩
        rw [elsL_some (hn t) (span_range hc.2 he.2 he.1)]
        exact hF t
      · have hd : ∀ t, dashed (s ++ 93 :: t) = false := by
          intro t
          match s, hr with
          | [], _ => cases t <;> rfl
          | [d], _ => simp [dashed]
          | d :: e :: r, hr =>
            have h45 : d ≠ 45 := fun h => hr ⟨e, r, by rw [h]⟩
            simp [dashed, h45]
        obtain ⟨F, hF⟩ := ih true s (fun i => E i || within c c i) (by simp at hk; omega) (fun x hx => hs x (by simp [hx])) (Or.inl rfl)
        refine ⟨F, fun t => ?_⟩
        rw [elsL_some (hn t) (span_plain hc.2 (hd t))]
        exact hF t
/-- What the three patterns of such a set are. -/
theorem pat_free {s : List UInt8} (h0 : s ≠ []) (hn : negL s = false) (hb : hasBad s = false) : ∃ F,
    patL (91 :: s ++ [93]) = some [⟨takesOf false F, false⟩] ∧
    patL (91 :: 33 :: s ++ [93]) = some [⟨takesOf true F, false⟩] ∧
    (patL (91 :: s ++ [93, 120])).isSome = true := by
  obtain ⟨F, hF⟩ := elsL_free _ false s (fun _ => false) (Nat.le_refl _) (hasBad_free hb) (Or.inr h0)
  have hn2 : ∀ t, negL (s ++ t) = false := by
    intro t
    cases s with
    | nil => exact absurd rfl h0
    | cons c s => exact hn
  have s1 : ∀ t, setL (s ++ 93 :: t) = some (takesOf false F, t) := by
    intro t
    unfold setL
    rw [hn2, if_neg (by simp), hF t]
  have s2 : ∀ t, setL (33 :: s ++ 93 :: t) = some (takesOf true F, t) := by
    intro t
    unfold setL
    have e : negL (33 :: s ++ 93 :: t) = true := rfl
    rw [e, if_pos rfl]
    show (match elsL false (s ++ 93 :: t) (fun _ => false) with | none => none | some (E, r) => some (takesOf true E, r)) = _
    rw [hF t]
  have f1 : ∀ t, firstL (91 :: (s ++ 93 :: t)) = some (⟨takesOf false F, false⟩, t) := by
    intro t
    rw [firstL_cons, if_neg (by decide), if_neg (by decide), if_pos rfl]
    unfold setP; rw [s1]
  have f2 : firstL (91 :: (33 :: s ++ [93])) = some (⟨takesOf true F, false⟩, []) := by
    rw [firstL_cons, if_neg (by decide), if_neg (by decide), if_pos rfl]
    unfold setP; rw [s2]
  have f3 : firstL [120] = some (⟨onlyT 120, false⟩, []) := rfl
  refine ⟨F, ?_, ?_, ?_⟩
  · rw [List.cons_append, patL_some (f1 []), patL_nil]
  · have e : 91 :: 33 :: s ++ [93] = 91 :: (33 :: s ++ [93]) := rfl
    rw [e, patL_some f2, patL_nil]
  · rw [List.cons_append, patL_some (f1 [120]), patL_some f3, patL_nil]
    rfl
theorem mat_single {p : List UInt8} {t : Nat → Bool} (h : patL p = some [⟨t, false⟩]) (c : UInt8) : mat p [c] = t c.toNat := by
  unfold mat
  rw [h]
  simp [matL]
end Go.Proofs.Ytcdoiadmnckccaa
