/- What a piece leaves is an end of the pattern. No run in it. -/
import Derived.Test.YtcdoiadmnckccaaDoorApd
namespace Go.Proofs.YtcdoiadmnckccaaDoor
set_option linter.unusedVariables false
set_option linter.unusedSimpArgs false

theorem trimB_sfx (s : List UInt8) : trimB s <:+ s := by
  cases s with
  | nil => exact List.suffix_refl _
  | cons c r =>
    rw [trimB_cons]
    split
    · exact List.suffix_cons c r
    · exact List.suffix_refl _
theorem elemL_sfx {s r : List UInt8} {c : UInt8} (h : elemL s = some (c, r)) : r <:+ s := by
  have ht := trimB_sfx s
  unfold elemL at h
  split at h
  · cases h
  · rename_i d r2 e
    cases h
    rw [e] at ht
    exact (List.suffix_cons c r).trans ht
theorem tail_sfx (s : List UInt8) : s.tail <:+ s := by
  cases s with
  | nil => exact List.suffix_refl _
  | cons c r => exact List.suffix_cons c r
theorem spanL_sfx {s r : List UInt8} {a b : UInt8} (h : spanL s = some (a, b, r)) : r <:+ s := by
  unfold spanL at h
  split at h
  · cases h
  · rename_i a1 r1 e
    have h1 := elemL_sfx e
    split at h
    · split at h
      · cases h
      · rename_i b2 r2 e2
        cases h
        exact ((elemL_sfx e2).trans (tail_sfx r1)).trans h1
    · cases h; exact h1
theorem elsL_sfx : ∀ (k : Nat) (b : Bool) (s : List UInt8) (E F : Nat → Bool) (r : List UInt8), s.length ≤ k → elsL b s E = some (F, r) → r <:+ s := by
  intro k
  induction k with
  | zero =>
    intro b s E F r hk h
    obtain rfl : s = [] := List.eq_nil_of_length_eq_zero (by omega)
    rw [elsL_none (by simp [shuts]) rfl] at h; cases h
  | succ k ih =>
    intro b s E F r hk h
    by_cases hs : b = true ∧ shuts s = true
    · obtain ⟨rfl, h2⟩ := hs
      rw [elsL_shut h2] at h
      cases h
      exact tail_sfx s
    · cases e : spanL s with
      | none => rw [elsL_none hs e] at h; cases h
      | some x =>
        obtain ⟨x, y, r2⟩ := x
        rw [elsL_some hs e] at h
        have hlt := spanL_lt e
        exact (ih true r2 _ F r (by omega) h).trans (spanL_sfx e)
theorem setL_sfx {s r : List UInt8} {F : Nat → Bool} (h : setL s = some (F, r)) : r <:+ s := by
  unfold setL at h
  split at h
  · cases h
  · rename_i E r2 e
    cases h
    have := elsL_sfx _ _ _ _ _ _ (Nat.le_refl _) e
    split at this
    · exact this.trans (tail_sfx s)
    · exact this
theorem pat_left {p r : List UInt8} {pc : Pc} (h : firstL p = some (pc, r)) (hv : (patL p).isSome = true) : (patL r).isSome = true := by
  rw [patL_some h] at hv
  cases hr : patL r with
  | none => rw [hr] at hv; cases hv
  | some l => rfl
theorem pre_two (r : List UInt8) : Lib.hasPrefix (42 :: 42 :: r) [42, 42] = true := by simp [Lib.hasPrefix, List.isPrefixOf]
theorem pre_star {r : List UInt8} (h : starred r = false) : Lib.hasPrefix (42 :: r) [42, 42] = false := by
  cases r with
  | nil => simp [Lib.hasPrefix, List.isPrefixOf]
  | cons d r =>
    have hd : d ≠ 42 := by simpa [starred] using h
    have hd2 : (42 == d) = false := by simpa using fun e : 42 = d => hd e.symm
    simp [Lib.hasPrefix, List.isPrefixOf, hd2]
theorem pre_other {c : UInt8} (h : c ≠ 42) (r : List UInt8) : Lib.hasPrefix (c :: r) [42, 42] = false := by
  have hd2 : (42 == c) = false := by simpa using fun e : 42 = c => h e.symm
  simp [Lib.hasPrefix, List.isPrefixOf, hd2]
/-- What a pattern tells by the lengths of two ends. -/
def byLen (P N : List UInt8) (i j : Nat) : Bool := mat (P.drop (P.length - i)) (N.drop (N.length - j))
theorem byLen_eq {P N p n : List UInt8} (hp : p <:+ P) (hn : n <:+ N) : byLen P N p.length n.length = mat p n := by
  unfold byLen
  rw [← List.suffix_iff_eq_drop.1 hp, ← List.suffix_iff_eq_drop.1 hn]
end Go.Proofs.YtcdoiadmnckccaaDoor
