/- Patterns as lists of bytes, no run in it: elements, ranges, sets, pieces, and what they match. -/
import Derived.Test.YtcdoiadmnckccaaDoorMk
namespace Go.Proofs.YtcdoiadmnckccaaDoor
set_option linter.unusedVariables false
set_option linter.unusedSimpArgs false

/-- s without a backslash ahead. -/
def trimB : List UInt8 → List UInt8
  | [] => []
  | c :: r => if c = 92 then r else c :: r
/-- A byte, or a backslash and a byte. -/
def elemL (s : List UInt8) : Option (UInt8 × List UInt8) := match trimB s with | [] => none | c :: r => some (c, r)
/-- Is there a '-' and behind it something but ']'? -/
def dashed : List UInt8 → Bool
  | c :: d :: _ => decide (c = 45) && !decide (d = 93)
  | _ => false
/-- A range, or an element. -/
def spanL (s : List UInt8) : Option (UInt8 × UInt8 × List UInt8) :=
  match elemL s with
  | none => none
  | some (a, r) => if dashed r = true then (match elemL r.tail with | none => none | some (b, r2) => some (a, b, r2)) else some (a, a, r)

theorem trimB_cons (c : UInt8) (r : List UInt8) : trimB (c :: r) = if c = 92 then r else c :: r := rfl
theorem trimB_le (s : List UInt8) : (trimB s).length ≤ s.length := by
  cases s with
  | nil => simp [trimB]
  | cons c r => rw [trimB_cons]; split <;> simp
theorem elemL_lt {s : List UInt8} {c : UInt8} {r : List UInt8} (h : elemL s = some (c, r)) : r.length < s.length := by
  unfold elemL at h
  have := trimB_le s
  split at h
  · cases h
  · rename_i c2 r2 e
    cases h
    rw [e] at this
    simp at this; omega
theorem spanL_lt {s : List UInt8} {a b : UInt8} {r : List UInt8} (h : spanL s = some (a, b, r)) : r.length < s.length := by
  unfold spanL at h
  split at h
  · cases h
  · rename_i a1 r1 e
    have h1 := elemL_lt e
    split at h
    · split at h
      · cases h
      · rename_i b2 r2 e2
        cases h
        have h2 := elemL_lt e2
        simp at h2; omega
    · cases h; exact h1

/-- a ≤ i ≤ b. -/
def within (a b : UInt8) (i : Nat) : Bool := decide (a.toNat ≤ i) && decide (i ≤ b.toNat)
/-- Does a ']' stand ahead? -/
def shuts : List UInt8 → Bool
  | c :: _ => decide (c = 93)
  | [] => false
/-- The elements up to ']', laid over E. -/
def elsL (begun : Bool) (s : List UInt8) (E : Nat → Bool) : Option ((Nat → Bool) × List UInt8) :=
  if begun = true ∧ shuts s = true then some (E, s.tail)
  else match h : spanL s with
    | none => none
    | some (a, b, r) => elsL true r (fun i => E i || within a b i)
termination_by s.length
decreasing_by exact spanL_lt h

theorem elsL_shut {s : List UInt8} {E : Nat → Bool} (h : shuts s = true) : elsL true s E = some (E, s.tail) := by rw [elsL, if_pos ⟨rfl, h⟩]
theorem elsL_none {b : Bool} {s : List UInt8} {E : Nat → Bool} (h : ¬ (b = true ∧ shuts s = true)) (e : spanL s = none) : elsL b s E = none := by
  rw [elsL, if_neg h]; split
  · rfl
  · rename_i h2; rw [e] at h2; cases h2
theorem elsL_some {b : Bool} {s : List UInt8} {E : Nat → Bool} {x y : UInt8} {r : List UInt8} (h : ¬ (b = true ∧ shuts s = true)) (e : spanL s = some (x, y, r)) : elsL b s E = elsL true r (fun i => E i || within x y i) := by
  rw [elsL, if_neg h]; split
  · rename_i h2; rw [e] at h2; cases h2
  · rename_i h2; rw [e] at h2; cases h2; rfl

/-- Is the set negated? -/
def negL : List UInt8 → Bool
  | c :: _ => decide (c = 33) || decide (c = 94)
  | [] => false
/-- What a set of the elements E takes. -/
def takesOf (neg : Bool) (E : Nat → Bool) (i : Nat) : Bool := !decide (i = 47) && (if neg = true then !E i else E i)
/-- A set behind its '['. -/
def setL (s : List UInt8) : Option ((Nat → Bool) × List UInt8) :=
  match elsL false (if negL s = true then s.tail else s) (fun _ => false) with
  | none => none
  | some (E, r) => some (takesOf (negL s) E, r)

theorem elsL_lt : ∀ (n : Nat) (b : Bool) (s : List UInt8) (E : Nat → Bool) (F : Nat → Bool) (r : List UInt8), s.length ≤ n → elsL b s E = some (F, r) → r.length ≤ s.length
  | 0, b, s, E, F, r, hn, h => by
    obtain rfl : s = [] := List.eq_nil_of_length_eq_zero (by omega)
    rw [elsL_none (by simp [shuts]) rfl] at h; cases h
  | n + 1, b, s, E, F, r, hn, h => by
    by_cases hs : b = true ∧ shuts s = true
    · obtain ⟨rfl, h2⟩ := hs
      rw [elsL_shut h2] at h
      cases h; simp
    · cases e : spanL s with
      | none => rw [elsL_none hs e] at h; cases h
      | some x =>
        obtain ⟨x, y, r2⟩ := x
        rw [elsL_some hs e] at h
        have h1 := spanL_lt e
        have := elsL_lt n true r2 _ F r (by omega) h
        omega
theorem setL_le {s : List UInt8} {F : Nat → Bool} {r : List UInt8} (h : setL s = some (F, r)) : r.length ≤ s.length := by
  unfold setL at h
  split at h
  · cases h
  · rename_i E r2 e
    cases h
    have := elsL_lt _ _ _ _ _ _ (Nat.le_refl _) e
    split at this
    · simp at this; omega
    · exact this

/-- A piece: which bytes it takes; one of them, or any number. -/
structure Pc where
  t : Nat → Bool
  m : Bool
def allT : Nat → Bool := fun _ => true
def noSl : Nat → Bool := fun i => !decide (i = 47)
def onlyT (c : UInt8) : Nat → Bool := fun i => decide (i = c.toNat)
/-- Does a star stand ahead? -/
def starred : List UInt8 → Bool
  | c :: _ => decide (c = 42)
  | [] => false
def starP (r : List UInt8) : Option (Pc × List UInt8) := if starred r = true then some (⟨allT, true⟩, r.tail) else some (⟨noSl, true⟩, r)
def setP (r : List UInt8) : Option (Pc × List UInt8) := match setL r with | none => none | some (F, r2) => some (⟨F, false⟩, r2)
def elemP (s : List UInt8) : Option (Pc × List UInt8) := match elemL s with | none => none | some (d, r2) => some (⟨onlyT d, false⟩, r2)
/-- The first piece. -/
def firstL : List UInt8 → Option (Pc × List UInt8)
  | [] => none
  | c :: r => if c = 42 then starP r else if c = 63 then some (⟨noSl, false⟩, r) else if c = 91 then setP r else elemP (c :: r)
theorem firstL_cons (c : UInt8) (r : List UInt8) : firstL (c :: r) = if c = 42 then starP r else if c = 63 then some (⟨noSl, false⟩, r) else if c = 91 then setP r else elemP (c :: r) := rfl
theorem firstL_lt {s : List UInt8} {p : Pc} {r : List UInt8} (h : firstL s = some (p, r)) : r.length < s.length := by
  cases s with
  | nil => cases h
  | cons c s =>
    rw [firstL_cons] at h
    split at h
    · unfold starP at h
      split at h
      · cases h; simp; omega
      · cases h; simp
    · split at h
      · cases h; simp
      · split at h
        · unfold setP at h
          split at h
          · cases h
          · rename_i e; cases h; have := setL_le e; simp; omega
        · unfold elemP at h
          split at h
          · cases h
          · rename_i e; cases h; exact elemL_lt e

/-- The pieces of a pattern. -/
def patL (s : List UInt8) : Option (List Pc) :=
  if s = [] then some [] else
  match h : firstL s with
  | none => none
  | some (p, r) => match patL r with | none => none | some l => some (p :: l)
termination_by s.length
decreasing_by exact firstL_lt h
theorem patL_nil : patL [] = some [] := by rw [patL, if_pos rfl]
theorem patL_none {s : List UInt8} (hs : s ≠ []) (h : firstL s = none) : patL s = none := by
  rw [patL, if_neg hs]; split
  · rfl
  · rename_i h2; rw [h] at h2; cases h2
theorem patL_some {s : List UInt8} {p : Pc} {r : List UInt8} (h : firstL s = some (p, r)) : patL s = match patL r with | none => none | some l => some (p :: l) := by
  have hs : s ≠ [] := by rintro rfl; cases h
  rw [patL, if_neg hs]; split
  · rename_i h2; rw [h] at h2; cases h2
  · rename_i h2; rw [h] at h2; cases h2; rfl

/-! ### What pieces match -/
def starM (t : Nat → Bool) (k : List UInt8 → Bool) : List UInt8 → Bool
  | [] => k []
  | c :: r => k (c :: r) || (t c.toNat && starM t k r)
def matL : List Pc → List UInt8 → Bool
  | [], s => s.isEmpty
  | p :: ps, s => if p.m = true then starM p.t (matL ps) s else match s with | [] => false | c :: r => p.t c.toNat && matL ps r
/-- Is the pattern all of the name? -/
def mat (p s : List UInt8) : Bool := match patL p with | none => false | some l => matL l s

theorem mat_nil (s : List UInt8) : mat [] s = s.isEmpty := by unfold mat; rw [patL_nil]; rfl
theorem starM_one (t : Nat → Bool) (k : List UInt8 → Bool) (s : List UInt8) : starM t k s = (k s || (match s with | [] => false | c :: r => t c.toNat && starM t k r)) := by
  cases s with
  | nil => simp [starM]
  | cons c r => rfl
theorem starM_false (t : Nat → Bool) : ∀ s, starM t (fun _ => false) s = false
  | [] => rfl
  | c :: r => by simp [starM, starM_false t r]
/-- A pattern that begins with a piece of many. -/
theorem mat_many {s r : List UInt8} {t : Nat → Bool} (h : firstL s = some (⟨t, true⟩, r)) (n : List UInt8) : mat s n = (mat r n || (match n with | [] => false | c :: m => t c.toNat && mat s m)) := by
  have e : ∀ n, mat s n = starM t (mat r) n := fun n => by
    unfold mat
    rw [patL_some h]
    cases hp : patL r with
    | none => exact (starM_false t n).symm
    | some l => rfl
  rw [e, starM_one]
  cases n with
  | nil => rfl
  | cons c m => simp [e]
/-- .. with a piece of one. -/
theorem mat_one {s r : List UInt8} {t : Nat → Bool} (h : firstL s = some (⟨t, false⟩, r)) (n : List UInt8) : mat s n = (match n with | [] => false | c :: m => t c.toNat && mat r m) := by
  unfold mat
  rw [patL_some h]
  cases hp : patL r with
  | none => cases n <;> simp
  | some l => cases n <;> rfl

/-! ### The places that are reached -/
def followL (p : Pc) (n : List UInt8) (R : Nat → Bool) : Nat → Bool
  | 0 => if p.m = true then R 0 else false
  | j + 1 => if p.m = true then R (j + 1) || (followL p n R j && (match n[j]? with | some c => p.t c.toNat | none => false)) else R j && (match n[j]? with | some c => p.t c.toNat | none => false)
theorem drop_at {n : List UInt8} {i : Nat} (h : i < n.length) : n.drop i = n[i] :: n.drop (i + 1) := List.drop_eq_getElem_cons h
theorem starM_drop {t : Nat → Bool} {k : List UInt8 → Bool} {n : List UInt8} {i : Nat} (h : i < n.length) : starM t k (n.drop i) = (k (n.drop i) || (t n[i].toNat && starM t k (n.drop (i + 1)))) := by
  rw [drop_at h]; rfl
theorem follow_star (t : Nat → Bool) (k : List UInt8 → Bool) (n : List UInt8) (R : Nat → Bool) :
    (∃ j, j ≤ n.length ∧ followL ⟨t, true⟩ n R j = true ∧ k (n.drop j) = true) ↔ ∃ i, i ≤ n.length ∧ R i = true ∧ starM t k (n.drop i) = true := by
  constructor
  · rintro ⟨j, hj, hf, hk⟩
    have main : ∀ j, j ≤ n.length → followL ⟨t, true⟩ n R j = true → starM t k (n.drop j) = true → ∃ i, i ≤ n.length ∧ R i = true ∧ starM t k (n.drop i) = true := by
      intro j
      induction j with
      | zero => intro hj hf hs; exact ⟨0, hj, by simpa [followL] using hf, hs⟩
      | succ j ih =>
        intro hj hf hs
        simp only [followL, if_pos, Bool.or_eq_true, Bool.and_eq_true] at hf
        rcases hf with hf | ⟨hf, hc⟩
        · exact ⟨j + 1, hj, hf, hs⟩
        · rw [List.getElem?_eq_getElem (by omega : j < n.length)] at hc
          refine ih (by omega) hf ?_
          rw [starM_drop (by omega : j < n.length), hs]
          simp only [Bool.and_true]
          rw [show t n[j].toNat = true from hc]; simp
    exact main j hj hf (by rw [starM_one, hk]; rfl)
  · rintro ⟨i, hi, hR, hs⟩
    have main : ∀ d i, n.length - i = d → i ≤ n.length → followL ⟨t, true⟩ n R i = true → starM t k (n.drop i) = true → ∃ j, j ≤ n.length ∧ followL ⟨t, true⟩ n R j = true ∧ k (n.drop j) = true := by
      intro d
      induction d with
      | zero =>
        intro i hd hi hf hs
        obtain rfl : i = n.length := by omega
        refine ⟨n.length, Nat.le_refl _, hf, ?_⟩
        rw [List.drop_length] at hs ⊢
        exact hs
      | succ d ih =>
        intro i hd hi hf hs
        rw [starM_drop (by omega : i < n.length), Bool.or_eq_true, Bool.and_eq_true] at hs
        rcases hs with hs | ⟨hc, hs⟩
        · exact ⟨i, hi, hf, hs⟩
        · refine ih (i + 1) (by omega) (by omega) ?_ hs
          simp only [followL, if_pos, hf, Bool.true_and]
          rw [List.getElem?_eq_getElem (by omega : i < n.length)]
          simp [hc]
    refine main _ i rfl hi ?_ hs
    cases i with
    | zero => simpa [followL] using hR
    | succ i => simp [followL, hR]
theorem follow_one (t : Nat → Bool) (k : List UInt8 → Bool) (n : List UInt8) (R : Nat → Bool) :
    (∃ j, j ≤ n.length ∧ followL ⟨t, false⟩ n R j = true ∧ k (n.drop j) = true) ↔ ∃ i, i ≤ n.length ∧ R i = true ∧ (match n.drop i with | [] => false | c :: r => t c.toNat && k r) = true := by
  constructor
  · rintro ⟨j, hj, hf, hk⟩
    cases j with
    | zero => simp [followL] at hf
    | succ j =>
      simp only [followL, Bool.false_eq_true, if_false, Bool.and_eq_true] at hf
      obtain ⟨hR, hc⟩ := hf
      rw [List.getElem?_eq_getElem (by omega : j < n.length)] at hc
      refine ⟨j, by omega, hR, ?_⟩
      rw [drop_at (by omega : j < n.length)]
      simp only [Bool.and_eq_true]
      exact ⟨hc, hk⟩
  · rintro ⟨i, hi, hR, hs⟩
    by_cases h : i < n.length
    · rw [drop_at h] at hs
      simp only [Bool.and_eq_true] at hs
      refine ⟨i + 1, h, ?_, hs.2⟩
      simp only [followL, Bool.false_eq_true, if_false, Bool.and_eq_true, hR, true_and]
      rw [List.getElem?_eq_getElem h]
      exact hs.1
    · rw [List.drop_eq_nil_of_le (by omega)] at hs
      cases hs
/-- Which places are reached behind all pieces. -/
def reachL (n : List UInt8) (l : List Pc) (R : Nat → Bool) : Nat → Bool := l.foldl (fun R p => followL p n R) R
theorem reach_iff (n : List UInt8) : ∀ (l : List Pc) (R : Nat → Bool), reachL n l R n.length = true ↔ ∃ i, i ≤ n.length ∧ R i = true ∧ matL l (n.drop i) = true
  | [], R => by
    constructor
    · intro h; exact ⟨n.length, Nat.le_refl _, h, by rw [List.drop_length]; rfl⟩
    · rintro ⟨i, hi, hR, hm⟩
      have : n.drop i = [] := by simpa [matL] using hm
      have := List.drop_eq_nil_iff.1 this
      obtain rfl : i = n.length := by omega
      exact hR
  | ⟨t, m⟩ :: l, R => by
    show reachL n l (followL ⟨t, m⟩ n R) n.length = true ↔ _
    rw [reach_iff n l]
    cases m with
    | true => exact follow_star t (matL l) n R
    | false => exact follow_one t (matL l) n R
def startR : Nat → Bool := fun i => decide (i = 0)
theorem reach_mat (n : List UInt8) (l : List Pc) : reachL n l startR n.length = matL l n := by
  rw [Bool.eq_iff_iff, reach_iff]
  constructor
  · rintro ⟨i, hi, hR, hm⟩
    obtain rfl : i = 0 := by simpa [startR] using hR
    simpa using hm
  · intro h; exact ⟨0, Nat.zero_le _, by simp [startR], by simpa using h⟩

/-! ### Quote -/
def special (c : UInt8) : Bool := decide (c = 42) || decide (c = 63) || decide (c = 91) || decide (c = 92)
def quote1 (c : UInt8) : List UInt8 := if special c = true then [92, c] else [c]
def quoteL (n : List UInt8) : List UInt8 := n.flatMap quote1
theorem quoteL_nil : quoteL [] = [] := rfl
theorem quoteL_cons (c : UInt8) (n : List UInt8) : quoteL (c :: n) = quote1 c ++ quoteL n := by simp [quoteL]
theorem quoteL_len : ∀ n : List UInt8, (quoteL n).length ≤ 2 * n.length
  | [] => by simp [quoteL]
  | c :: n => by
    rw [quoteL_cons, List.length_append]
    have := quoteL_len n
    unfold quote1
    split <;> simp <;> omega
theorem firstL_quote (c : UInt8) (r : List UInt8) : firstL (quote1 c ++ r) = some (⟨onlyT c, false⟩, r) := by
  unfold quote1
  split
  · simp [firstL, elemP, elemL, trimB]
  · rename_i h
    simp only [special, Bool.or_eq_true, decide_eq_true_eq, not_or] at h
    obtain ⟨⟨⟨h1, h2⟩, h3⟩, h4⟩ := h
    simp [firstL, elemP, elemL, trimB, h1, h2, h3, h4]
theorem onlyT_self (c d : UInt8) : onlyT c d.toNat = decide (d = c) := by
  unfold onlyT
  by_cases h : d = c
  · subst h; simp
  · simp [h, UInt8.toNat_inj]
/-- A quoted name ahead of a pattern. -/
theorem mat_quote (r : List UInt8) : ∀ (n s : List UInt8), mat (quoteL n ++ r) s = (decide (s.take n.length = n) && mat r (s.drop n.length))
  | [], s => by simp [quoteL]
  | c :: n, s => by
    rw [quoteL_cons, List.append_assoc, mat_one (firstL_quote c _)]
    cases s with
    | nil => simp
    | cons d s =>
      show (onlyT c d.toNat && mat (quoteL n ++ r) s) = _
      rw [onlyT_self, mat_quote r n s]
      by_cases h : d = c <;> simp [h]
theorem mat_quote_all (n s : List UInt8) : mat (quoteL n) s = decide (s = n) := by
  have h := mat_quote [] n s
  rw [List.append_nil, mat_nil] at h
  rw [h, Bool.eq_iff_iff]
  simp only [Bool.and_eq_true, decide_eq_true_eq, List.isEmpty_iff, List.drop_eq_nil_iff]
  constructor
  · rintro ⟨h1, h2⟩; rw [List.take_of_length_le h2] at h1; exact h1
  · rintro rfl; simp
theorem quote_valid (r : List UInt8) (hr : (patL r).isSome = true) : ∀ n : List UInt8, (patL (quoteL n ++ r)).isSome = true
  | [] => by simpa [quoteL] using hr
  | c :: n => by
    rw [quoteL_cons, List.append_assoc, patL_some (firstL_quote c _)]
    have := quote_valid r hr n
    cases h : patL (quoteL n ++ r) with
    | none => rw [h] at this; cases this
    | some l => rfl
end Go.Proofs.YtcdoiadmnckccaaDoor
