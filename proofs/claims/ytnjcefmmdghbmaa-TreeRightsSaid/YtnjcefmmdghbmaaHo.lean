/- Ho: what the texts of the name hold, joined. -/
import Derived.Test.YtnjcefmmdghbmaaBa
import Derived.SizedLaws
import Derived.Deep.SlicePairs
import Derived.Carry
import Derived.ChangeMaps5
import Derived.Deep.LoopGhost
import Derived.OpenShut
set_option linter.unusedSimpArgs false
set_option linter.unusedVariables false
section
/- Pieces of sparse files, as lists of pairs of numbers: valid, found, taken, put. -/
namespace Go.Proofs.Ytnjcefmmdghbmaa
open Go.RowKit (wrap64)
set_option linter.unusedVariables false

abbrev Pc := Int × Int
/-- The pieces are in order behind e, do not touch, and lie within size. -/
def rightF (size : Int) : Int → List Pc → Bool
  | _, [] => true
  | e, p :: l => decide (e < p.1) && (decide (1 ≤ p.2) && (decide (p.2 ≤ size - p.1) && rightF size (p.1 + p.2) l))
def mapRight (l : List Pc) (size : Int) : Bool := decide (0 ≤ size) && (decide (l.length ≤ 20) && rightF size (-1) l)
def sumL : List Pc → Int
  | [] => 0
  | p :: l => p.2 + sumL l
/-- The sum, with wraparound. -/
def sizeF (a : Int) : List Pc → Int
  | [] => a
  | p :: l => sizeF (wrap64 (a + p.2)) l
/-- Where the last piece ends. -/
def endE : Int → List Pc → Int
  | e, [] => e
  | _, p :: l => endE (p.1 + p.2) l
def cutP (s : List UInt8) (p : Pc) : List UInt8 := (s.drop p.1.toNat).take p.2.toNat
def takeL (s : List UInt8) : List Pc → List UInt8
  | [] => []
  | p :: l => cutP s p ++ takeL s l
/-- What is put from the place e on. -/
def putF (n : Nat) : Nat → List UInt8 → List Pc → List UInt8
  | e, _, [] => List.replicate (n - e) 0
  | e, d, p :: l => List.replicate (p.1.toNat - e) 0 ++ (d.take p.2.toNat ++ putF n (p.1 + p.2).toNat (d.drop p.2.toNat) l)
def putL (d : List UInt8) (l : List Pc) (n : Nat) : List UInt8 := putF n 0 d l
/-- Does a piece hold the place? -/
def cov (l : List Pc) (j : Int) : Bool := l.any fun p => decide (p.1 ≤ j) && decide (j < p.1 + p.2)

/-! ### Valid lists -/
theorem rightF_cons {size e : Int} {p : Pc} {l : List Pc} : rightF size e (p :: l) = true ↔ e < p.1 ∧ 1 ≤ p.2 ∧ p.2 ≤ size - p.1 ∧ rightF size (p.1 + p.2) l = true := by
  simp [rightF]
theorem rightF_snoc (size : Int) (p : Pc) : ∀ (l : List Pc) (e : Int), rightF size e (l ++ [p]) = true ↔ rightF size e l = true ∧ endE e l < p.1 ∧ 1 ≤ p.2 ∧ p.2 ≤ size - p.1
  | [], e => by simp [rightF, endE]
  | q :: l, e => by
    rw [List.cons_append, rightF_cons, rightF_cons, rightF_snoc size p l]
    simp only [endE]
    constructor
    · rintro ⟨h1, h2, h3, h4, h5⟩; exact ⟨⟨h1, h2, h3, h4⟩, h5⟩
    · rintro ⟨⟨h1, h2, h3, h4⟩, h5⟩; exact ⟨h1, h2, h3, h4, h5⟩
theorem endE_snoc (p : Pc) : ∀ (l : List Pc) (e : Int), endE e (l ++ [p]) = p.1 + p.2
  | [], e => rfl
  | q :: l, e => endE_snoc p l _
theorem endE_take {l : List Pc} {i : Nat} {p : Pc} (h : l[i]? = some p) (e : Int) : endE e (l.take (i + 1)) = p.1 + p.2 := by
  rw [List.take_add_one, h]
  exact endE_snoc p _ e
theorem rightF_take {size : Int} {l : List Pc} {i : Nat} {p : Pc} {e : Int} (h : l[i]? = some p) : rightF size e (l.take (i + 1)) = true ↔ rightF size e (l.take i) = true ∧ endE e (l.take i) < p.1 ∧ 1 ≤ p.2 ∧ p.2 ≤ size - p.1 := by
  rw [List.take_add_one, h]
  exact rightF_snoc size p _ e
theorem rightF_prefix {size : Int} : ∀ (l : List Pc) (e : Int) (i : Nat), rightF size e l = true → rightF size e (l.take i) = true
  | [], e, i, h => by rw [List.take_nil]; exact h
  | p :: l, e, 0, h => rfl
  | p :: l, e, i + 1, h => by
    rw [List.take_succ_cons, rightF_cons]
    rw [rightF_cons] at h
    exact ⟨h.1, h.2.1, h.2.2.1, rightF_prefix l _ i h.2.2.2⟩
theorem rightF_false {size e : Int} {l : List Pc} {i : Nat} (h : rightF size e (l.take i) = false) : rightF size e l = false := by
  cases hh : rightF size e l with
  | false => rfl
  | true => rw [rightF_prefix l e i hh] at h; cases h
theorem rightF_end {size : Int} : ∀ (l : List Pc) (e : Int), rightF size e l = true → e ≤ endE e l ∧ (l ≠ [] → endE e l ≤ size)
  | [], e, h => ⟨Int.le_refl _, fun h => absurd rfl h⟩
  | p :: l, e, h => by
    rw [rightF_cons] at h
    have ih := rightF_end l _ h.2.2.2
    refine ⟨?_, fun _ => ?_⟩
    · simp only [endE]; omega
    · simp only [endE]
      by_cases hl : l = []
      · subst hl; simp only [endE]; omega
      · exact ih.2 hl
theorem rightF_at {size : Int} {l : List Pc} {i : Nat} {p : Pc} {e : Int} (h : l[i]? = some p) (hr : rightF size e l = true) : endE e (l.take i) < p.1 ∧ 1 ≤ p.2 ∧ p.2 ≤ size - p.1 ∧ e ≤ endE e (l.take i) := by
  have h1 := (rightF_take h).1 (rightF_prefix l e (i + 1) hr)
  exact ⟨h1.2.1, h1.2.2.1, h1.2.2.2, (rightF_end _ _ h1.1).1⟩
theorem sumL_bound {size : Int} : ∀ (l : List Pc) (e : Int), rightF size e l = true → 0 ≤ sumL l ∧ (l = [] ∨ sumL l ≤ size - e - 1)
  | [], e, h => ⟨Int.le_refl _, Or.inl rfl⟩
  | p :: l, e, h => by
    rw [rightF_cons] at h
    have ih := sumL_bound l _ h.2.2.2
    have h0 := ih.1
    refine ⟨by simp only [sumL]; omega, Or.inr ?_⟩
    simp only [sumL]
    rcases ih.2 with rfl | h1
    · simp only [sumL]; omega
    · omega
theorem wrap64_id {x : Int} (h0 : 0 ≤ x) (h1 : x ≤ 9223372036854775807) : wrap64 x = x :=
  Go.IntWalk.wrap64_in x ⟨by omega, by omega⟩
theorem sizeF_sum {size : Int} (hs : size ≤ 9223372036854775807) : ∀ (l : List Pc) (e a : Int), rightF size e l = true → 0 ≤ a → a ≤ e + 1 → sizeF a l = a + sumL l
  | [], e, a, h, _, _ => by simp [sizeF, sumL]
  | p :: l, e, a, h, h0, h1 => by
    rw [rightF_cons] at h
    simp only [sizeF, sumL]
    rw [wrap64_id (by omega) (by omega), sizeF_sum hs l _ _ h.2.2.2 (by omega) (by omega)]
    omega
theorem sizeF_zero {size : Int} (hs : size ≤ 9223372036854775807) {l : List Pc} (h : rightF size (-1) l = true) : sizeF 0 l = sumL l := by
  rw [sizeF_sum hs l (-1) 0 h (by omega) (by omega)]; omega
theorem sizeF_snoc (p : Pc) : ∀ (l : List Pc) (a : Int), sizeF a (l ++ [p]) = wrap64 (sizeF a l + p.2)
  | [], a => rfl
  | q :: l, a => sizeF_snoc p l _
theorem sizeF_take {l : List Pc} {i : Nat} {p : Pc} (h : l[i]? = some p) (a : Int) : sizeF a (l.take (i + 1)) = wrap64 (sizeF a (l.take i) + p.2) := by
  rw [List.take_add_one, h]; exact sizeF_snoc p _ a

/-! ### Taken, and put -/
theorem takeL_append (s : List UInt8) : ∀ (l m : List Pc), takeL s (l ++ m) = takeL s l ++ takeL s m
  | [], m => rfl
  | p :: l, m => by rw [List.cons_append, takeL, takeL, takeL_append s l m, List.append_assoc]
theorem takeL_take {l : List Pc} {i : Nat} {p : Pc} (s : List UInt8) (h : l[i]? = some p) : takeL s (l.take (i + 1)) = takeL s (l.take i) ++ cutP s p := by
  rw [List.take_add_one, h, takeL_append]
  simp [takeL]
theorem cutP_length {s : List UInt8} {p : Pc} (h0 : 0 ≤ p.1) (h1 : 0 ≤ p.2) (h2 : p.2 ≤ (s.length : Int) - p.1) : ((cutP s p).length : Int) = p.2 := by
  unfold cutP; rw [List.length_take, List.length_drop]; omega
theorem takeL_length {s : List UInt8} : ∀ (l : List Pc) (e : Int), -1 ≤ e → rightF s.length e l = true → ((takeL s l).length : Int) = sumL l
  | [], e, _, _ => rfl
  | p :: l, e, he, h => by
    rw [rightF_cons] at h
    have h1 := cutP_length (s := s) (p := p) (by omega) (by omega) h.2.2.1
    have h2 := takeL_length l _ (by omega) h.2.2.2
    rw [takeL, List.length_append, sumL]
    omega
theorem putF_length (n : Nat) : ∀ (l : List Pc) (e : Nat) (d : List UInt8), rightF n ((e : Int) - 1) l = true → e ≤ n → (d.length : Int) = sumL l → (putF n e d l).length = n - e
  | [], e, d, _, _, _ => by rw [putF, List.length_replicate]
  | p :: l, e, d, h, he, hd => by
    rw [rightF_cons] at h
    rw [sumL] at hd
    have hr : rightF n (((p.1 + p.2).toNat : Int) - 1) l = true := by
      cases l with
      | nil => rfl
      | cons q l =>
        rw [rightF_cons] at h ⊢
        exact ⟨by omega, h.2.2.2.2⟩
    have hb := (sumL_bound l _ h.2.2.2).1
    have ih := putF_length n l (p.1 + p.2).toNat (d.drop p.2.toNat) hr (by omega) (by rw [List.length_drop]; omega)
    rw [putF, List.length_append, List.length_append, ih, List.length_replicate, List.length_take]
    omega
/-- One behind the end, or the end: valid all the same. -/
theorem rightF_low {size : Int} {e e' : Int} {l : List Pc} (h : rightF size e l = true) (he : e' ≤ e) : rightF size e' l = true := by
  cases l with
  | nil => rfl
  | cons q l =>
    rw [rightF_cons] at h ⊢
    exact ⟨by omega, h.2⟩
theorem cov_low {size : Int} : ∀ (l : List Pc) (e j : Int), rightF size e l = true → j ≤ e → cov l j = false
  | [], e, j, _, _ => rfl
  | p :: l, e, j, h, hj => by
    rw [rightF_cons] at h
    have ih := cov_low l _ j h.2.2.2 (by omega)
    unfold cov at ih ⊢
    rw [List.any_cons, ih, Bool.or_false, decide_eq_false (by omega : ¬ p.1 ≤ j), Bool.false_and]
theorem cov_cons (p : Pc) (l : List Pc) (j : Int) : cov (p :: l) j = ((decide (p.1 ≤ j) && decide (j < p.1 + p.2)) || cov l j) := rfl
theorem drop_zeros (s : List UInt8) (e c : Nat) (h : e + c ≤ s.length) (hz : ∀ j, e ≤ j → j < e + c → s[j]? = some 0) : (s.drop e).take c = List.replicate c 0 := by
  apply List.ext_getElem?
  intro j
  by_cases hj : j < c
  · rw [List.getElem?_take, if_pos hj, List.getElem?_drop, hz _ (by omega) (by omega), List.getElem?_replicate, if_pos hj]
  · rw [List.getElem?_take, if_neg hj, List.getElem?_replicate, if_neg hj]
/-- What is taken and put again is the text, if it is 0 between the pieces. -/
theorem putF_take (s : List UInt8) : ∀ (l : List Pc) (e : Nat), rightF s.length ((e : Int) - 1) l = true → e ≤ s.length → (∀ j : Nat, e ≤ j → j < s.length → cov l j = false → s[j]? = some 0) → putF s.length e (takeL s l) l = s.drop e
  | [], e, _, he, hz => by
    rw [putF]
    have := drop_zeros s e (s.length - e) (by omega) fun j h1 h2 => hz j h1 (by omega) rfl
    rw [← this, List.take_of_length_le (by rw [List.length_drop]; omega)]
  | p :: l, e, h, he, hz => by
    have h' := h
    rw [rightF_cons] at h
    have hl := cutP_length (s := s) (p := p) (by omega) (by omega) h.2.2.1
    have ih := putF_take s l (p.1 + p.2).toNat (rightF_low h.2.2.2 (by omega)) (by omega) fun j h1 h2 h3 => hz j (by omega) h2 (by
      rw [cov_cons, h3, Bool.or_false, decide_eq_false (by omega : ¬ (j : Int) < p.1 + p.2), Bool.and_false])
    rw [putF, takeL, List.take_left' (by omega), List.drop_left' (by omega), ih]
    have hzero := drop_zeros s e (p.1.toNat - e) (by omega) fun j h1 h2 => hz j h1 (by omega) (by
      rw [cov_cons, decide_eq_false (by omega : ¬ p.1 ≤ (j : Int)), Bool.false_and, Bool.false_or]
      exact cov_low l _ _ h.2.2.2 (by omega))
    rw [← hzero]
    unfold cutP
    have e1 : s.drop (p.1 + p.2).toNat = (s.drop p.1.toNat).drop p.2.toNat := by rw [List.drop_drop]; congr 1; omega
    rw [e1, List.take_append_drop]
    have e2 : s.drop p.1.toNat = (s.drop e).drop (p.1.toNat - e) := by rw [List.drop_drop]; congr 1; omega
    rw [e2, List.take_append_drop]
/-- What is put is taken again. -/
theorem takeL_putF (n : Nat) : ∀ (l : List Pc) (e : Nat) (d pre : List UInt8), rightF n ((e : Int) - 1) l = true → pre.length = e → (d.length : Int) = sumL l → takeL (pre ++ putF n e d l) l = d
  | [], e, d, pre, _, _, hd => by
    have : d.length = 0 := by simp only [sumL] at hd; omega
    rw [List.eq_nil_of_length_eq_zero this]; rfl
  | p :: l, e, d, pre, h, hp, hd => by
    rw [rightF_cons] at h
    rw [sumL] at hd
    have hb := (sumL_bound l _ h.2.2.2).1
    rw [putF, takeL]
    have hlen : (pre ++ List.replicate (p.1.toNat - e) (0 : UInt8)).length = p.1.toNat := by rw [List.length_append, List.length_replicate]; omega
    have hlen2 : ((pre ++ List.replicate (p.1.toNat - e) (0 : UInt8)) ++ d.take p.2.toNat).length = (p.1 + p.2).toNat := by rw [List.length_append, hlen, List.length_take]; omega
    have ih := takeL_putF n l (p.1 + p.2).toNat (d.drop p.2.toNat) ((pre ++ List.replicate (p.1.toNat - e) 0) ++ d.take p.2.toNat) (rightF_low h.2.2.2 (by omega)) hlen2 (by rw [List.length_drop]; omega)
    have e1 : pre ++ (List.replicate (p.1.toNat - e) 0 ++ (d.take p.2.toNat ++ putF n (p.1 + p.2).toNat (d.drop p.2.toNat) l)) = ((pre ++ List.replicate (p.1.toNat - e) 0) ++ d.take p.2.toNat) ++ putF n (p.1 + p.2).toNat (d.drop p.2.toNat) l := by simp only [List.append_assoc]
    rw [e1, ih]
    unfold cutP
    rw [List.append_assoc, List.drop_left' hlen, List.take_left' (by rw [List.length_take]; omega), List.take_append_drop]
/-- What lies in no piece is 0. -/
theorem putF_zero (n : Nat) : ∀ (l : List Pc) (e : Nat) (d : List UInt8) (j : Nat), rightF n ((e : Int) - 1) l = true → (d.length : Int) = sumL l → e + j < n → cov l ((e + j : Nat) : Int) = false → (putF n e d l)[j]? = some 0
  | [], e, d, j, _, _, hj, _ => by rw [putF, List.getElem?_replicate, if_pos (by omega)]
  | p :: l, e, d, j, h, hd, hj, hc => by
    rw [rightF_cons] at h
    rw [sumL] at hd
    have hb := (sumL_bound l _ h.2.2.2).1
    rw [cov_cons, Bool.or_eq_false_iff, Bool.and_eq_false_iff, decide_eq_false_iff_not, decide_eq_false_iff_not] at hc
    rw [putF]
    by_cases h1 : ((e + j : Nat) : Int) < p.1
    · rw [List.getElem?_append_left (by rw [List.length_replicate]; omega), List.getElem?_replicate, if_pos (by omega)]
    · have h2 : p.1 + p.2 ≤ ((e + j : Nat) : Int) := by omega
      rw [List.getElem?_append_right (by rw [List.length_replicate]; omega), List.length_replicate, List.getElem?_append_right (by rw [List.length_take]; omega), List.length_take]
      have ih := putF_zero n l (p.1 + p.2).toNat (d.drop p.2.toNat) (e + j - (p.1 + p.2).toNat) (rightF_low h.2.2.2 (by omega)) (by rw [List.length_drop]; omega) (by omega) (by
        rw [show (p.1 + p.2).toNat + (e + j - (p.1 + p.2).toNat) = e + j by omega]; exact hc.2)
      rw [← ih]
      congr 1
      omega
/-- Behind the pieces ahead of i. -/
theorem putF_step {n : Nat} {l : List Pc} {i : Nat} {p : Pc} (h : l[i]? = some p) (e : Nat) (d : List UInt8) : putF n e d (l.drop i) = List.replicate (p.1.toNat - e) 0 ++ (d.take p.2.toNat ++ putF n (p.1 + p.2).toNat (d.drop p.2.toNat) (l.drop (i + 1))) := by
  obtain ⟨h1, h2⟩ := List.getElem?_eq_some_iff.1 h
  rw [List.drop_eq_getElem_cons h1, h2, putF]
theorem sumL_append : ∀ (l m : List Pc), sumL (l ++ m) = sumL l + sumL m
  | [], m => by simp [sumL]
  | p :: l, m => by rw [List.cons_append, sumL, sumL, sumL_append l m]; omega
end Go.Proofs.Ytnjcefmmdghbmaa
end
section
/- The pieces of a text: runs of places, by blocks. -/
namespace Go.Proofs.Ytnjcefmmdghbmaa
set_option linter.unusedVariables false

/-- The last piece is longer by c. -/
def bump (l : List Pc) (c : Int) : List Pc := match l.getLast? with
  | none => l
  | some p => l.dropLast ++ [(p.1, p.2 + c)]
theorem bump_snoc (l : List Pc) (p : Pc) (c : Int) : bump (l ++ [p]) c = l ++ [(p.1, p.2 + c)] := by
  unfold bump; simp
theorem snoc_cases (l : List Pc) : l = [] ∨ ∃ m p, l = m ++ [p] := by
  rcases List.eq_nil_or_concat l with h | ⟨m, p, h⟩
  · exact Or.inl h
  · exact Or.inr ⟨m, p, by rw [h]; simp⟩
theorem bump_length (l : List Pc) (c : Int) : (bump l c).length = l.length := by
  rcases snoc_cases l with rfl | ⟨m, p, rfl⟩
  · rfl
  · rw [bump_snoc]; simp
theorem bump_bump (l : List Pc) (c d : Int) : bump (bump l c) d = bump l (c + d) := by
  rcases snoc_cases l with rfl | ⟨m, p, rfl⟩
  · rfl
  · rw [bump_snoc, bump_snoc, bump_snoc, Int.add_assoc]
/-- What stood ahead of this place. -/
def prevB (f : Nat → Bool) : Nat → Bool
  | 0 => false
  | i + 1 => f i
/-- The runs of places at which f is, ahead of a place. -/
def runs (f : Nat → Bool) : Nat → List Pc
  | 0 => []
  | i + 1 => if f i = true then (if prevB f i = true then bump (runs f i) 1 else runs f i ++ [((i : Int), 1)]) else runs f i

theorem runs_end (f : Nat → Bool) : ∀ i : Nat, (prevB f i = true → ∃ m p, runs f i = m ++ [p] ∧ p.1 + p.2 = (i : Int)) ∧ (prevB f i = false → endE (-1) (runs f i) < (i : Int)) ∧ endE (-1) (runs f i) ≤ (i : Int)
  | 0 => ⟨fun h => (by cases h), fun _ => (by simp [runs, endE]), (by simp [runs, endE])⟩
  | i + 1 => by
    obtain ⟨h1, h2, h3⟩ := runs_end f i
    rw [runs]
    cases hf : f i with
    | false =>
      rw [if_neg (by simp)]
      refine ⟨fun h => (by rw [prevB, hf] at h; cases h), fun _ => ?_, ?_⟩ <;> omega
    | true =>
      rw [if_pos rfl]
      cases hp : prevB f i with
      | true =>
        obtain ⟨m, p, hm, he⟩ := h1 hp
        rw [if_pos rfl, hm, bump_snoc, endE_snoc]
        refine ⟨fun _ => ⟨m, _, rfl, (by simp only; omega)⟩, fun h => (by rw [prevB, hf] at h; cases h), (by simp only; omega)⟩
      | false =>
        rw [if_neg (by simp), endE_snoc]
        refine ⟨fun _ => ⟨_, _, rfl, (by simp only; omega)⟩, fun h => (by rw [prevB, hf] at h; cases h), (by simp only; omega)⟩
theorem runs_endE (f : Nat → Bool) (i : Nat) : endE (-1) (runs f i) = (i : Int) ↔ prevB f i = true := by
  obtain ⟨h1, h2, _⟩ := runs_end f i
  cases hp : prevB f i with
  | true => obtain ⟨m, p, hm, he⟩ := h1 hp; rw [hm, endE_snoc, he]; simp
  | false => have := h2 hp; simp; omega
theorem runs_right (f : Nat → Bool) : ∀ (i : Nat) (n : Int), (i : Int) ≤ n → rightF n (-1) (runs f i) = true
  | 0, n, _ => rfl
  | i + 1, n, hn => by
    obtain ⟨h1, h2, h3⟩ := runs_end f i
    have ih := runs_right f i n (by omega)
    rw [runs]
    split
    · split
      · next hp =>
        obtain ⟨m, p, hm, he⟩ := h1 hp
        rw [hm, bump_snoc, rightF_snoc]
        rw [hm, rightF_snoc] at ih
        exact ⟨ih.1, ih.2.1, by simp only; omega, by simp only; omega⟩
      · next hp =>
        have := h2 (by simpa using hp)
        rw [rightF_snoc]
        exact ⟨ih, this, by simp only; omega, by simp only; omega⟩
    · exact ih
theorem cov_snoc (l : List Pc) (p : Pc) (j : Int) : cov (l ++ [p]) j = (cov l j || (decide (p.1 ≤ j) && decide (j < p.1 + p.2))) := by
  unfold cov; rw [List.any_append]; simp
theorem runs_cov (f : Nat → Bool) : ∀ (i j : Nat), cov (runs f i) (j : Int) = (decide (j < i) && f j)
  | 0, j => by simp [runs, cov]
  | i + 1, j => by
    obtain ⟨h1, h2, h3⟩ := runs_end f i
    have ih := runs_cov f i j
    rw [runs]
    by_cases hji : j = i
    · subst hji
      rw [decide_eq_true (by omega : j < j + 1), Bool.true_and]
      rw [decide_eq_false (by omega : ¬ j < j), Bool.false_and] at ih
      cases hf : f j with
      | false => rw [if_neg (by simp)]; exact ih
      | true =>
        rw [if_pos rfl]
        cases hp : prevB f j with
        | true =>
          obtain ⟨m, p, hm, he⟩ := h1 hp
          have hr := runs_right f j j (by omega)
          rw [hm, rightF_snoc] at hr
          rw [if_pos rfl, hm, bump_snoc, cov_snoc]
          simp only
          rw [decide_eq_true (by omega : p.1 ≤ (j : Int)), decide_eq_true (by omega : (j : Int) < p.1 + (p.2 + 1))]; simp
        | false =>
          rw [if_neg (by simp), cov_snoc]
          simp only
          rw [decide_eq_true (by omega : (j : Int) ≤ (j : Int)), decide_eq_true (by omega : (j : Int) < (j : Int) + 1)]; simp
    · have e1 : decide (j < i + 1) = decide (j < i) := by
        by_cases h : j < i
        · rw [decide_eq_true h, decide_eq_true (by omega)]
        · rw [decide_eq_false h, decide_eq_false (by omega)]
      rw [e1, ← ih]
      split
      · split
        · next hp =>
          obtain ⟨m, p, hm, he⟩ := h1 hp
          rw [hm, bump_snoc, cov_snoc, cov_snoc]
          congr 2
          simp only
          by_cases h : (j : Int) < p.1 + p.2
          · rw [decide_eq_true h, decide_eq_true (by omega)]
          · rw [decide_eq_false h, decide_eq_false (by omega)]
        · rw [cov_snoc]
          simp only
          by_cases h : (i : Int) ≤ (j : Int)
          · rw [decide_eq_false (by omega : ¬ (j : Int) < (i : Int) + 1)]; simp
          · rw [decide_eq_false h]; simp
      · rfl
theorem runs_congr {f g : Nat → Bool} : ∀ (i : Nat), (∀ j, j < i → f j = g j) → runs f i = runs g i
  | 0, _ => rfl
  | i + 1, h => by
    have hp : prevB f i = prevB g i := by
      cases i with
      | zero => rfl
      | succ i => exact h i (by omega)
    rw [runs, runs, runs_congr i fun j hj => h j (by omega), h i (by omega), hp]
theorem runs_off (f : Nat → Bool) (i : Nat) : ∀ c : Nat, (∀ j, i ≤ j → j < i + c → f j = false) → runs f (i + c) = runs f i
  | 0, _ => rfl
  | c + 1, h => by
    rw [← Nat.add_assoc, runs, h _ (by omega) (by omega), if_neg (by simp)]
    exact runs_off f i c fun j h1 h2 => h j h1 (by omega)
theorem runs_on (f : Nat → Bool) (i : Nat) : ∀ c : Nat, (∀ j, i ≤ j → j < i + (c + 1) → f j = true) → runs f (i + (c + 1)) = if prevB f i = true then bump (runs f i) ((c + 1 : Nat) : Int) else runs f i ++ [((i : Int), ((c + 1 : Nat) : Int))]
  | 0, h => by
    rw [← Nat.add_assoc, Nat.add_zero, runs, h i (by omega) (by omega), if_pos rfl]; rfl
  | c + 1, h => by
    have ih := runs_on f i c fun j h1 h2 => h j h1 (by omega)
    rw [← Nat.add_assoc, runs, h _ (by omega) (by omega), if_pos rfl]
    rw [show prevB f (i + (c + 1)) = true from h (i + c) (by omega) (by omega), if_pos rfl, ih]
    split
    · rw [bump_bump]; congr 1
    · rw [bump_snoc]; rfl
theorem runs_length_mono (f : Nat → Bool) (i : Nat) : ∀ c : Nat, (runs f i).length ≤ (runs f (i + c)).length
  | 0 => Nat.le_refl _
  | c + 1 => by
    refine Nat.le_trans (runs_length_mono f i c) ?_
    rw [← Nat.add_assoc, runs]
    split
    · split
      · rw [bump_length]; exact Nat.le_refl _
      · rw [List.length_append]; omega
    · exact Nat.le_refl _

/-! ### By blocks -/
/-- Does the block of this place hold a byte other than 0? -/
def onB (s : List UInt8) (k i : Nat) : Bool := ((s.drop (i / k * k)).take k).any (· != 0)
def findF (s : List UInt8) (k : Nat) : List Pc := runs (onB s k) s.length
theorem onB_at (s : List UInt8) (k i j : Nat) (h : i / k = j / k) : onB s k i = onB s k j := by unfold onB; rw [h]
theorem onB_true {s : List UInt8} {k i : Nat} {c : UInt8} (h : s[i]? = some c) (hk : 0 < k) (hc : c ≠ 0) : onB s k i = true := by
  unfold onB
  rw [List.any_eq_true]
  refine ⟨c, ?_, by simpa using hc⟩
  have h1 := Nat.div_add_mod i k
  have h2 := Nat.mod_lt i hk
  have h3 : i / k * k = k * (i / k) := Nat.mul_comm _ _
  apply List.mem_of_getElem? (i := i - i / k * k)
  rw [List.getElem?_take, if_pos (by omega), List.getElem?_drop, show i / k * k + (i - i / k * k) = i by omega, h]
theorem onB_false {s : List UInt8} {k b : Nat} (hk : 0 < k) (i : Nat) (hb : i / k = b) (hz : ∀ j, b * k ≤ j → j < b * k + k → j < s.length → s[j]? = some 0) : onB s k i = false := by
  unfold onB
  rw [hb, List.any_eq_false]
  intro c hc
  obtain ⟨j, hj⟩ := List.mem_iff_getElem?.1 hc
  rw [List.getElem?_take] at hj
  split at hj
  · rw [List.getElem?_drop] at hj
    have := hz (b * k + j) (by omega) (by omega) (List.getElem?_eq_some_iff.1 hj).1
    rw [hj] at this
    simp [Option.some.inj this]
  · cases hj
theorem onB_zero {s : List UInt8} {k i : Nat} {c : UInt8} (h : s[i]? = some c) (hk : 0 < k) (ho : onB s k i = false) : c = 0 := by
  by_cases hc : c = 0
  · exact hc
  · rw [onB_true h hk hc] at ho; cases ho
theorem div_block {k b i : Nat} (hk : 0 < k) (h0 : b * k ≤ i) (h1 : i < b * k + k) : i / k = b := by
  rw [show i = (i - b * k) + k * b by rw [Nat.mul_comm k b]; omega, Nat.add_mul_div_left _ _ hk, Nat.div_eq_of_lt (by omega)]; omega
theorem block_div {k i : Nat} (hk : 0 < k) : i / k * k ≤ i ∧ i < i / k * k + k := by
  have h1 := Nat.div_add_mod i k
  have h2 := Nat.mod_lt i hk
  have h3 : i / k * k = k * (i / k) := Nat.mul_comm _ _
  omega

/-- The pieces of the blocks ahead of block b. -/
def findB (s : List UInt8) (k b : Nat) : List Pc := runs (onB s k) (min (b * k) s.length)
theorem findB_off {s : List UInt8} {k b : Nat} (hk : 0 < k) (hz : ∀ j, b * k ≤ j → j < b * k + k → j < s.length → s[j]? = some 0) : findB s k (b + 1) = findB s k b := by
  unfold findB
  rw [Nat.succ_mul]
  by_cases h : s.length ≤ b * k
  · rw [Nat.min_eq_right h, Nat.min_eq_right (by omega)]
  · rw [Nat.min_eq_left (by omega : b * k ≤ s.length), show min (b * k + k) s.length = b * k + (min (b * k + k) s.length - b * k) by omega]
    exact runs_off _ _ _ fun j h1 h2 => onB_false hk j (div_block hk h1 (by omega)) hz
theorem findB_on {s : List UInt8} {k b i : Nat} {c : UInt8} (hk : 0 < k) (h0 : b * k ≤ i) (h1 : i < b * k + k) (hi : s[i]? = some c) (hc : c ≠ 0) :
    findB s k (b + 1) = if endE (-1) (findB s k b) = ((b * k : Nat) : Int) then bump (findB s k b) ((min k (s.length - b * k) : Nat) : Int) else findB s k b ++ [(((b * k : Nat) : Int), ((min k (s.length - b * k) : Nat) : Int))] := by
  have hn := (List.getElem?_eq_some_iff.1 hi).1
  unfold findB
  rw [Nat.succ_mul, Nat.min_eq_left (by omega : b * k ≤ s.length)]
  obtain ⟨d, hd⟩ : ∃ d, min k (s.length - b * k) = d + 1 := ⟨min k (s.length - b * k) - 1, by omega⟩
  rw [show min (b * k + k) s.length = b * k + (d + 1) by omega, hd]
  rw [runs_on _ _ d fun j h2 h3 => by rw [onB_at s k j i (by rw [div_block hk h2 (by omega), div_block hk h0 h1])]; exact onB_true hi hk hc]
  simp only [runs_endE]
theorem findB_end {s : List UInt8} {k b : Nat} : endE (-1) (findB s k b) ≤ ((min (b * k) s.length : Nat) : Int) := (runs_end _ _).2.2

/-- Between two rounds, at place i, e the end of the last piece. -/
def FInv (s : List UInt8) (k i : Nat) (l : List Pc) (e : Int) : Prop :=
  e = endE (-1) l ∧ i ≤ s.length ∧ ((l = findB s k (i / k) ∧ ∀ j, i / k * k ≤ j → j < i → s[j]? = some 0) ∨ (l = findB s k (i / k + 1) ∧ e = ((min ((i / k + 1) * k) s.length : Nat) : Int) ∧ ((i : Int) < e ∨ i = s.length)))
theorem FInv.start (s : List UInt8) (k : Nat) : FInv s k 0 [] (-1) := ⟨rfl, by omega, Or.inl ⟨by rw [Nat.zero_div]; unfold findB; rw [Nat.zero_mul, Nat.zero_min]; rfl, fun j _ h => by omega⟩⟩
/-- The next place is in this block, or begins the next. -/
theorem next_block {k i : Nat} (hk : 0 < k) : (i + 1) / k = i / k ∧ i + 1 < i / k * k + k ∨ (i + 1) / k = i / k + 1 ∧ i + 1 = (i / k + 1) * k := by
  have h1 := block_div (i := i) hk
  by_cases h : i + 1 < i / k * k + k
  · exact Or.inl ⟨div_block hk (by omega) h, h⟩
  · refine Or.inr ⟨div_block hk (by rw [Nat.succ_mul]; omega) (by rw [Nat.succ_mul]; omega), by rw [Nat.succ_mul]; omega⟩
/-- A round that is skipped. -/
theorem FInv.skip {s : List UInt8} {k i : Nat} {l : List Pc} {e : Int} (hk : 0 < k) (h : FInv s k i l e) (hi : i < s.length) (hs : s[i]? = some 0 ∨ (i : Int) < e) : FInv s k (i + 1) l e := by
  obtain ⟨he, _, h⟩ := h
  have hb := block_div (i := i) hk
  refine ⟨he, by omega, ?_⟩
  rcases h with ⟨hl, hz⟩ | ⟨hl, he2, _⟩
  · have hlow : e ≤ (i : Int) := by
      have := findB_end (s := s) (k := k) (b := i / k)
      rw [← hl] at this
      omega
    have h0 : s[i]? = some 0 := by
      rcases hs with h | h
      · exact h
      · omega
    left
    have hz' : ∀ j, i / k * k ≤ j → j < i + 1 → s[j]? = some 0 := fun j h1 h2 => by
      by_cases hj : j = i
      · subst hj; exact h0
      · exact hz j h1 (by omega)
    rcases next_block (i := i) hk with ⟨e1, e2⟩ | ⟨e1, e2⟩
    · rw [e1]; exact ⟨hl, hz'⟩
    · rw [e1]
      refine ⟨?_, fun j h1 h2 => by omega⟩
      rw [findB_off hk fun j h1 h2 _ => hz' j h1 (by rw [Nat.succ_mul] at e2; omega)]
      exact hl
  · rcases next_block (i := i) hk with ⟨e1, e2⟩ | ⟨e1, e2⟩
    · right
      rw [e1]
      rw [Nat.succ_mul] at he2 ⊢
      exact ⟨hl, he2, by omega⟩
    · left
      rw [e1]
      exact ⟨hl, fun j h1 h2 => by omega⟩
theorem FInv.low {s : List UInt8} {k i : Nat} {l : List Pc} {e : Int} (hk : 0 < k) (h : FInv s k i l e) (hi : i < s.length) (hs : ¬ (i : Int) < e) : l = findB s k (i / k) ∧ e ≤ ((i / k * k : Nat) : Int) := by
  obtain ⟨he, _, ⟨hl, hz⟩ | ⟨hl, he2, h⟩⟩ := h
  · refine ⟨hl, ?_⟩
    have := findB_end (s := s) (k := k) (b := i / k)
    rw [← hl] at this
    omega
  · omega
/-- A round that finds a block. -/
theorem FInv.take {s : List UInt8} {k i : Nat} {l : List Pc} {e : Int} {c : UInt8} (hk : 0 < k) (h : FInv s k i l e) (hi : s[i]? = some c) (hc : c ≠ 0) (hs : ¬ (i : Int) < e) :
    FInv s k (i + 1) (if e = ((i / k * k : Nat) : Int) then bump l ((min k (s.length - i / k * k) : Nat) : Int) else l ++ [(((i / k * k : Nat) : Int), ((min k (s.length - i / k * k) : Nat) : Int))]) (((i / k * k + min k (s.length - i / k * k) : Nat) : Int)) := by
  have hn := (List.getElem?_eq_some_iff.1 hi).1
  have hb := block_div (i := i) hk
  obtain ⟨hl, hlow⟩ := h.low hk hn hs
  have he := h.1
  have hL := findB_on hk hb.1 hb.2 hi hc
  rw [← hl, ← he] at hL
  rw [← hL]
  have hE : (((i / k * k + min k (s.length - i / k * k) : Nat) : Int)) = endE (-1) (findB s k (i / k + 1)) := by
    rw [hL]
    split
    · next h0 =>
      rcases snoc_cases l with rfl | ⟨m, p, rfl⟩
      · rw [he] at h0; simp only [endE] at h0; omega
      · rw [endE_snoc] at he
        rw [bump_snoc, endE_snoc]
        simp only
        omega
    · rw [endE_snoc]; simp
  refine ⟨hE, by omega, ?_⟩
  rcases next_block (i := i) hk with ⟨e1, e2⟩ | ⟨e1, e2⟩
  · right
    rw [e1, Nat.succ_mul]
    exact ⟨rfl, by omega, by omega⟩
  · left
    rw [e1]
    exact ⟨rfl, fun j h1 h2 => by omega⟩
theorem FInv.done {s : List UInt8} {k : Nat} {l : List Pc} {e : Int} (hk : 0 < k) (h : FInv s k s.length l e) : l = findF s k := by
  have hb := block_div (i := s.length) hk
  obtain ⟨he, _, ⟨hl, hz⟩ | ⟨hl, _⟩⟩ := h
  · rw [hl]
    have : findB s k (s.length / k + 1) = findB s k (s.length / k) := findB_off hk fun j h1 h2 h3 => hz j h1 h3
    rw [← this]
    unfold findB findF
    rw [Nat.succ_mul, Nat.min_eq_right (by omega)]
  · rw [hl]
    unfold findB findF
    rw [Nat.succ_mul, Nat.min_eq_right (by omega)]
theorem findB_le (s : List UInt8) (k b : Nat) : (findB s k b).length ≤ (findF s k).length := by
  unfold findB findF
  have := runs_length_mono (onB s k) (min (b * k) s.length) (s.length - min (b * k) s.length)
  rw [show min (b * k) s.length + (s.length - min (b * k) s.length) = s.length by omega] at this
  exact this
/-- One piece too many. -/
theorem FInv.over {s : List UInt8} {k i : Nat} {l : List Pc} {e : Int} {c : UInt8} (hk : 0 < k) (h : FInv s k i l e) (hi : s[i]? = some c) (hc : c ≠ 0) (hs : ¬ (i : Int) < e) (hne : ¬ e = ((i / k * k : Nat) : Int)) (h20 : l.length = 20) : 20 < (findF s k).length := by
  have hn := (List.getElem?_eq_some_iff.1 hi).1
  have hb := block_div (i := i) hk
  obtain ⟨hl, hlow⟩ := h.low hk hn hs
  have hL := findB_on hk hb.1 hb.2 hi hc
  rw [← hl, ← h.1, if_neg hne] at hL
  have := findB_le s k (i / k + 1)
  rw [hL, List.length_append] at this
  simp at this
  omega
theorem FInv.length {s : List UInt8} {k i : Nat} {l : List Pc} {e : Int} (h : FInv s k i l e) : l.length ≤ (findF s k).length := by
  obtain ⟨_, _, ⟨hl, _⟩ | ⟨hl, _⟩⟩ := h <;> rw [hl] <;> exact findB_le _ _ _
theorem FInv.right {s : List UInt8} {k i : Nat} {l : List Pc} {e : Int} (h : FInv s k i l e) : rightF s.length (-1) l = true := by
  obtain ⟨_, _, ⟨hl, _⟩ | ⟨hl, _⟩⟩ := h <;> rw [hl] <;> exact runs_right _ _ _ (by omega)
theorem FInv.last_pos {s : List UInt8} {k i : Nat} {l : List Pc} {e : Int} (h : FInv s k i l e) (m : List Pc) (p : Pc) (hl : l = m ++ [p]) : 0 ≤ p.1 := by
  have hr := h.right
  rw [hl, rightF_snoc] at hr
  have := (rightF_end _ _ hr.1).1
  omega
theorem FInv.last_le {s : List UInt8} {k i : Nat} {l : List Pc} {e : Int} (h : FInv s k i l e) (m : List Pc) (p : Pc) (hl : l = m ++ [p]) : p.2 ≤ s.length - p.1 ∧ 1 ≤ p.2 ∧ 0 ≤ p.1 := by
  have hr := h.right
  have h0 := h.last_pos m p hl
  rw [hl, rightF_snoc] at hr
  exact ⟨hr.2.2.2, hr.2.2.1, h0⟩
theorem findF_right (s : List UInt8) (k : Nat) : rightF s.length (-1) (findF s k) = true := runs_right _ _ _ (by omega)

/-! ### What the pieces hold -/
theorem findF_back (s : List UInt8) (k : Nat) (hk : 0 < k) : putL (takeL s (findF s k)) (findF s k) s.length = s := by
  unfold putL
  have := putF_take s (findF s k) 0 (by simpa using findF_right s k) (by omega) fun j _ hj hc => by
    unfold findF at hc
    rw [runs_cov, decide_eq_true hj, Bool.true_and] at hc
    obtain ⟨c, hc'⟩ : ∃ c, s[j]? = some c := ⟨_, List.getElem?_eq_getElem hj⟩
    rw [hc', onB_zero hc' hk hc]
  rw [this, List.drop_zero]
/-- A piece that begins with a block, and holds a byte other than 0. -/
def GoodP (s : List UInt8) (k : Nat) (p : Pc) : Prop := (∃ b : Nat, p.1 = ((b * k : Nat) : Int)) ∧ ∃ x : Nat, p.1 ≤ (x : Int) ∧ (x : Int) < p.1 + p.2 ∧ ∃ c, s[x]? = some c ∧ c ≠ 0
theorem findB_good (s : List UInt8) (k : Nat) (hk : 0 < k) : ∀ b : Nat, ∀ p ∈ findB s k b, GoodP s k p
  | 0, p, hp => by unfold findB at hp; rw [Nat.zero_mul, Nat.zero_min] at hp; cases hp
  | b + 1, p, hp => by
    have ih := findB_good s k hk b
    by_cases hz : ∀ j, b * k ≤ j → j < b * k + k → j < s.length → s[j]? = some 0
    · rw [findB_off hk hz] at hp; exact ih p hp
    · simp only [Classical.not_forall] at hz
      obtain ⟨i, h0, h1, h2, h3⟩ := hz
      obtain ⟨c, hi⟩ : ∃ c, s[i]? = some c := ⟨_, List.getElem?_eq_getElem h2⟩
      have hc : c ≠ 0 := fun e => h3 (by rw [hi, e])
      rw [findB_on hk h0 h1 hi hc] at hp
      split at hp
      · rcases snoc_cases (findB s k b) with h | ⟨m, q, h⟩
        · rw [h] at hp; cases hp
        · rw [h] at hp ih
          rw [bump_snoc] at hp
          rcases List.mem_append.1 hp with hp | hp
          · exact ih p (List.mem_append_left _ hp)
          · rw [List.mem_singleton] at hp
            obtain ⟨g1, x, g2, g3, g4⟩ := ih q (List.mem_append_right _ (List.mem_singleton.2 rfl))
            subst hp
            exact ⟨g1, x, g2, by simp only; omega, g4⟩
      · rcases List.mem_append.1 hp with hp | hp
        · exact ih p hp
        · rw [List.mem_singleton] at hp
          subst hp
          exact ⟨⟨b, rfl⟩, i, by simp only; omega, by simp only; omega, c, hi, hc⟩
theorem findF_good (s : List UInt8) (k : Nat) (hk : 0 < k) (p : Pc) (hp : p ∈ findF s k) : GoodP s k p := by
  have hb := block_div (i := s.length) hk
  refine findB_good s k hk (s.length / k + 1) p ?_
  unfold findB
  rw [Nat.succ_mul, Nat.min_eq_right (by omega)]
  exact hp

/-! ### Two texts -/
theorem sumL_bump (l : List Pc) (c : Int) (h : l ≠ []) : sumL (bump l c) = sumL l + c := by
  rcases snoc_cases l with rfl | ⟨m, p, rfl⟩
  · exact absurd rfl h
  · rw [bump_snoc, sumL_append, sumL_append]; simp only [sumL]; omega
theorem runs_ne {f : Nat → Bool} {i : Nat} (h : prevB f i = true) : runs f i ≠ [] := by
  obtain ⟨m, p, hm, _⟩ := (runs_end f i).1 h
  rw [hm]; simp
theorem runs_join (f g : Nat → Bool) (q : Nat) : ∀ m : Nat, (∀ i, i < m → f (q + i) = g i) →
    sumL (runs f (q + m)) = sumL (runs f q) + sumL (runs g m) ∧
    (runs f (q + m)).length = (runs f q).length + (runs g m).length - (if m ≠ 0 ∧ prevB f q = true ∧ g 0 = true then 1 else 0) ∧ (m ≠ 0 → g 0 = true → (runs g m).length ≠ 0)
  | 0, _ => by simp [runs, sumL]
  | m + 1, h => by
    obtain ⟨h1, h2, h3⟩ := runs_join f g q m fun i hi => h i (by omega)
    have hm := h m (by omega)
    rw [← Nat.add_assoc, runs, runs, hm]
    cases hg : g m with
    | false =>
      rw [if_neg (by simp), if_neg (by simp)]
      refine ⟨h1, ?_, fun _ h0 => ?_⟩
      · by_cases m0 : m = 0
        · subst m0; rw [h2]; simp [hg]
        · rw [h2]; simp [m0]
      · by_cases m0 : m = 0
        · subst m0; rw [hg] at h0; cases h0
        · exact h3 m0 h0
    | true =>
      rw [if_pos rfl, if_pos rfl]
      by_cases m0 : m = 0
      · subst m0
        rw [Nat.add_zero]
        rw [show prevB g 0 = false from rfl]
        simp only [Bool.false_eq_true, if_false]
        cases hp : prevB f q with
        | true => simp [runs, sumL, sumL_bump _ _ (runs_ne hp), bump_length, hg]
        | false => simp [runs, sumL, sumL_append]
      · obtain ⟨m', rfl⟩ : ∃ m', m = m' + 1 := ⟨m - 1, by omega⟩
        have hp : prevB f (q + (m' + 1)) = prevB g (m' + 1) := h m' (by omega)
        rw [hp]
        have h2' : (runs f (q + (m' + 1))).length = (runs f q).length + (runs g (m' + 1)).length - (if prevB f q = true ∧ g 0 = true then 1 else 0) := by rw [h2]; simp
        have h3' : g 0 = true → (runs g (m' + 1)).length ≠ 0 := fun h0 => h3 (by omega) h0
        cases hp2 : prevB g (m' + 1) with
        | true =>
          rw [if_pos rfl, if_pos rfl, sumL_bump _ _ (runs_ne (hp.trans hp2)), sumL_bump _ _ (runs_ne hp2), bump_length, bump_length, h2']
          refine ⟨by omega, by simp, fun _ => h3'⟩
        | false =>
          rw [if_neg (by simp), if_neg (by simp), sumL_append, sumL_append, List.length_append, List.length_append, h2']
          refine ⟨by simp only [sumL]; omega, ?_, fun _ _ => by simp⟩
          by_cases hc : prevB f q = true ∧ g 0 = true
          · have := h3' hc.2
            rw [if_pos hc, if_pos ⟨by omega, hc⟩]
            simp only [List.length_singleton]; omega
          · rw [if_neg hc, if_neg (fun h => hc h.2)]
            simp only [List.length_singleton]; omega
theorem onB_left (s t : List UInt8) (k q i : Nat) (hk : 0 < k) (hs : s.length = q * k) (hi : i < s.length) : onB (s ++ t) k i = onB s k i := by
  have hb := block_div (i := i) hk
  have hq : i / k < q := Nat.div_lt_of_lt_mul (by rw [Nat.mul_comm]; omega)
  have hm : (i / k + 1) * k ≤ q * k := Nat.mul_le_mul_right _ hq
  rw [Nat.succ_mul] at hm
  unfold onB
  rw [List.drop_append_of_le_length (by omega), List.take_append_of_le_length (by rw [List.length_drop]; omega)]
theorem onB_right (s t : List UInt8) (k q i : Nat) (hk : 0 < k) (hs : s.length = q * k) : onB (s ++ t) k (s.length + i) = onB t k i := by
  unfold onB
  have : (s.length + i) / k * k = s.length + i / k * k := by
    rw [hs, Nat.add_comm (q * k), Nat.mul_comm q k, Nat.add_mul_div_left _ _ hk, Nat.add_mul, Nat.mul_comm q k]; omega
  rw [this, ← List.drop_drop, List.drop_left' rfl]
theorem findF_join (s t : List UInt8) (k q : Nat) (hk : 0 < k) (hs : s.length = q * k) :
    sumL (findF (s ++ t) k) = sumL (findF s k) + sumL (findF t k) ∧ (findF (s ++ t) k).length ≤ (findF s k).length + (findF t k).length ∧ (findF s k).length + (findF t k).length ≤ (findF (s ++ t) k).length + 1 := by
  unfold findF
  rw [List.length_append]
  obtain ⟨h1, h2, _⟩ := runs_join (onB (s ++ t) k) (onB t k) s.length t.length fun i _ => onB_right s t k q i hk hs
  rw [runs_congr (f := onB (s ++ t) k) (g := onB s k) s.length fun j hj => onB_left s t k q j hk hs hj] at h1 h2
  refine ⟨h1, ?_, ?_⟩ <;> (rw [h2]; split <;> omega)
end Go.Proofs.Ytnjcefmmdghbmaa
end
section
/- Lists of pieces that come in as arguments; Right, Size and the reference's. -/
namespace Go.Proofs.Ytnjcefmmdghbmaa
open Go.RowKit Go.Joins
set_option linter.unusedVariables false

/-- A list of pieces lies behind the address. -/
def PiecesAt (W : World) (ad : Option Addr) (l : List Pc) : Prop :=
  ∀ (i : Nat) (p : Pc), l[i]? = some p → ∃ b off, ad = some ⟨b, off, none⟩ ∧ b < W.heap.size ∧ W.cell? ⟨b, off + i * 2, none⟩ = some (.int .i64 p.1) ∧ W.cell? ⟨b, off + i * 2 + 1, none⟩ = some (.int .i64 p.2)
theorem PiecesAt.below {W W' : World} {ad : Option Addr} {l : List Pc} (h : PiecesAt W ad l) (hb : Below W.heap.size W W') : PiecesAt W' ad l := fun i p hi => by
  obtain ⟨b, off, h1, h2, h3, h4⟩ := h i p hi
  exact ⟨b, off, h1, Nat.lt_of_lt_of_le h2 hb.size, (hb.cell (p := ⟨b, off + i * 2, none⟩) h2).trans h3, (hb.cell (p := ⟨b, off + i * 2 + 1, none⟩) h2).trans h4⟩
/-- The pieces in one block. -/
def RowAt (W : World) (b off : Nat) (l : List Pc) : Prop :=
  ∀ (i : Nat) (p : Pc), l[i]? = some p → W.cell? ⟨b, off + i * 2, none⟩ = some (.int .i64 p.1) ∧ W.cell? ⟨b, off + i * 2 + 1, none⟩ = some (.int .i64 p.2)
theorem RowAt.below {W W' : World} {b off : Nat} {l : List Pc} (hlt : b < W.heap.size) (h : RowAt W b off l) (hb : Below W.heap.size W W') : RowAt W' b off l := fun i p hi => by
  obtain ⟨h3, h4⟩ := h i p hi
  exact ⟨(hb.cell (p := ⟨b, off + i * 2, none⟩) hlt).trans h3, (hb.cell (p := ⟨b, off + i * 2 + 1, none⟩) hlt).trans h4⟩
theorem PiecesAt.cases {W : World} {ad : Option Addr} {l : List Pc} (h : PiecesAt W ad l) : l = [] ∨ ∃ b off, ad = some ⟨b, off, none⟩ ∧ b < W.heap.size ∧ RowAt W b off l := by
  cases l with
  | nil => exact Or.inl rfl
  | cons q l =>
    right
    obtain ⟨b, off, h1, h2, _⟩ := h 0 q rfl
    refine ⟨b, off, h1, h2, fun i p hi => ?_⟩
    obtain ⟨b', off', h1', _, h3, h4⟩ := h i p hi
    rw [h1] at h1'
    cases h1'
    exact ⟨h3, h4⟩
/-- Numbers of 64 bits. -/
def Fits (l : List Pc) : Prop := ∀ p ∈ l, (-9223372036854775808 ≤ p.1 ∧ p.1 ≤ 9223372036854775807) ∧ (-9223372036854775808 ≤ p.2 ∧ p.2 ≤ 9223372036854775807)
/-- A piece, as a datum. -/
abbrev pcD {H : Type} (p : Pc) : DataW H := .agg [.lit (.int .i64 p.1), .lit (.int .i64 p.2)]

theorem spot_of_cell {w : World} {a : Addr} {v : Value} (h : w.cell? a = some v) : a.spot = none := by
  unfold World.cell? at h
  split at h
  · cases hs : a.spot with
    | none => rfl
    | some x => rw [hs] at h; simp at h
  · cases h
theorem open_pieces {H : Type} {enc : TypeId × Value → H} {P : Program} {t e : TypeId} {f0 f1 : Field} {W : World} {r : Reach} {b0 : Nat} {v : Value} {d : DataW H} {ps : List MemPlace} (ht : P.underlying t = some (.slice e)) (he : P.underlying e = some (.struct #[f0, f1]))
    (ce : P.cellsOf e = 2) (o0 : f0.offset = 0) (o1 : f1.offset = 1) (c0 : P.cellsOf f0.type = 1) (c1 : P.cellsOf f1.type = 1) (u0 : P.underlying f0.type = some (.int .i64)) (u1 : P.underlying f1.type = some (.int .i64))
    (hval : Value.okWide P W r b0 t v) (hd : DataW.Trod enc P W 0 (fun _ => true) true t v d ps) :
    ∃ ad cap l, v = .slice ad l.length cap ∧ l.length ≤ maxLen ∧ PiecesAt W ad l ∧ Fits l := by
  obtain ⟨a, n, c, rfl⟩ := Go.WideShapes.okWide_slice ht hval
  obtain ⟨fuel, hf⟩ := hd
  have hcells : (Value.slice a n c).cells = #[.slice a n c] := by simp [Value.cells]
  rw [hcells] at hf
  rcases Go.Deep.open_slice_pairs ht he ce o0 o1 c0 c1 hf with ⟨h0, h00⟩ | ⟨a', len, cap, m, nn, V0, V1, D0, D1, P0, P1, h1, _, h3, h4, h5, h6, h7⟩
  · have : Value.slice a n c = .slice none 0 0 := by simpa using h0
    injection this with e1 e2 e3
    subst e1 e2 e3
    exact ⟨none, 0, [], rfl, by unfold maxLen; simp, fun i p hi => by simp at hi, fun p hp => by simp at hp⟩
  · have : Value.slice a n c = .slice (some a') len cap := by simpa using h1
    injection this with e1 e2 e3
    subst e1 e2 e3
    have hm : n ≤ m := by rw [h5]; split <;> omega
    have each : ∀ i, i < n → ∃ q : Int × Int, V0 i = .int .i64 q.1 ∧ V1 i = .int .i64 q.2 ∧ (Lit.int .i64 q.1).wf = true ∧ (Lit.int .i64 q.2).wf = true := fun i hi => by
      obtain ⟨_, _, g0, g1⟩ := h7 i (by omega)
      obtain ⟨s0, x1, x2, x3⟩ := DataW.trod_int u0 g0
      obtain ⟨s1, y1, y2, y3⟩ := DataW.trod_int u1 g1
      exact ⟨(s0, s1), by simpa using x1, by simpa using y1, x3, y3⟩
    obtain ⟨q, hq⟩ := Go.Deep.choose_lt each
    have hl : ((List.range n).map fun i => ((q i).1, (q i).2)).length = n := by simp
    refine ⟨some a', c, (List.range n).map fun i => ((q i).1, (q i).2), by rw [hl], by rw [hl]; omega, fun i p hi => ?_, fun p hp => ?_⟩
    · obtain ⟨hi1, hi2⟩ := List.getElem?_eq_some_iff.1 hi
      rw [hl] at hi1
      rw [List.getElem_map, List.getElem_range] at hi2
      subst hi2
      obtain ⟨g0, g1, _, _⟩ := h7 i (by omega)
      obtain ⟨q1, q2, _⟩ := hq i hi1
      have g00 := (h7 0 (by omega)).1
      rw [Nat.zero_mul, show a'.add 0 = a' from by unfold Addr.add; rw [if_pos rfl]] at g00
      have hsp := spot_of_cell g00
      rw [q1] at g0
      rw [q2] at g1
      obtain ⟨b, off, sp⟩ := a'
      subst hsp
      rw [Go.WideShapes.add_plain] at g0 g1
      exact ⟨b, off, rfl, World.block_lt_of_cell? _ _ g0, g0, g1⟩
    · obtain ⟨i, hi, rfl⟩ := List.mem_map.1 hp
      rw [List.mem_range] at hi
      obtain ⟨_, _, k1, k2⟩ := hq i hi
      have w1 := bounds_i64 k1
      have w2 := bounds_i64 k2
      exact ⟨w1, w2⟩

set_option maxHeartbeats 2000000 in
theorem sizeA_any (ad : Option Addr) (cap : Nat) (l : List Pc) (hl : l.length ≤ maxLen) (hF : Fits l) (w : World) (hM : PiecesAt w ad l) :
    Calls Try.prog 24 #[.slice ad l.length cap] w fun e w' => e = .returned (.int .i64 (sizeF 0 l)) ∧ Below w.heap.size w w' := by
  unfold maxLen at hl
  rcases hM.cases with rfl | ⟨b, off, rfl, hlt, hR⟩
  · clear hM hF
    go_enter Try.func24, Try.ntmps24
    go_wp2
    refine wp_loop_rounds 1 ?_
    rw [rounds_succ]
    go_wp2
    go_ret
    exact ⟨rfl, Below.refl _ _⟩
  · clear hM
    have HR := Lib.hid (fun w' hb => RowAt.below (W' := w') hlt hR hb)
    have HF := Lib.hid hF
    clear hR hF hlt
    go_enter Try.func24, Try.ntmps24
    go_wp2
    go_loopg [3, 8] l.length (fun g s2 s8 wr => ∃ i : Nat, i ≤ l.length ∧ l.length - i ≤ g ∧ s2 = .int .i64 (sizeF 0 (l.take i)) ∧ s8 = .int .i64 i ∧ Aside (Below w.heap.size w wr))
    case atStart => exact ⟨0, by omega, by omega, rfl, rfl, (show Aside _ from Below.refl _ _)⟩
    case round =>
      obtain ⟨i, hi, hg, rfl, rfl, A⟩ := hrel
      by_cases hil : i < l.length
      · obtain ⟨p, hp⟩ : ∃ p, l[i]? = some p := ⟨_, List.getElem?_eq_getElem hil⟩
        obtain ⟨c1, c2⟩ := HR.out wr A.out i p hp
        have hF := HF.out p (List.mem_of_getElem? hp)
        have HS := Lib.hid (sizeF_take hp 0)
        clear hp
        go_wp2
        go_roundg (l.length - (i + 1))
        case measure => omega
        case rel => exact ⟨i + 1, by omega, by omega, by rw [HS.out], by first | rfl | simp, (show Aside _ from A.out.alloc A.out.size _)⟩
      · go_wp2
        go_ret
        rw [List.take_of_length_le (by omega)]
        exact ⟨rfl, A.out⟩
theorem mapRight_false_size {l : List Pc} {size : Int} (h : size < 0) : mapRight l size = false := by
  unfold mapRight; rw [decide_eq_false (by omega), Bool.false_and]
theorem mapRight_false_long {l : List Pc} {size : Int} (h : 20 < l.length) : mapRight l size = false := by
  unfold mapRight; rw [decide_eq_false (by omega : ¬ l.length ≤ 20), Bool.false_and, Bool.and_false]
theorem mapRight_false_at {l : List Pc} {size : Int} {i : Nat} {p : Pc} (hp : l[i]? = some p) (h : p.1 ≤ endE (-1) (l.take i) ∨ p.2 < 1 ∨ size - p.1 < p.2) : mapRight l size = false := by
  unfold mapRight
  have : rightF size (-1) l = false := rightF_false (i := i + 1) (by
    cases hh : rightF size (-1) (l.take (i + 1)) with
    | false => rfl
    | true => have := (rightF_take hp).1 hh; omega)
  rw [this, Bool.and_false, Bool.and_false]
theorem mapRight_true {l : List Pc} {size : Int} (h0 : 0 ≤ size) (h1 : l.length ≤ 20) (h2 : rightF size (-1) l = true) : mapRight l size = true := by
  unfold mapRight; rw [decide_eq_true h0, decide_eq_true h1, h2]; rfl
theorem mapRight_inv {l : List Pc} {size : Int} (h : mapRight l size = true) : 0 ≤ size ∧ l.length ≤ 20 ∧ rightF size (-1) l = true := by
  unfold mapRight at h
  rw [Bool.and_eq_true, Bool.and_eq_true, decide_eq_true_iff, decide_eq_true_iff] at h
  exact h
theorem mapRight_nil {size : Int} (h : 0 ≤ size) : mapRight [] size = true := mapRight_true h (by simp) rfl

set_option maxHeartbeats 2000000 in
theorem rightA_any (ad : Option Addr) (cap : Nat) (l : List Pc) (size : Int) (hs : -9223372036854775808 ≤ size ∧ size ≤ 9223372036854775807) (hl : l.length ≤ maxLen) (hF : Fits l) (w : World) (hM : PiecesAt w ad l) :
    Calls Try.prog 23 #[.slice ad l.length cap, .int .i64 size] w fun e w' => e = .returned (.bool (mapRight l size)) ∧ Below w.heap.size w w' := by
  unfold maxLen at hl
  by_cases h0 : size < 0
  · rw [mapRight_false_size h0]
    clear hM hF
    go_enter Try.func23, Try.ntmps23
    go_wp2
    go_ret
    exact ⟨rfl, Below.refl _ _⟩
  by_cases h20 : (20 : Int) < (l.length : Int)
  · rw [mapRight_false_long (by omega)]
    clear hM hF
    go_enter Try.func23, Try.ntmps23
    go_wp2
    go_ret
    exact ⟨rfl, Below.refl _ _⟩
  rcases hM.cases with rfl | ⟨b, off, rfl, hlt, hR⟩
  · rw [mapRight_nil (by omega)]
    clear hM hF
    go_enter Try.func23, Try.ntmps23
    go_wp2
    refine wp_loop_rounds 1 ?_
    rw [rounds_succ]
    go_wp2
    go_ret
    exact ⟨rfl, Below.refl _ _⟩
  · clear hM
    have HR := Lib.hid (fun w' hb => RowAt.below (W' := w') hlt hR hb)
    have HF := Lib.hid hF
    clear hR hF hlt
    go_enter Try.func23, Try.ntmps23
    go_wp2
    go_loopg [5, 17] l.length (fun g s2 s8 wr => ∃ i : Nat, i ≤ l.length ∧ l.length - i ≤ g ∧ s2 = .int .i64 (endE (-1) (l.take i)) ∧ s8 = .int .i64 i ∧ Aside (Below w.heap.size w wr ∧ rightF size (-1) (l.take i) = true))
    case atStart => exact ⟨0, by omega, by omega, rfl, rfl, (show Aside _ from ⟨Below.refl _ _, rfl⟩)⟩
    case round =>
      obtain ⟨i, hi, hg, rfl, rfl, A⟩ := hrel
      by_cases hil : i < l.length
      · obtain ⟨p, hp⟩ : ∃ p, l[i]? = some p := ⟨_, List.getElem?_eq_getElem hil⟩
        obtain ⟨c1, c2⟩ := HR.out wr A.out.1 i p hp
        have hF := HF.out p (List.mem_of_getElem? hp)
        have hlow := (rightF_end _ _ A.out.2).1
        generalize hE : endE (-1) (l.take i) = E at hlow
        by_cases hbad : p.1 ≤ E ∨ p.2 < 1 ∨ size - p.1 < p.2
        · have HX := Lib.hid (mapRight_false_at (size := size) hp (by rw [hE]; exact hbad))
          clear hE hp
          by_cases h1 : p.1 ≤ E
          · go_wp2
            go_ret
            exact ⟨by rw [HX.out]; rfl, A.out.1.alloc A.out.1.size _⟩
          by_cases h2 : p.2 < 1
          · go_wp2
            go_ret
            exact ⟨by rw [HX.out]; rfl, A.out.1.alloc A.out.1.size _⟩
          have h3 : size - p.1 < p.2 := by omega
          go_wp2
          go_ret
          exact ⟨by rw [HX.out]; rfl, A.out.1.alloc A.out.1.size _⟩
        · have h1 : E < p.1 := by omega
          have h2 : 1 ≤ p.2 := by omega
          have h3 : p.2 ≤ size - p.1 := by omega
          have HS := Lib.hid (endE_take hp (-1))
          have HT := Lib.hid ((rightF_take hp).2 ⟨A.out.2, by rw [hE]; exact h1, h2, h3⟩)
          clear hbad hE hp
          go_wp2
          go_roundg (l.length - (i + 1))
          case measure => omega
          case rel => exact ⟨i + 1, by omega, by omega, by rw [HS.out], by first | rfl | simp, (show Aside _ from ⟨A.out.1.alloc A.out.1.size _, HT.out⟩)⟩
      · go_wp2
        go_ret
        have hr := A.out.2
        rw [List.take_of_length_le (by omega)] at hr
        rw [mapRight_true (by omega) (by omega) hr]
        exact ⟨rfl, A.out.1⟩
end Go.Proofs.Ytnjcefmmdghbmaa
end
section
/- The reference's MapRight. -/
namespace Go.Proofs.Ytnjcefmmdghbmaa
open Go.RowKit Go.Joins
set_option linter.unusedVariables false

theorem idx_piece (w : World) (b off n cap k : Nat) (h : k < n) : (Instr.indexAt 28 (.slice (some ⟨b, off, none⟩) n cap) (.int .i64 (k : Int))).run Try.prog w = .ok (.pointer (some ⟨b, off + k * 2, none⟩)) w := by
  have he : Try.prog.elem 28 = 43 := by kernel_rfl
  rw [run_indexAt_slice w 28 _ _ _ _ _ (by rw [he]; exact Try.underlying28), if_pos ⟨by omega, by omega⟩, he]
  have hs : (sizeOf 43).run Try.prog w = .ok 2 w := by rw [sizeOf]; go_simp; kernel_rfl
  rw [hs]
  simp [Result.andThen, Go.WideShapes.add_plain]
end Go.Proofs.Ytnjcefmmdghbmaa
end
