/- Pieces of sparse files, as lists of pairs of numbers: valid, found, taken, put. -/
import Derived.Test.YtpkledmpldnhiaaDoorMk
namespace Go.Proofs.YtpkledmpldnhiaaDoor
open Go.RowKit (wrap64)
set_option linter.unusedVariables false

abbrev Pc := Int × Int
/-- The pieces are in order behind e, do not touch, and lie within size. -/
def rightF (size : Int) : Int → List Pc → Bool
  | _, [] => true
  | e, p :: l => decide (e < p.1) && (decide (1 ≤ p.2) && (decide (p.2 ≤ size - p.1) && rightF size (p.1 + p.2) l))
def mapRight (l : List Pc) (size : Int) : Bool := decide (0 ≤ size) && (decide (l.length ≤ 20) && rightF size (-1) l)
def sumL : List Pc → Int
  | [] => 0
  | p :: l => p.2 + sumL l
/-- The sum, with wraparound. -/
def sizeF (a : Int) : List Pc → Int
  | [] => a
  | p :: l => sizeF (wrap64 (a + p.2)) l
/-- Where the last piece ends. -/
def endE : Int → List Pc → Int
  | e, [] => e
  | _, p :: l => endE (p.1 + p.2) l
def cutP (s : List UInt8) (p : Pc) : List UInt8 := (s.drop p.1.toNat).take p.2.toNat
def takeL (s : List UInt8) : List Pc → List UInt8
  | [] => []
  | p :: l => cutP s p ++ takeL s l
/-- What is put from the place e on. -/
def putF (n : Nat) : Nat → List UInt8 → List Pc → List UInt8
  | e, _, [] => List.replicate (n - e) 0
  | e, d, p :: l => List.replicate (p.1.toNat - e) 0 ++ (d.take p.2.toNat ++ putF n (p.1 + p.2).toNat (d.drop p.2.toNat) l)
def putL (d : List UInt8) (l : List Pc) (n : Nat) : List UInt8 := putF n 0 d l
/-- Does a piece hold the place? -/
def cov (l : List Pc) (j : Int) : Bool := l.any fun p => decide (p.1 ≤ j) && decide (j < p.1 + p.2)

/-! ### Valid lists -/
theorem rightF_cons {size e : Int} {p : Pc} {l : List Pc} : rightF size e (p :: l) = true ↔ e < p.1 ∧ 1 ≤ p.2 ∧ p.2 ≤ size - p.1 ∧ rightF size (p.1 + p.2) l = true := by
  simp [rightF]
theorem rightF_snoc (size : Int) (p : Pc) : ∀ (l : List Pc) (e : Int), rightF size e (l ++ [p]) = true ↔ rightF size e l = true ∧ endE e l < p.1 ∧ 1 ≤ p.2 ∧ p.2 ≤ size - p.1
  | [], e => by simp [rightF, endE]
  | q :: l, e => by
    rw [List.cons_append, rightF_cons, rightF_cons, rightF_snoc size p l]
    simp only [endE]
    constructor
    · rintro ⟨h1, h2, h3, h4, h5⟩; exact ⟨⟨h1, h2, h3, h4⟩, h5⟩
    · rintro ⟨⟨h1, h2, h3, h4⟩, h5⟩; exact ⟨h1, h2, h3, h4, h5⟩
theorem endE_snoc (p : Pc) : ∀ (l : List Pc) (e : Int), endE e (l ++ [p]) = p.1 + p.2
  | [], e => rfl
  | q :: l, e => endE_snoc p l _
theorem endE_take {l : List Pc} {i : Nat} {p : Pc} (h : l[i]? = some p) (e : Int) : endE e (l.take (i + 1)) = p.1 + p.2 := by
  rw [List.take_add_one, h]
  exact endE_snoc p _ e
theorem rightF_take {size : Int} {l : List Pc} {i : Nat} {p : Pc} {e : Int} (h : l[i]? = some p) : rightF size e (l.take (i + 1)) = true ↔ rightF size e (l.take i) = true ∧ endE e (l.take i) < p.1 ∧ 1 ≤ p.2 ∧ p.2 ≤ size - p.1 := by
  rw [List.take_add_one, h]
  exact rightF_snoc size p _ e
theorem rightF_prefix {size : Int} : ∀ (l : List Pc) (e : Int) (i : Nat), rightF size e l = true → rightF size e (l.take i) = true
  | [], e, i, h => by rw [List.take_nil]; exact h
  | p :: l, e, 0, h => rfl
  | p :: l, e, i + 1, h => by
    rw [List.take_succ_cons, rightF_cons]
    rw [rightF_cons] at h
    exact ⟨h.1, h.2.1, h.2.2.1, rightF_prefix l _ i h.2.2.2⟩
theorem rightF_false {size e : Int} {l : List Pc} {i : Nat} (h : rightF size e (l.take i) = false) : rightF size e l = false := by
  cases hh : rightF size e l with
  | false => rfl
  | true => rw [rightF_prefix l e i hh] at h; cases h
theorem rightF_end {size : Int} : ∀ (l : List Pc) (e : Int), rightF size e l = true → e ≤ endE e l ∧ (l ≠ [] → endE e l ≤ size)
  | [], e, h => ⟨Int.le_refl _, fun h => absurd rfl h⟩
  | p :: l, e, h => by
    rw [rightF_cons] at h
    have ih := rightF_end l _ h.2.2.2
    refine ⟨?_, fun _ => ?_⟩
    · simp only [endE]; omega
    · simp only [endE]
      by_cases hl : l = []
      · subst hl; simp only [endE]; omega
      · exact ih.2 hl
theorem rightF_at {size : Int} {l : List Pc} {i : Nat} {p : Pc} {e : Int} (h : l[i]? = some p) (hr : rightF size e l = true) : endE e (l.take i) < p.1 ∧ 1 ≤ p.2 ∧ p.2 ≤ size - p.1 ∧ e ≤ endE e (l.take i) := by
  have h1 := (rightF_take h).1 (rightF_prefix l e (i + 1) hr)
  exact ⟨h1.2.1, h1.2.2.1, h1.2.2.2, (rightF_end _ _ h1.1).1⟩
theorem sumL_bound {size : Int} : ∀ (l : List Pc) (e : Int), rightF size e l = true → 0 ≤ sumL l ∧ (l = [] ∨ sumL l ≤ size - e - 1)
  | [], e, h => ⟨Int.le_refl _, Or.inl rfl⟩
  | p :: l, e, h => by
    rw [rightF_cons] at h
    have ih := sumL_bound l _ h.2.2.2
    have h0 := ih.1
    refine ⟨by simp only [sumL]; omega, Or.inr ?_⟩
    simp only [sumL]
    rcases ih.2 with rfl | h1
    · simp only [sumL]; omega
    · omega
theorem wrap64_id {x : Int} (h0 : 0 ≤ x) (h1 : x ≤ 9223372036854775807) : wrap64 x = x :=
  Go.IntWalk.wrap64_in x ⟨by omega, by omega⟩
theorem sizeF_sum {size : Int} (hs : size ≤ 9223372036854775807) : ∀ (l : List Pc) (e a : Int), rightF size e l = true → 0 ≤ a → a ≤ e + 1 → sizeF a l = a + sumL l
  | [], e, a, h, _, _ => by simp [sizeF, sumL]
  | p :: l, e, a, h, h0, h1 => by
    rw [rightF_cons] at h
    simp only [sizeF, sumL]
    rw [wrap64_id (by omega) (by omega), sizeF_sum hs l _ _ h.2.2.2 (by omega) (by omega)]
    omega
theorem sizeF_zero {size : Int} (hs : size ≤ 9223372036854775807) {l : List Pc} (h : rightF size (-1) l = true) : sizeF 0 l = sumL l := by
  rw [sizeF_sum hs l (-1) 0 h (by omega) (by omega)]; omega
theorem sizeF_snoc (p : Pc) : ∀ (l : List Pc) (a : Int), sizeF a (l ++ [p]) = wrap64 (sizeF a l + p.2)
  | [], a => rfl
  | q :: l, a => sizeF_snoc p l _
theorem sizeF_take {l : List Pc} {i : Nat} {p : Pc} (h : l[i]? = some p) (a : Int) : sizeF a (l.take (i + 1)) = wrap64 (sizeF a (l.take i) + p.2) := by
  rw [List.take_add_one, h]; exact sizeF_snoc p _ a

/-! ### Taken, and put -/
theorem takeL_append (s : List UInt8) : ∀ (l m : List Pc), takeL s (l ++ m) = takeL s l ++ takeL s m
  | [], m => rfl
  | p :: l, m => by rw [List.cons_append, takeL, takeL, takeL_append s l m, List.append_assoc]
theorem takeL_take {l : List Pc} {i : Nat} {p : Pc} (s : List UInt8) (h : l[i]? = some p) : takeL s (l.take (i + 1)) = takeL s (l.take i) ++ cutP s p := by
  rw [List.take_add_one, h, takeL_append]
  simp [takeL]
theorem cutP_length {s : List UInt8} {p : Pc} (h0 : 0 ≤ p.1) (h1 : 0 ≤ p.2) (h2 : p.2 ≤ (s.length : Int) - p.1) : ((cutP s p).length : Int) = p.2 := by
  unfold cutP; rw [List.length_take, List.length_drop]; omega
theorem takeL_length {s : List UInt8} : ∀ (l : List Pc) (e : Int), -1 ≤ e → rightF s.length e l = true → ((takeL s l).length : Int) = sumL l
  | [], e, _, _ => rfl
  | p :: l, e, he, h => by
    rw [rightF_cons] at h
    have h1 := cutP_length (s := s) (p := p) (by omega) (by omega) h.2.2.1
    have h2 := takeL_length l _ (by omega) h.2.2.2
    rw [takeL, List.length_append, sumL]
    omega
theorem putF_length (n : Nat) : ∀ (l : List Pc) (e : Nat) (d : List UInt8), rightF n ((e : Int) - 1) l = true → e ≤ n → (d.length : Int) = sumL l → (putF n e d l).length = n - e
  | [], e, d, _, _, _ => by rw [putF, List.length_replicate]
  | p :: l, e, d, h, he, hd => by
    rw [rightF_cons] at h
    rw [sumL] at hd
    have hr : rightF n (((p.1 + p.2).toNat : Int) - 1) l = true := by
      cases l with
      | nil => rfl
      | cons q l =>
        rw [rightF_cons] at h ⊢
        exact ⟨by omega, h.2.2.2.2⟩
    have hb := (sumL_bound l _ h.2.2.2).1
    have ih := putF_length n l (p.1 + p.2).toNat (d.drop p.2.toNat) hr (by omega) (by rw [List.length_drop]; omega)
    rw [putF, List.length_append, List.length_append, ih, List.length_replicate, List.length_take]
    omega
/-- One behind the end, or the end: valid all the same. -/
theorem rightF_low {size : Int} {e e' : Int} {l : List Pc} (h : rightF size e l = true) (he : e' ≤ e) : rightF size e' l = true := by
  cases l with
  | nil => rfl
  | cons q l =>
    rw [rightF_cons] at h ⊢
    exact ⟨by omega, h.2⟩
theorem cov_low {size : Int} : ∀ (l : List Pc) (e j : Int), rightF size e l = true → j ≤ e → cov l j = false
  | [], e, j, _, _ => rfl
  | p :: l, e, j, h, hj => by
    rw [rightF_cons] at h
    have ih := cov_low l _ j h.2.2.2 (by omega)
    unfold cov at ih ⊢
    rw [List.any_cons, ih, Bool.or_false, decide_eq_false (by omega : ¬ p.1 ≤ j), Bool.false_and]
theorem cov_cons (p : Pc) (l : List Pc) (j : Int) : cov (p :: l) j = ((decide (p.1 ≤ j) && decide (j < p.1 + p.2)) || cov l j) := rfl
theorem drop_zeros (s : List UInt8) (e c : Nat) (h : e + c ≤ s.length) (hz : ∀ j, e ≤ j → j < e + c → s[j]? = some 0) : (s.drop e).take c = List.replicate c 0 := by
  apply List.ext_getElem?
  intro j
  by_cases hj : j < c
  · rw [List.getElem?_take, if_pos hj, List.getElem?_drop, hz _ (by omega) (by omega), List.getElem?_replicate, if_pos hj]
  · rw [List.getElem?_take, if_neg hj, List.getElem?_replicate, if_neg hj]
/-- What is taken and put again is the text, if it is 0 between the pieces. -/
theorem putF_take (s : List UInt8) : ∀ (l : List Pc) (e : Nat), rightF s.length ((e : Int) - 1) l = true → e ≤ s.length → (∀ j : Nat, e ≤ j → j < s.length → cov l j = false → s[j]? = some 0) → putF s.length e (takeL s l) l = s.drop e
  | [], e, _, he, hz => by
    rw [putF]
    have := drop_zeros s e (s.length - e) (by omega) fun j h1 h2 => hz j h1 (by omega) rfl
    rw [← this, List.take_of_length_le (by rw [List.length_drop]; omega)]
  | p :: l, e, h, he, hz => by
    have h' := h
    rw [rightF_cons] at h
    have hl := cutP_length (s := s) (p := p) (by omega) (by omega) h.2.2.1
    have ih := putF_take s l (p.1 + p.2).toNat (rightF_low h.2.2.2 (by omega)) (by omega) fun j h1 h2 h3 => hz j (by omega) h2 (by
      rw [cov_cons, h3, Bool.or_false, decide_eq_false (by omega : ¬ (j : Int) < p.1 + p.2), Bool.and_false])
    rw [putF, takeL, List.take_left' (by omega), List.drop_left' (by omega), ih]
    have hzero := drop_zeros s e (p.1.toNat - e) (by omega) fun j h1 h2 => hz j h1 (by omega) (by
      rw [cov_cons, decide_eq_false (by omega : ¬ p.1 ≤ (j : Int)), Bool.false_and, Bool.false_or]
      exact cov_low l _ _ h.2.2.2 (by omega))
    rw [← hzero]
    unfold cutP
    have e1 : s.drop (p.1 + p.2).toNat = (s.drop p.1.toNat).drop p.2.toNat := by rw [List.drop_drop]; congr 1; omega
    rw [e1, List.take_append_drop]
    have e2 : s.drop p.1.toNat = (s.drop e).drop (p.1.toNat - e) := by rw [List.drop_drop]; congr 1; omega
    rw [e2, List.take_append_drop]
/-- What is put is taken again. -/
theorem takeL_putF (n : Nat) : ∀ (l : List Pc) (e : Nat) (d pre : List UInt8), rightF n ((e : Int) - 1) l = true → pre.length = e → (d.length : Int) = sumL l → takeL (pre ++ putF n e d l) l = d
  | [], e, d, pre, _, _, hd => by
    have : d.length = 0 := by simp only [sumL] at hd; omega
    rw [List.eq_nil_of_length_eq_zero this]; rfl
  | p :: l, e, d, pre, h, hp, hd => by
    rw [rightF_cons] at h
    rw [sumL] at hd
    have hb := (sumL_bound l _ h.2.2.2).1
    rw [putF, takeL]
    have hlen : (pre ++ List.replicate (p.1.toNat - e) (0 : UInt8)).length = p.1.toNat := by rw [List.length_append, List.length_replicate]; omega
    have hlen2 : ((pre ++ List.replicate (p.1.toNat - e) (0 : UInt8)) ++ d.take p.2.toNat).length = (p.1 + p.2).toNat := by rw [List.length_append, hlen, List.length_take]; omega
    have ih := takeL_putF n l (p.1 + p.2).toNat (d.drop p.2.toNat) ((pre ++ List.replicate (p.1.toNat - e) 0) ++ d.take p.2.toNat) (rightF_low h.2.2.2 (by omega)) hlen2 (by rw [List.length_drop]; omega)
    have e1 : pre ++ (List.replicate (p.1.toNat - e) 0 ++ (d.take p.2.toNat ++ putF n (p.1 + p.2).toNat (d.drop p.2.toNat) l)) = ((pre ++ List.replicate (p.1.toNat - e) 0) ++ d.take p.2.toNat) ++ putF n (p.1 + p.2).toNat (d.drop p.2.toNat) l := by simp only [List.append_assoc]
    rw [e1, ih]
    unfold cutP
    rw [List.append_assoc, List.drop_left' hlen, List.take_left' (by rw [List.length_take]; omega), List.take_append_drop]
/-- What lies in no piece is 0. -/
theorem putF_zero (n : Nat) : ∀ (l : List Pc) (e : Nat) (d : List UInt8) (j : Nat), rightF n ((e : Int) - 1) l = true → (d.length : Int) = sumL l → e + j < n → cov l ((e + j : Nat) : Int) = false → (putF n e d l)[j]? = some 0
  | [], e, d, j, _, _, hj, _ => by rw [putF, List.getElem?_replicate, if_pos (by omega)]
  | p :: l, e, d, j, h, hd, hj, hc => by
    rw [rightF_cons] at h
    rw [sumL] at hd
    have hb := (sumL_bound l _ h.2.2.2).1
    rw [cov_cons, Bool.or_eq_false_iff, Bool.and_eq_false_iff, decide_eq_false_iff_not, decide_eq_false_iff_not] at hc
    rw [putF]
    by_cases h1 : ((e + j : Nat) : Int) < p.1
    · rw [List.getElem?_append_left (by rw [List.length_replicate]; omega), List.getElem?_replicate, if_pos (by omega)]
    · have h2 : p.1 + p.2 ≤ ((e + j : Nat) : Int) := by omega
      rw [List.getElem?_append_right (by rw [List.length_replicate]; omega), List.length_replicate, List.getElem?_append_right (by rw [List.length_take]; omega), List.length_take]
      have ih := putF_zero n l (p.1 + p.2).toNat (d.drop p.2.toNat) (e + j - (p.1 + p.2).toNat) (rightF_low h.2.2.2 (by omega)) (by rw [List.length_drop]; omega) (by omega) (by
        rw [show (p.1 + p.2).toNat + (e + j - (p.1 + p.2).toNat) = e + j by omega]; exact hc.2)
      rw [← ih]
      congr 1
      omega
/-- Behind the pieces ahead of i. -/
theorem putF_step {n : Nat} {l : List Pc} {i : Nat} {p : Pc} (h : l[i]? = some p) (e : Nat) (d : List UInt8) : putF n e d (l.drop i) = List.replicate (p.1.toNat - e) 0 ++ (d.take p.2.toNat ++ putF n (p.1 + p.2).toNat (d.drop p.2.toNat) (l.drop (i + 1))) := by
  obtain ⟨h1, h2⟩ := List.getElem?_eq_some_iff.1 h
  rw [List.drop_eq_getElem_cons h1, h2, putF]
theorem sumL_append : ∀ (l m : List Pc), sumL (l ++ m) = sumL l + sumL m
  | [], m => by simp [sumL]
  | p :: l, m => by rw [List.cons_append, sumL, sumL, sumL_append l m]; omega
end Go.Proofs.YtpkledmpldnhiaaDoor
