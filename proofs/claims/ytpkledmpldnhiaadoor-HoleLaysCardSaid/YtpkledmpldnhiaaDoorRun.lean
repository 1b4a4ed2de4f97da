/- The pieces of a text: runs of places, by blocks. -/
import Derived.Test.YtpkledmpldnhiaaDoorHn
namespace Go.Proofs.YtpkledmpldnhiaaDoor
set_option linter.unusedVariables false

/-- The last piece is longer by c. -/
def bump (l : List Pc) (c : Int) : List Pc := match l.getLast? with
  | none => l
  | some p => l.dropLast ++ [(p.1, p.2 + c)]
theorem bump_snoc (l : List Pc) (p : Pc) (c : Int) : bump (l ++ [p]) c = l ++ [(p.1, p.2 + c)] := by
  unfold bump; simp
theorem snoc_cases (l : List Pc) : l = [] ∨ ∃ m p, l = m ++ [p] := by
  rcases List.eq_nil_or_concat l with h | ⟨m, p, h⟩
  · exact Or.inl h
  · exact Or.inr ⟨m, p, by rw [h]; simp⟩
theorem bump_length (l : List Pc) (c : Int) : (bump l c).length = l.length := by
  rcases snoc_cases l with rfl | ⟨m, p, rfl⟩
  · rfl
  · rw [bump_snoc]; simp
theorem bump_bump (l : List Pc) (c d : Int) : bump (bump l c) d = bump l (c + d) := by
  rcases snoc_cases l with rfl | ⟨m, p, rfl⟩
  · rfl
  · rw [bump_snoc, bump_snoc, bump_snoc, Int.add_assoc]
/-- What stood ahead of this place. -/
def prevB (f : Nat → Bool) : Nat → Bool
  | 0 => false
  | i + 1 => f i
/-- The runs of places at which f is, ahead of a place. -/
def runs (f : Nat → Bool) : Nat → List Pc
  | 0 => []
  | i + 1 => if f i = true then (if prevB f i = true then bump (runs f i) 1 else runs f i ++ [((i : Int), 1)]) else runs f i

theorem runs_end (f : Nat → Bool) : ∀ i : Nat, (prevB f i = true → ∃ m p, runs f i = m ++ [p] ∧ p.1 + p.2 = (i : Int)) ∧ (prevB f i = false → endE (-1) (runs f i) < (i : Int)) ∧ endE (-1) (runs f i) ≤ (i : Int)
  | 0 => ⟨fun h => (by cases h), fun _ => (by simp [runs, endE]), (by simp [runs, endE])⟩
  | i + 1 => by
    obtain ⟨h1, h2, h3⟩ := runs_end f i
    rw [runs]
    cases hf : f i with
    | false =>
      rw [if_neg (by simp)]
      refine ⟨fun h => (by rw [prevB, hf] at h; cases h), fun _ => ?_, ?_⟩ <;> omega
    | true =>
      rw [if_pos rfl]
      cases hp : prevB f i with
      | true =>
        obtain ⟨m, p, hm, he⟩ := h1 hp
        rw [if_pos rfl, hm, bump_snoc, endE_snoc]
        refine ⟨fun _ => ⟨m, _, rfl, (by simp only; omega)⟩, fun h => (by rw [prevB, hf] at h; cases h), (by simp only; omega)⟩
      | false =>
        rw [if_neg (by simp), endE_snoc]
        refine ⟨fun _ => ⟨_, _, rfl, (by simp only; omega)⟩, fun h => (by rw [prevB, hf] at h; cases h), (by simp only; omega)⟩
theorem runs_endE (f : Nat → Bool) (i : Nat) : endE (-1) (runs f i) = (i : Int) ↔ prevB f i = true := by
  obtain ⟨h1, h2, _⟩ := runs_end f i
  cases hp : prevB f i with
  | true => obtain ⟨m, p, hm, he⟩ := h1 hp; rw [hm, endE_snoc, he]; simp
  | false => have := h2 hp; simp; omega
theorem runs_right (f : Nat → Bool) : ∀ (i : Nat) (n : Int), (i : Int) ≤ n → rightF n (-1) (runs f i) = true
  | 0, n, _ => rfl
  | i + 1, n, hn => by
    obtain ⟨h1, h2, h3⟩ := runs_end f i
    have ih := runs_right f i n (by omega)
    rw [runs]
    split
    · split
      · next hp =>
        obtain ⟨m, p, hm, he⟩ := h1 hp
        rw [hm, bump_snoc, rightF_snoc]
        rw [hm, rightF_snoc] at ih
        exact ⟨ih.1, ih.2.1, by simp only; omega, by simp only; omega⟩
      · next hp =>
        have := h2 (by simpa using hp)
        rw [rightF_snoc]
        exact ⟨ih, this, by simp only; omega, by simp only; omega⟩
    · exact ih
theorem cov_snoc (l : List Pc) (p : Pc) (j : Int) : cov (l ++ [p]) j = (cov l j || (decide (p.1 ≤ j) && decide (j < p.1 + p.2))) := by
  unfold cov; rw [List.any_append]; simp
theorem runs_cov (f : Nat → Bool) : ∀ (i j : Nat), cov (runs f i) (j : Int) = (decide (j < i) && f j)
  | 0, j => by simp [runs, cov]
  | i + 1, j => by
    obtain ⟨h1, h2, h3⟩ := runs_end f i
    have ih := runs_cov f i j
    rw [runs]
    by_cases hji : j = i
    · subst hji
      rw [decide_eq_true (by omega : j < j + 1), Bool.true_and]
      rw [decide_eq_false (by omega : ¬ j < j), Bool.false_and] at ih
      cases hf : f j with
      | false => rw [if_neg (by simp)]; exact ih
      | true =>
        rw [if_pos rfl]
        cases hp : prevB f j with
        | true =>
          obtain ⟨m, p, hm, he⟩ := h1 hp
          have hr := runs_right f j j (by omega)
          rw [hm, rightF_snoc] at hr
          rw [if_pos rfl, hm, bump_snoc, cov_snoc]
          simp only
          rw [decide_eq_true (by omega : p.1 ≤ (j : Int)), decide_eq_true (by omega : (j : Int) < p.1 + (p.2 + 1))]; simp
        | false =>
          rw [if_neg (by simp), cov_snoc]
          simp only
          rw [decide_eq_true (by omega : (j : Int) ≤ (j : Int)), decide_eq_true (by omega : (j : Int) < (j : Int) + 1)]; simp
    · have e1 : decide (j < i + 1) = decide (j < i) := by
        by_cases h : j < i
        · rw [decide_eq_true h, decide_eq_true (by omega)]
        · rw [decide_eq_false h, decide_eq_false (by omega)]
      rw [e1, ← ih]
      split
      · split
        · next hp =>
          obtain ⟨m, p, hm, he⟩ := h1 hp
          rw [hm, bump_snoc, cov_snoc, cov_snoc]
          congr 2
          simp only
          by_cases h : (j : Int) < p.1 + p.2
          · rw [decide_eq_true h, decide_eq_true (by omega)]
          · rw [decide_eq_false h, decide_eq_false (by omega)]
        · rw [cov_snoc]
          simp only
          by_cases h : (i : Int) ≤ (j : Int)
          · rw [decide_eq_false (by omega : ¬ (j : Int) < (i : Int) + 1)]; simp
          · rw [decide_eq_false h]; simp
      · rfl
theorem runs_congr {f g : Nat → Bool} : ∀ (i : Nat), (∀ j, j < i → f j = g j) → runs f i = runs g i
  | 0, _ => rfl
  | i + 1, h => by
    have hp : prevB f i = prevB g i := by
      cases i with
      | zero => rfl
      | succ i => exact h i (by omega)
    rw [runs, runs, runs_congr i fun j hj => h j (by omega), h i (by omega), hp]
theorem runs_off (f : Nat → Bool) (i : Nat) : ∀ c : Nat, (∀ j, i ≤ j → j < i + c → f j = false) → runs f (i + c) = runs f i
  | 0, _ => rfl
  | c + 1, h => by
    rw [← Nat.add_assoc, runs, h _ (by omega) (by omega), if_neg (by simp)]
    exact runs_off f i c fun j h1 h2 => h j h1 (by omega)
theorem runs_on (f : Nat → Bool) (i : Nat) : ∀ c : Nat, (∀ j, i ≤ j → j < i + (c + 1) → f j = true) → runs f (i + (c + 1)) = if prevB f i = true then bump (runs f i) ((c + 1 : Nat) : Int) else runs f i ++ [((i : Int), ((c + 1 : Nat) : Int))]
  | 0, h => by
    rw [← Nat.add_assoc, Nat.add_zero, runs, h i (by omega) (by omega), if_pos rfl]; rfl
  | c + 1, h => by
    have ih := runs_on f i c fun j h1 h2 => h j h1 (by omega)
    rw [← Nat.add_assoc, runs, h _ (by omega) (by omega), if_pos rfl]
    rw [show prevB f (i + (c + 1)) = true from h (i + c) (by omega) (by omega), if_pos rfl, ih]
    split
    · rw [bump_bump]; congr 1
    · rw [bump_snoc]; rfl
theorem runs_length_mono (f : Nat → Bool) (i : Nat) : ∀ c : Nat, (runs f i).length ≤ (runs f (i + c)).length
  | 0 => Nat.le_refl _
  | c + 1 => by
    refine Nat.le_trans (runs_length_mono f i c) ?_
    rw [← Nat.add_assoc, runs]
    split
    · split
      · rw [bump_length]; exact Nat.le_refl _
      · rw [List.length_append]; omega
    · exact Nat.le_refl _

/-! ### By blocks -/
/-- Does the block of this place hold a byte other than 0? -/
def onB (s : List UInt8) (k i : Nat) : Bool := ((s.drop (i / k * k)).take k).any (· != 0)
def findF (s : List UInt8) (k : Nat) : List Pc := runs (onB s k) s.length
theorem onB_at (s : List UInt8) (k i j : Nat) (h : i / k = j / k) : onB s k i = onB s k j := by unfold onB; rw [h]
theorem onB_true {s : List UInt8} {k i : Nat} {c : UInt8} (h : s[i]? = some c) (hk : 0 < k) (hc : c ≠ 0) : onB s k i = true := by
  unfold onB
  rw [List.any_eq_true]
  refine ⟨c, ?_, by simpa using hc⟩
  have h1 := Nat.div_add_mod i k
  have h2 := Nat.mod_lt i hk
  have h3 : i / k * k = k * (i / k) := Nat.mul_comm _ _
  apply List.mem_of_getElem? (i := i - i / k * k)
  rw [List.getElem?_take, if_pos (by omega), List.getElem?_drop, show i / k * k + (i - i / k * k) = i by omega, h]
theorem onB_false {s : List UInt8} {k b : Nat} (hk : 0 < k) (i : Nat) (hb : i / k = b) (hz : ∀ j, b * k ≤ j → j < b * k + k → j < s.length → s[j]? = some 0) : onB s k i = false := by
  unfold onB
  rw [hb, List.any_eq_false]
  intro c hc
  obtain ⟨j, hj⟩ := List.mem_iff_getElem?.1 hc
  rw [List.getElem?_take] at hj
  split at hj
  · rw [List.getElem?_drop] at hj
    have := hz (b * k + j) (by omega) (by omega) (List.getElem?_eq_some_iff.1 hj).1
    rw [hj] at this
    simp [Option.some.inj this]
  · cases hj
theorem onB_zero {s : List UInt8} {k i : Nat} {c : UInt8} (h : s[i]? = some c) (hk : 0 < k) (ho : onB s k i = false) : c = 0 := by
  by_cases hc : c = 0
  · exact hc
  · rw [onB_true h hk hc] at ho; cases ho
theorem div_block {k b i : Nat} (hk : 0 < k) (h0 : b * k ≤ i) (h1 : i < b * k + k) : i / k = b := by
  rw [show i = (i - b * k) + k * b by rw [Nat.mul_comm k b]; omega, Nat.add_mul_div_left _ _ hk, Nat.div_eq_of_lt (by omega)]; omega
theorem block_div {k i : Nat} (hk : 0 < k) : i / k * k ≤ i ∧ i < i / k * k + k := by
  have h1 := Nat.div_add_mod i k
  have h2 := Nat.mod_lt i hk
  have h3 : i / k * k = k * (i / k) := Nat.mul_comm _ _
  omega

/-- The pieces of the blocks ahead of block b. -/
def findB (s : List UInt8) (k b : Nat) : List Pc := runs (onB s k) (min (b * k) s.length)
theorem findB_off {s : List UInt8} {k b : Nat} (hk : 0 < k) (hz : ∀ j, b * k ≤ j → j < b * k + k → j < s.length → s[j]? = some 0) : findB s k (b + 1) = findB s k b := by
  unfold findB
  rw [Nat.succ_mul]
  by_cases h : s.length ≤ b * k
  · rw [Nat.min_eq_right h, Nat.min_eq_right (by omega)]
  · rw [Nat.min_eq_left (by omega : b * k ≤ s.length), show min (b * k + k) s.length = b * k + (min (b * k + k) s.length - b * k) by omega]
    exact runs_off _ _ _ fun j h1 h2 => onB_false hk j (div_block hk h1 (by omega)) hz
theorem findB_on {s : List UInt8} {k b i : Nat} {c : UInt8} (hk : 0 < k) (h0 : b * k ≤ i) (h1 : i < b * k + k) (hi : s[i]? = some c) (hc : c ≠ 0) :
    findB s k (b + 1) = if endE (-1) (findB s k b) = ((b * k : Nat) : Int) then bump (findB s k b) ((min k (s.length - b * k) : Nat) : Int) else findB s k b ++ [(((b * k : Nat) : Int), ((min k (s.length - b * k) : Nat) : Int))] := by
  have hn := (List.getElem?_eq_some_iff.1 hi).1
  unfold findB
  rw [Nat.succ_mul, Nat.min_eq_left (by omega : b * k ≤ s.length)]
  obtain ⟨d, hd⟩ : ∃ d, min k (s.length - b * k) = d + 1 := ⟨min k (s.length - b * k) - 1, by omega⟩
  rw [show min (b * k + k) s.length = b * k + (d + 1) by omega, hd]
  rw [runs_on _ _ d fun j h2 h3 => by rw [onB_at s k j i (by rw [div_block hk h2 (by omega), div_block hk h0 h1])]; exact onB_true hi hk hc]
  simp only [runs_endE]
theorem findB_end {s : List UInt8} {k b : Nat} : endE (-1) (findB s k b) ≤ ((min (b * k) s.length : Nat) : Int) := (runs_end _ _).2.2

/-- Between two rounds, at place i, e the end of the last piece. -/
def FInv (s : List UInt8) (k i : Nat) (l : List Pc) (e : Int) : Prop :=
  e = endE (-1) l ∧ i ≤ s.length ∧ ((l = findB s k (i / k) ∧ ∀ j, i / k * k ≤ j → j < i → s[j]? = some 0) ∨ (l = findB s k (i / k + 1) ∧ e = ((min ((i / k + 1) * k) s.length : Nat) : Int) ∧ ((i : Int) < e ∨ i = s.length)))
theorem FInv.start (s : List UInt8) (k : Nat) : FInv s k 0 [] (-1) := ⟨rfl, by omega, Or.inl ⟨by rw [Nat.zero_div]; unfold findB; rw [Nat.zero_mul, Nat.zero_min]; rfl, fun j _ h => by omega⟩⟩
/-- The next place is in this block, or begins the next. -/
theorem next_block {k i : Nat} (hk : 0 < k) : (i + 1) / k = i / k ∧ i + 1 < i / k * k + k ∨ (i + 1) / k = i / k + 1 ∧ i + 1 = (i / k + 1) * k := by
  have h1 := block_div (i := i) hk
  by_cases h : i + 1 < i / k * k + k
  · exact Or.inl ⟨div_block hk (by omega) h, h⟩
  · refine Or.inr ⟨div_block hk (by rw [Nat.succ_mul]; omega) (by rw [Nat.succ_mul]; omega), by rw [Nat.succ_mul]; omega⟩
/-- A round that is skipped. -/
theorem FInv.skip {s : List UInt8} {k i : Nat} {l : List Pc} {e : Int} (hk : 0 < k) (h : FInv s k i l e) (hi : i < s.length) (hs : s[i]? = some 0 ∨ (i : Int) < e) : FInv s k (i + 1) l e := by
  obtain ⟨he, _, h⟩ := h
  have hb := block_div (i := i) hk
  refine ⟨he, by omega, ?_⟩
  rcases h with ⟨hl, hz⟩ | ⟨hl, he2, _⟩
  · have hlow : e ≤ (i : Int) := by
      have := findB_end (s := s) (k := k) (b := i / k)
      rw [← hl] at this
      omega
    have h0 : s[i]? = some 0 := by
      rcases hs with h | h
      · exact h
      · omega
    left
    have hz' : ∀ j, i / k * k ≤ j → j < i + 1 → s[j]? = some 0 := fun j h1 h2 => by
      by_cases hj : j = i
      · subst hj; exact h0
      · exact hz j h1 (by omega)
    rcases next_block (i := i) hk with ⟨e1, e2⟩ | ⟨e1, e2⟩
    · rw [e1]; exact ⟨hl, hz'⟩
    · rw [e1]
      refine ⟨?_, fun j h1 h2 => by omega⟩
      rw [findB_off hk fun j h1 h2 _ => hz' j h1 (by rw [Nat.succ_mul] at e2; omega)]
      exact hl
  · rcases next_block (i := i) hk with ⟨e1, e2⟩ | ⟨e1, e2⟩
    · right
      rw [e1]
      rw [Nat.succ_mul] at he2 ⊢
      exact ⟨hl, he2, by omega⟩
    · left
      rw [e1]
      exact ⟨hl, fun j h1 h2 => by omega⟩
theorem FInv.low {s : List UInt8} {k i : Nat} {l : List Pc} {e : Int} (hk : 0 < k) (h : FInv s k i l e) (hi : i < s.length) (hs : ¬ (i : Int) < e) : l = findB s k (i / k) ∧ e ≤ ((i / k * k : Nat) : Int) := by
  obtain ⟨he, _, ⟨hl, hz⟩ | ⟨hl, he2, h⟩⟩ := h
  · refine ⟨hl, ?_⟩
    have := findB_end (s := s) (k := k) (b := i / k)
    rw [← hl] at this
    omega
  · omega
/-- A round that finds a block. -/
theorem FInv.take {s : List UInt8} {k i : Nat} {l : List Pc} {e : Int} {c : UInt8} (hk : 0 < k) (h : FInv s k i l e) (hi : s[i]? = some c) (hc : c ≠ 0) (hs : ¬ (i : Int) < e) :
    FInv s k (i + 1) (if e = ((i / k * k : Nat) : Int) then bump l ((min k (s.length - i / k * k) : Nat) : Int) else l ++ [(((i / k * k : Nat) : Int), ((min k (s.length - i / k * k) : Nat) : Int))]) (((i / k * k + min k (s.length - i / k * k) : Nat) : Int)) := by
  have hn := (List.getElem?_eq_some_iff.1 hi).1
  have hb := block_div (i := i) hk
  obtain ⟨hl, hlow⟩ := h.low hk hn hs
  have he := h.1
  have hL := findB_on hk hb.1 hb.2 hi hc
  rw [← hl, ← he] at hL
  rw [← hL]
  have hE : (((i / k * k + min k (s.length - i / k * k) : Nat) : Int)) = endE (-1) (findB s k (i / k + 1)) := by
    rw [hL]
    split
    · next h0 =>
      rcases snoc_cases l with rfl | ⟨m, p, rfl⟩
      · rw [he] at h0; simp only [endE] at h0; omega
      · rw [endE_snoc] at he
        rw [bump_snoc, endE_snoc]
        simp only
        omega
    · rw [endE_snoc]; simp
  refine ⟨hE, by omega, ?_⟩
  rcases next_block (i := i) hk with ⟨e1, e2⟩ | ⟨e1, e2⟩
  · right
    rw [e1, Nat.succ_mul]
    exact ⟨rfl, by omega, by omega⟩
  · left
    rw [e1]
    exact ⟨rfl, fun j h1 h2 => by omega⟩
theorem FInv.done {s : List UInt8} {k : Nat} {l : List Pc} {e : Int} (hk : 0 < k) (h : FInv s k s.length l e) : l = findF s k := by
  have hb := block_div (i := s.length) hk
  obtain ⟨he, _, ⟨hl, hz⟩ | ⟨hl, _⟩⟩ := h
  · rw [hl]
    have : findB s k (s.length / k + 1) = findB s k (s.length / k) := findB_off hk fun j h1 h2 h3 => hz j h1 h3
    rw [← this]
    unfold findB findF
    rw [Nat.succ_mul, Nat.min_eq_right (by omega)]
  · rw [hl]
    unfold findB findF
    rw [Nat.succ_mul, Nat.min_eq_right (by omega)]
theorem findB_le (s : List UInt8) (k b : Nat) : (findB s k b).length ≤ (findF s k).length := by
  unfold findB findF
  have := runs_length_mono (onB s k) (min (b * k) s.length) (s.length - min (b * k) s.length)
  rw [show min (b * k) s.length + (s.length - min (b * k) s.length) = s.length by omega] at this
  exact this
/-- One piece too many. -/
theorem FInv.over {s : List UInt8} {k i : Nat} {l : List Pc} {e : Int} {c : UInt8} (hk : 0 < k) (h : FInv s k i l e) (hi : s[i]? = some c) (hc : c ≠ 0) (hs : ¬ (i : Int) < e) (hne : ¬ e = ((i / k * k : Nat) : Int)) (h20 : l.length = 20) : 20 < (findF s k).length := by
  have hn := (List.getElem?_eq_some_iff.1 hi).1
  have hb := block_div (i := i) hk
  obtain ⟨hl, hlow⟩ := h.low hk hn hs
  have hL := findB_on hk hb.1 hb.2 hi hc
  rw [← hl, ← h.1, if_neg hne] at hL
  have := findB_le s k (i / k + 1)
  rw [hL, List.length_append] at this
  simp at this
  omega
theorem FInv.length {s : List UInt8} {k i : Nat} {l : List Pc} {e : Int} (h : FInv s k i l e) : l.length ≤ (findF s k).length := by
  obtain ⟨_, _, ⟨hl, _⟩ | ⟨hl, _⟩⟩ := h <;> rw [hl] <;> exact findB_le _ _ _
theorem FInv.right {s : List UInt8} {k i : Nat} {l : List Pc} {e : Int} (h : FInv s k i l e) : rightF s.length (-1) l = true := by
  obtain ⟨_, _, ⟨hl, _⟩ | ⟨hl, _⟩⟩ := h <;> rw [hl] <;> exact runs_right _ _ _ (by omega)
theorem FInv.last_pos {s : List UInt8} {k i : Nat} {l : List Pc} {e : Int} (h : FInv s k i l e) (m : List Pc) (p : Pc) (hl : l = m ++ [p]) : 0 ≤ p.1 := by
  have hr := h.right
  rw [hl, rightF_snoc] at hr
  have := (rightF_end _ _ hr.1).1
  omega
theorem FInv.last_le {s : List UInt8} {k i : Nat} {l : List Pc} {e : Int} (h : FInv s k i l e) (m : List Pc) (p : Pc) (hl : l = m ++ [p]) : p.2 ≤ s.length - p.1 ∧ 1 ≤ p.2 ∧ 0 ≤ p.1 := by
  have hr := h.right
  have h0 := h.last_pos m p hl
  rw [hl, rightF_snoc] at hr
  exact ⟨hr.2.2.2, hr.2.2.1, h0⟩
theorem findF_right (s : List UInt8) (k : Nat) : rightF s.length (-1) (findF s k) = true := runs_right _ _ _ (by omega)

/-! ### What the pieces hold -/
theorem findF_back (s : List UInt8) (k : Nat) (hk : 0 < k) : putL (takeL s (findF s k)) (findF s k) s.length = s := by
  unfold putL
  have := putF_take s (findF s k) 0 (by simpa using findF_right s k) (by omega) fun j _ hj hc => by
    unfold findF at hc
    rw [runs_cov, decide_eq_true hj, Bool.true_and] at hc
    obtain ⟨c, hc'⟩ : ∃ c, s[j]? = some c := ⟨_, List.getElem?_eq_getElem hj⟩
    rw [hc', onB_zero hc' hk hc]
  rw [this, List.drop_zero]
/-- A piece that begins with a block, and holds a byte other than 0. -/
def GoodP (s : List UInt8) (k : Nat) (p : Pc) : Prop := (∃ b : Nat, p.1 = ((b * k : Nat) : Int)) ∧ ∃ x : Nat, p.1 ≤ (x : Int) ∧ (x : Int) < p.1 + p.2 ∧ ∃ c, s[x]? = some c ∧ c ≠ 0
theorem findB_good (s : List UInt8) (k : Nat) (hk : 0 < k) : ∀ b : Nat, ∀ p ∈ findB s k b, GoodP s k p
  | 0, p, hp => by unfold findB at hp; rw [Nat.zero_mul, Nat.zero_min] at hp; cases hp
  | b + 1, p, hp => by
    have ih := findB_good s k hk b
    by_cases hz : ∀ j, b * k ≤ j → j < b * k + k → j < s.length → s[j]? = some 0
    · rw [findB_off hk hz] at hp; exact ih p hp
    · simp only [Classical.not_forall] at hz
      obtain ⟨i, h0, h1, h2, h3⟩ := hz
      obtain ⟨c, hi⟩ : ∃ c, s[i]? = some c := ⟨_, List.getElem?_eq_getElem h2⟩
      have hc : c ≠ 0 := fun e => h3 (by rw [hi, e])
      rw [findB_on hk h0 h1 hi hc] at hp
      split at hp
      · rcases snoc_cases (findB s k b) with h | ⟨m, q, h⟩
        · rw [h] at hp; cases hp
        · rw [h] at hp ih
          rw [bump_snoc] at hp
          rcases List.mem_append.1 hp with hp | hp
          · exact ih p (List.mem_append_left _ hp)
          · rw [List.mem_singleton] at hp
            obtain ⟨g1, x, g2, g3, g4⟩ := ih q (List.mem_append_right _ (List.mem_singleton.2 rfl))
            subst hp
            exact ⟨g1, x, g2, by simp only; omega, g4⟩
      · rcases List.mem_append.1 hp with hp | hp
        · exact ih p hp
        · rw [List.mem_singleton] at hp
          subst hp
          exact ⟨⟨b, rfl⟩, i, by simp only; omega, by simp only; omega, c, hi, hc⟩
theorem findF_good (s : List UInt8) (k : Nat) (hk : 0 < k) (p : Pc) (hp : p ∈ findF s k) : GoodP s k p := by
  have hb := block_div (i := s.length) hk
  refine findB_good s k hk (s.length / k + 1) p ?_
  unfold findB
  rw [Nat.succ_mul, Nat.min_eq_right (by omega)]
  exact hp

/-! ### Two texts -/
theorem sumL_bump (l : List Pc) (c : Int) (h : l ≠ []) : sumL (bump l c) = sumL l + c := by
  rcases snoc_cases l with rfl | ⟨m, p, rfl⟩
  · exact absurd rfl h
  · rw [bump_snoc, sumL_append, sumL_append]; simp only [sumL]; omega
theorem runs_ne {f : Nat → Bool} {i : Nat} (h : prevB f i = true) : runs f i ≠ [] := by
  obtain ⟨m, p, hm, _⟩ := (runs_end f i).1 h
  rw [hm]; simp
theorem runs_join (f g : Nat → Bool) (q : Nat) : ∀ m : Nat, (∀ i, i < m → f (q + i) = g i) →
    sumL (runs f (q + m)) = sumL (runs f q) + sumL (runs g m) ∧
    (runs f (q + m)).length = (runs f q).length + (runs g m).length - (if m ≠ 0 ∧ prevB f q = true ∧ g 0 = true then 1 else 0) ∧ (m ≠ 0 → g 0 = true → (runs g m).length ≠ 0)
  | 0, _ => by simp [runs, sumL]
  | m + 1, h => by
    obtain ⟨h1, h2, h3⟩ := runs_join f g q m fun i hi => h i (by omega)
    have hm := h m (by omega)
    rw [← Nat.add_assoc, runs, runs, hm]
    cases hg : g m with
    | false =>
      rw [if_neg (by simp), if_neg (by simp)]
      refine ⟨h1, ?_, fun _ h0 => ?_⟩
      · by_cases m0 : m = 0
        · subst m0; rw [h2]; simp [hg]
        · rw [h2]; simp [m0]
      · by_cases m0 : m = 0
        · subst m0; rw [hg] at h0; cases h0
        · exact h3 m0 h0
    | true =>
      rw [if_pos rfl, if_pos rfl]
      by_cases m0 : m = 0
      · subst m0
        rw [Nat.add_zero]
        rw [show prevB g 0 = false from rfl]
        simp only [Bool.false_eq_true, if_false]
        cases hp : prevB f q with
        | true => simp [runs, sumL, sumL_bump _ _ (runs_ne hp), bump_length, hg]
        | false => simp [runs, sumL, sumL_append]
      · obtain ⟨m', rfl⟩ : ∃ m', m = m' + 1 := ⟨m - 1, by omega⟩
        have hp : prevB f (q + (m' + 1)) = prevB g (m' + 1) := h m' (by omega)
        rw [hp]
        have h2' : (runs f (q + (m' + 1))).length = (runs f q).length + (runs g (m' + 1)).length - (if prevB f q = true ∧ g 0 = true then 1 else 0) := by rw [h2]; simp
        have h3' : g 0 = true → (runs g (m' + 1)).length ≠ 0 := fun h0 => h3 (by omega) h0
        cases hp2 : prevB g (m' + 1) with
        | true =>
          rw [if_pos rfl, if_pos rfl, sumL_bump _ _ (runs_ne (hp.trans hp2)), sumL_bump _ _ (runs_ne hp2), bump_length, bump_length, h2']
          refine ⟨by omega, by simp, fun _ => h3'⟩
        | false =>
          rw [if_neg (by simp), if_neg (by simp), sumL_append, sumL_append, List.length_append, List.length_append, h2']
          refine ⟨by simp only [sumL]; omega, ?_, fun _ _ => by simp⟩
          by_cases hc : prevB f q = true ∧ g 0 = true
          · have := h3' hc.2
            rw [if_pos hc, if_pos ⟨by omega, hc⟩]
            simp only [List.length_singleton]; omega
          · rw [if_neg hc, if_neg (fun h => hc h.2)]
            simp only [List.length_singleton]; omega
theorem onB_left (s t : List UInt8) (k q i : Nat) (hk : 0 < k) (hs : s.length = q * k) (hi : i < s.length) : onB (s ++ t) k i = onB s k i := by
  have hb := block_div (i := i) hk
  have hq : i / k < q := Nat.div_lt_of_lt_mul (by rw [Nat.mul_comm]; omega)
  have hm : (i / k + 1) * k ≤ q * k := Nat.mul_le_mul_right _ hq
  rw [Nat.succ_mul] at hm
  unfold onB
  rw [List.drop_append_of_le_length (by omega), List.take_append_of_le_length (by rw [List.length_drop]; omega)]
theorem onB_right (s t : List UInt8) (k q i : Nat) (hk : 0 < k) (hs : s.length = q * k) : onB (s ++ t) k (s.length + i) = onB t k i := by
  unfold onB
  have : (s.length + i) / k * k = s.length + i / k * k := by
    rw [hs, Nat.add_comm (q * k), Nat.mul_comm q k, Nat.add_mul_div_left _ _ hk, Nat.add_mul, Nat.mul_comm q k]; omega
  rw [this, ← List.drop_drop, List.drop_left' rfl]
theorem findF_join (s t : List UInt8) (k q : Nat) (hk : 0 < k) (hs : s.length = q * k) :
    sumL (findF (s ++ t) k) = sumL (findF s k) + sumL (findF t k) ∧ (findF (s ++ t) k).length ≤ (findF s k).length + (findF t k).length ∧ (findF s k).length + (findF t k).length ≤ (findF (s ++ t) k).length + 1 := by
  unfold findF
  rw [List.length_append]
  obtain ⟨h1, h2, _⟩ := runs_join (onB (s ++ t) k) (onB t k) s.length t.length fun i _ => onB_right s t k q i hk hs
  rw [runs_congr (f := onB (s ++ t) k) (g := onB s k) s.length fun j hj => onB_left s t k q j hk hs hj] at h1 h2
  refine ⟨h1, ?_, ?_⟩ <;> (rw [h2]; split <;> omega)
end Go.Proofs.YtpkledmpldnhiaaDoor
