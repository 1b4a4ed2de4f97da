/- Ho: what the texts of the name hold, joined. -/
import Derived.Test.YthnonmniponahaaGreatDoorQBa
import Derived.SizedLaws
import Derived.Deep.SlicePairs
import Derived.Carry
import Derived.ChangeMaps5
import Derived.Deep.LoopGhost
import Derived.OpenShut
section
/- Pieces of sparse files, as lists of pairs of numbers: valid, found, taken, put. -/
namespace Go.Proofs.YthnonmniponahaaGreatDoor
open Go.RowKit (wrap64)
set_option linter.unusedVariables false

abbrev Pc := Int × Int
/-- The pieces are in order behind e, do not touch, and lie within size. -/
def rightF (size : Int) : Int → List Pc → Bool
  | _, [] => true
  | e, p :: l => decide (e < p.1) && (decide (1 ≤ p.2) && (decide (p.2 ≤ size - p.1) && rightF size (p.1 + p.2) l))
def mapRight (l : List Pc) (size : Int) : Bool := decide (0 ≤ size) && (decide (l.length ≤ 20) && rightF size (-1) l)
/-- The sum, with wraparound. -/
def sizeF (a : Int) : List Pc → Int
  | [] => a
  | p :: l => sizeF (wrap64 (a + p.2)) l
/-- Where the last piece ends. -/
def endE : Int → List Pc → Int
  | e, [] => e
  | _, p :: l => endE (p.1 + p.2) l
/-! ### Valid lists -/
theorem rightF_cons {size e : Int} {p : Pc} {l : List Pc} : rightF size e (p :: l) = true ↔ e < p.1 ∧ 1 ≤ p.2 ∧ p.2 ≤ size - p.1 ∧ rightF size (p.1 + p.2) l = true := by
  simp [rightF]
theorem rightF_snoc (size : Int) (p : Pc) : ∀ (l : List Pc) (e : Int), rightF size e (l ++ [p]) = true ↔ rightF size e l = true ∧ endE e l < p.1 ∧ 1 ≤ p.2 ∧ p.2 ≤ size - p.1
  | [], e => by simp [rightF, endE]
  | q :: l, e => by
    rw [List.cons_append, rightF_cons, rightF_cons, rightF_snoc size p l]
    simp only [endE]
    constructor
    · rintro ⟨h1, h2, h3, h4, h5⟩; exact ⟨⟨h1, h2, h3, h4⟩, h5⟩
    · rintro ⟨⟨h1, h2, h3, h4⟩, h5⟩; exact ⟨h1, h2, h3, h4, h5⟩
theorem endE_snoc (p : Pc) : ∀ (l : List Pc) (e : Int), endE e (l ++ [p]) = p.1 + p.2
  | [], e => rfl
  | q :: l, e => endE_snoc p l _
theorem endE_take {l : List Pc} {i : Nat} {p : Pc} (h : l[i]? = some p) (e : Int) : endE e (l.take (i + 1)) = p.1 + p.2 := by
  rw [List.take_add_one, h]
  exact endE_snoc p _ e
theorem rightF_take {size : Int} {l : List Pc} {i : Nat} {p : Pc} {e : Int} (h : l[i]? = some p) : rightF size e (l.take (i + 1)) = true ↔ rightF size e (l.take i) = true ∧ endE e (l.take i) < p.1 ∧ 1 ≤ p.2 ∧ p.2 ≤ size - p.1 := by
  rw [List.take_add_one, h]
  exact rightF_snoc size p _ e
theorem rightF_prefix {size : Int} : ∀ (l : List Pc) (e : Int) (i : Nat), rightF size e l = true → rightF size e (l.take i) = true
  | [], e, i, h => by rw [List.take_nil]; exact h
  | p :: l, e, 0, h => rfl
  | p :: l, e, i + 1, h => by
    rw [List.take_succ_cons, rightF_cons]
    rw [rightF_cons] at h
    exact ⟨h.1, h.2.1, h.2.2.1, rightF_prefix l _ i h.2.2.2⟩
theorem rightF_false {size e : Int} {l : List Pc} {i : Nat} (h : rightF size e (l.take i) = false) : rightF size e l = false := by
  cases hh : rightF size e l with
  | false => rfl
  | true => rw [rightF_prefix l e i hh] at h; cases h
theorem rightF_end {size : Int} : ∀ (l : List Pc) (e : Int), rightF size e l = true → e ≤ endE e l ∧ (l ≠ [] → endE e l ≤ size)
  | [], e, h => ⟨Int.le_refl _, fun h => absurd rfl h⟩
  | p :: l, e, h => by
    rw [rightF_cons] at h
    have ih := rightF_end l _ h.2.2.2
    refine ⟨?_, fun _ => ?_⟩
    · simp only [endE]; omega
    · simp only [endE]
      by_cases hl : l = []
      · subst hl; simp only [endE]; omega
      · exact ih.2 hl
theorem sizeF_snoc (p : Pc) : ∀ (l : List Pc) (a : Int), sizeF a (l ++ [p]) = wrap64 (sizeF a l + p.2)
  | [], a => rfl
  | q :: l, a => sizeF_snoc p l _
theorem sizeF_take {l : List Pc} {i : Nat} {p : Pc} (h : l[i]? = some p) (a : Int) : sizeF a (l.take (i + 1)) = wrap64 (sizeF a (l.take i) + p.2) := by
  rw [List.take_add_one, h]; exact sizeF_snoc p _ a

/-! ### Taken, and put -/
end Go.Proofs.YthnonmniponahaaGreatDoor
end
section
/- The pieces of a text: runs of places, by blocks. -/
namespace Go.Proofs.YthnonmniponahaaGreatDoor
set_option linter.unusedVariables false

/-- The last piece is longer by c. -/
def bump (l : List Pc) (c : Int) : List Pc := match l.getLast? with
  | none => l
  | some p => l.dropLast ++ [(p.1, p.2 + c)]
theorem bump_snoc (l : List Pc) (p : Pc) (c : Int) : bump (l ++ [p]) c = l ++ [(p.1, p.2 + c)] := by
  unfold bump; simp
theorem snoc_cases (l : List Pc) : l = [] ∨ ∃ m p, l = m ++ [p] := by
  rcases List.eq_nil_or_concat l with h | ⟨m, p, h⟩
  · exact Or.inl h
  · exact Or.inr ⟨m, p, by rw [h]; simp⟩
theorem bump_length (l : List Pc) (c : Int) : (bump l c).length = l.length := by
  rcases snoc_cases l with rfl | ⟨m, p, rfl⟩
  · rfl
  · rw [bump_snoc]; simp
theorem bump_bump (l : List Pc) (c d : Int) : bump (bump l c) d = bump l (c + d) := by
  rcases snoc_cases l with rfl | ⟨m, p, rfl⟩
  · rfl
  · rw [bump_snoc, bump_snoc, bump_snoc, Int.add_assoc]
/-- What stood ahead of this place. -/
def prevB (f : Nat → Bool) : Nat → Bool
  | 0 => false
  | i + 1 => f i
/-- The runs of places at which f is, ahead of a place. -/
def runs (f : Nat → Bool) : Nat → List Pc
  | 0 => []
  | i + 1 => if f i = true then (if prevB f i = true then bump (runs f i) 1 else runs f i ++ [((i : Int), 1)]) else runs f i

theorem runs_end (f : Nat → Bool) : ∀ i : Nat, (prevB f i = true → ∃ m p, runs f i = m ++ [p] ∧ p.1 + p.2 = (i : Int)) ∧ (prevB f i = false → endE (-1) (runs f i) < (i : Int)) ∧ endE (-1) (runs f i) ≤ (i : Int)
  | 0 => ⟨fun h => (by cases h), fun _ => (by simp [runs, endE]), (by simp [runs, endE])⟩
  | i + 1 => by
    obtain ⟨h1, h2, h3⟩ := runs_end f i
    rw [runs]
    cases hf : f i with
    | false =>
      rw [if_neg (by simp)]
      refine ⟨fun h => (by rw [prevB, hf] at h; cases h), fun _ => ?_, ?_⟩ <;> omega
    | true =>
      rw [if_pos rfl]
      cases hp : prevB f i with
      | true =>
        obtain ⟨m, p, hm, he⟩ := h1 hp
        rw [if_pos rfl, hm, bump_snoc, endE_snoc]
        refine ⟨fun _ => ⟨m, _, rfl, (by simp only; omega)⟩, fun h => (by rw [prevB, hf] at h; cases h), (by simp only; omega)⟩
      | false =>
        rw [if_neg (by simp), endE_snoc]
        refine ⟨fun _ => ⟨_, _, rfl, (by simp only; omega)⟩, fun h => (by rw [prevB, hf] at h; cases h), (by simp only; omega)⟩
theorem runs_endE (f : Nat → Bool) (i : Nat) : endE (-1) (runs f i) = (i : Int) ↔ prevB f i = true := by
  obtain ⟨h1, h2, _⟩ := runs_end f i
  cases hp : prevB f i with
  | true => obtain ⟨m, p, hm, he⟩ := h1 hp; rw [hm, endE_snoc, he]; simp
  | false => have := h2 hp; simp; omega
theorem runs_right (f : Nat → Bool) : ∀ (i : Nat) (n : Int), (i : Int) ≤ n → rightF n (-1) (runs f i) = true
  | 0, n, _ => rfl
  | i + 1, n, hn => by
    obtain ⟨h1, h2, h3⟩ := runs_end f i
    have ih := runs_right f i n (by omega)
    rw [runs]
    split
    · split
      · next hp =>
        obtain ⟨m, p, hm, he⟩ := h1 hp
        rw [hm, bump_snoc, rightF_snoc]
        rw [hm, rightF_snoc] at ih
        exact ⟨ih.1, ih.2.1, by simp only; omega, by simp only; omega⟩
      · next hp =>
        have := h2 (by simpa using hp)
        rw [rightF_snoc]
        exact ⟨ih, this, by simp only; omega, by simp only; omega⟩
    · exact ih
theorem runs_on (f : Nat → Bool) (i : Nat) : ∀ c : Nat, (∀ j, i ≤ j → j < i + (c + 1) → f j = true) → runs f (i + (c + 1)) = if prevB f i = true then bump (runs f i) ((c + 1 : Nat) : Int) else runs f i ++ [((i : Int), ((c + 1 : Nat) : Int))]
  | 0, h => by
    rw [← Nat.add_assoc, Nat.add_zero, runs, h i (by omega) (by omega), if_pos rfl]; rfl
  | c + 1, h => by
    have ih := runs_on f i c fun j h1 h2 => h j h1 (by omega)
    rw [← Nat.add_assoc, runs, h _ (by omega) (by omega), if_pos rfl]
    rw [show prevB f (i + (c + 1)) = true from h (i + c) (by omega) (by omega), if_pos rfl, ih]
    split
    · rw [bump_bump]; congr 1
    · rw [bump_snoc]; rfl
theorem runs_length_mono (f : Nat → Bool) (i : Nat) : ∀ c : Nat, (runs f i).length ≤ (runs f (i + c)).length
  | 0 => Nat.le_refl _
  | c + 1 => by
    refine Nat.le_trans (runs_length_mono f i c) ?_
    rw [← Nat.add_assoc, runs]
    split
    · split
      · rw [bump_length]; exact Nat.le_refl _
      · rw [List.length_append]; omega
    · exact Nat.le_refl _

/-! ### By blocks -/
/-- Does the block of this place hold a byte other than 0? -/
def onB (s : List UInt8) (k i : Nat) : Bool := ((s.drop (i / k * k)).take k).any (· != 0)
def findF (s : List UInt8) (k : Nat) : List Pc := runs (onB s k) s.length
theorem onB_at (s : List UInt8) (k i j : Nat) (h : i / k = j / k) : onB s k i = onB s k j := by unfold onB; rw [h]
theorem onB_true {s : List UInt8} {k i : Nat} {c : UInt8} (h : s[i]? = some c) (hk : 0 < k) (hc : c ≠ 0) : onB s k i = true := by
  unfold onB
  rw [List.any_eq_true]
  refine ⟨c, ?_, by simpa using hc⟩
  have h1 := Nat.div_add_mod i k
  have h2 := Nat.mod_lt i hk
  have h3 : i / k * k = k * (i / k) := Nat.mul_comm _ _
  apply List.mem_of_getElem? (i := i - i / k * k)
  rw [List.getElem?_take, if_pos (by omega), List.getElem?_drop, show i / k * k + (i - i / k * k) = i by omega, h]
theorem div_block {k b i : Nat} (hk : 0 < k) (h0 : b * k ≤ i) (h1 : i < b * k + k) : i / k = b := by
  rw [show i = (i - b * k) + k * b by rw [Nat.mul_comm k b]; omega, Nat.add_mul_div_left _ _ hk, Nat.div_eq_of_lt (by omega)]; omega
theorem block_div {k i : Nat} (hk : 0 < k) : i / k * k ≤ i ∧ i < i / k * k + k := by
  have h1 := Nat.div_add_mod i k
  have h2 := Nat.mod_lt i hk
  have h3 : i / k * k = k * (i / k) := Nat.mul_comm _ _
  omega

/-- The pieces of the blocks ahead of block b. -/
def findB (s : List UInt8) (k b : Nat) : List Pc := runs (onB s k) (min (b * k) s.length)
theorem findB_on {s : List UInt8} {k b i : Nat} {c : UInt8} (hk : 0 < k) (h0 : b * k ≤ i) (h1 : i < b * k + k) (hi : s[i]? = some c) (hc : c ≠ 0) :
    findB s k (b + 1) = if endE (-1) (findB s k b) = ((b * k : Nat) : Int) then bump (findB s k b) ((min k (s.length - b * k) : Nat) : Int) else findB s k b ++ [(((b * k : Nat) : Int), ((min k (s.length - b * k) : Nat) : Int))] := by
  have hn := (List.getElem?_eq_some_iff.1 hi).1
  unfold findB
  rw [Nat.succ_mul, Nat.min_eq_left (by omega : b * k ≤ s.length)]
  obtain ⟨d, hd⟩ : ∃ d, min k (s.length - b * k) = d + 1 := ⟨min k (s.length - b * k) - 1, by omega⟩
  rw [show min (b * k + k) s.length = b * k + (d + 1) by omega, hd]
  rw [runs_on _ _ d fun j h2 h3 => by rw [onB_at s k j i (by rw [div_block hk h2 (by omega), div_block hk h0 h1])]; exact onB_true hi hk hc]
  simp only [runs_endE]
theorem findB_end {s : List UInt8} {k b : Nat} : endE (-1) (findB s k b) ≤ ((min (b * k) s.length : Nat) : Int) := (runs_end _ _).2.2

/-- Between two rounds, at place i, e the end of the last piece. -/
def FInv (s : List UInt8) (k i : Nat) (l : List Pc) (e : Int) : Prop :=
  e = endE (-1) l ∧ i ≤ s.length ∧ ((l = findB s k (i / k) ∧ ∀ j, i / k * k ≤ j → j < i → s[j]? = some 0) ∨ (l = findB s k (i / k + 1) ∧ e = ((min ((i / k + 1) * k) s.length : Nat) : Int) ∧ ((i : Int) < e ∨ i = s.length)))
/-- The next place is in this block, or begins the next. -/
theorem next_block {k i : Nat} (hk : 0 < k) : (i + 1) / k = i / k ∧ i + 1 < i / k * k + k ∨ (i + 1) / k = i / k + 1 ∧ i + 1 = (i / k + 1) * k := by
  have h1 := block_div (i := i) hk
  by_cases h : i + 1 < i / k * k + k
  · exact Or.inl ⟨div_block hk (by omega) h, h⟩
  · refine Or.inr ⟨div_block hk (by rw [Nat.succ_mul]; omega) (by rw [Nat.succ_mul]; omega), by rw [Nat.succ_mul]; omega⟩
theorem FInv.low {s : List UInt8} {k i : Nat} {l : List Pc} {e : Int} (hk : 0 < k) (h : FInv s k i l e) (hi : i < s.length) (hs : ¬ (i : Int) < e) : l = findB s k (i / k) ∧ e ≤ ((i / k * k : Nat) : Int) := by
  obtain ⟨he, _, ⟨hl, hz⟩ | ⟨hl, he2, h⟩⟩ := h
  · refine ⟨hl, ?_⟩
    have := findB_end (s := s) (k := k) (b := i / k)
    rw [← hl] at this
    omega
  · omega
/-- A round that finds a block. -/
theorem FInv.take {s : List UInt8} {k i : Nat} {l : List Pc} {e : Int} {c : UInt8} (hk : 0 < k) (h : FInv s k i l e) (hi : s[i]? = some c) (hc : c ≠ 0) (hs : ¬ (i : Int) < e) :
    FInv s k (i + 1) (if e = ((i / k * k : Nat) : Int) then bump l ((min k (s.length - i / k * k) : Nat) : Int) else l ++ [(((i / k * k : Nat) : Int), ((min k (s.length - i / k * k) : Nat) : Int))]) (((i / k * k + min k (s.length - i / k * k) : Nat) : Int)) := by
  have hn := (List.getElem?_eq_some_iff.1 hi).1
  have hb := block_div (i := i) hk
  obtain ⟨hl, hlow⟩ := h.low hk hn hs
  have he := h.1
  have hL := findB_on hk hb.1 hb.2 hi hc
  rw [← hl, ← he] at hL
  rw [← hL]
  have hE : (((i / k * k + min k (s.length - i / k * k) : Nat) : Int)) = endE (-1) (findB s k (i / k + 1)) := by
    rw [hL]
    split
    · next h0 =>
      rcases snoc_cases l with rfl | ⟨m, p, rfl⟩
      · rw [he] at h0; simp only [endE] at h0; omega
      · rw [endE_snoc] at he
        rw [bump_snoc, endE_snoc]
        simp only
        omega
    · rw [endE_snoc]; simp
  refine ⟨hE, by omega, ?_⟩
  rcases next_block (i := i) hk with ⟨e1, e2⟩ | ⟨e1, e2⟩
  · right
    rw [e1, Nat.succ_mul]
    exact ⟨rfl, by omega, by omega⟩
  · left
    rw [e1]
    exact ⟨rfl, fun j h1 h2 => by omega⟩
theorem findB_le (s : List UInt8) (k b : Nat) : (findB s k b).length ≤ (findF s k).length := by
  unfold findB findF
  have := runs_length_mono (onB s k) (min (b * k) s.length) (s.length - min (b * k) s.length)
  rw [show min (b * k) s.length + (s.length - min (b * k) s.length) = s.length by omega] at this
  exact this
/-- One piece too many. -/
theorem FInv.over {s : List UInt8} {k i : Nat} {l : List Pc} {e : Int} {c : UInt8} (hk : 0 < k) (h : FInv s k i l e) (hi : s[i]? = some c) (hc : c ≠ 0) (hs : ¬ (i : Int) < e) (hne : ¬ e = ((i / k * k : Nat) : Int)) (h20 : l.length = 20) : 20 < (findF s k).length := by
  have hn := (List.getElem?_eq_some_iff.1 hi).1
  have hb := block_div (i := i) hk
  obtain ⟨hl, hlow⟩ := h.low hk hn hs
  have hL := findB_on hk hb.1 hb.2 hi hc
  rw [← hl, ← h.1, if_neg hne] at hL
  have := findB_le s k (i / k + 1)
  rw [hL, List.length_append] at this
  simp at this
  omega
theorem FInv.length {s : List UInt8} {k i : Nat} {l : List Pc} {e : Int} (h : FInv s k i l e) : l.length ≤ (findF s k).length := by
  obtain ⟨_, _, ⟨hl, _⟩ | ⟨hl, _⟩⟩ := h <;> rw [hl] <;> exact findB_le _ _ _
theorem FInv.right {s : List UInt8} {k i : Nat} {l : List Pc} {e : Int} (h : FInv s k i l e) : rightF s.length (-1) l = true := by
  obtain ⟨_, _, ⟨hl, _⟩ | ⟨hl, _⟩⟩ := h <;> rw [hl] <;> exact runs_right _ _ _ (by omega)
/-! ### What the pieces hold -/
/-! ### Two texts -/
end Go.Proofs.YthnonmniponahaaGreatDoor
end
section
/- Lists of pieces that come in as arguments; Right, Size and the reference's. -/
namespace Go.Proofs.YthnonmniponahaaGreatDoor
open Go.RowKit Go.Joins
set_option linter.unusedVariables false

/-- A list of pieces lies behind the address. -/
def PiecesAt (W : World) (ad : Option Addr) (l : List Pc) : Prop :=
  ∀ (i : Nat) (p : Pc), l[i]? = some p → ∃ b off, ad = some ⟨b, off, none⟩ ∧ b < W.heap.size ∧ W.cell? ⟨b, off + i * 2, none⟩ = some (.int .i64 p.1) ∧ W.cell? ⟨b, off + i * 2 + 1, none⟩ = some (.int .i64 p.2)
theorem PiecesAt.below {W W' : World} {ad : Option Addr} {l : List Pc} (h : PiecesAt W ad l) (hb : Below W.heap.size W W') : PiecesAt W' ad l := fun i p hi => by
  obtain ⟨b, off, h1, h2, h3, h4⟩ := h i p hi
  exact ⟨b, off, h1, Nat.lt_of_lt_of_le h2 hb.size, (hb.cell (p := ⟨b, off + i * 2, none⟩) h2).trans h3, (hb.cell (p := ⟨b, off + i * 2 + 1, none⟩) h2).trans h4⟩
/-- The pieces in one block. -/
def RowAt (W : World) (b off : Nat) (l : List Pc) : Prop :=
  ∀ (i : Nat) (p : Pc), l[i]? = some p → W.cell? ⟨b, off + i * 2, none⟩ = some (.int .i64 p.1) ∧ W.cell? ⟨b, off + i * 2 + 1, none⟩ = some (.int .i64 p.2)
theorem RowAt.below {W W' : World} {b off : Nat} {l : List Pc} (hlt : b < W.heap.size) (h : RowAt W b off l) (hb : Below W.heap.size W W') : RowAt W' b off l := fun i p hi => by
  obtain ⟨h3, h4⟩ := h i p hi
  exact ⟨(hb.cell (p := ⟨b, off + i * 2, none⟩) hlt).trans h3, (hb.cell (p := ⟨b, off + i * 2 + 1, none⟩) hlt).trans h4⟩
theorem PiecesAt.cases {W : World} {ad : Option Addr} {l : List Pc} (h : PiecesAt W ad l) : l = [] ∨ ∃ b off, ad = some ⟨b, off, none⟩ ∧ b < W.heap.size ∧ RowAt W b off l := by
  cases l with
  | nil => exact Or.inl rfl
  | cons q l =>
    right
    obtain ⟨b, off, h1, h2, _⟩ := h 0 q rfl
    refine ⟨b, off, h1, h2, fun i p hi => ?_⟩
    obtain ⟨b', off', h1', _, h3, h4⟩ := h i p hi
    rw [h1] at h1'
    cases h1'
    exact ⟨h3, h4⟩
/-- Numbers of 64 bits. -/
def Fits (l : List Pc) : Prop := ∀ p ∈ l, (-9223372036854775808 ≤ p.1 ∧ p.1 ≤ 9223372036854775807) ∧ (-9223372036854775808 ≤ p.2 ∧ p.2 ≤ 9223372036854775807)
theorem spot_of_cell {w : World} {a : Addr} {v : Value} (h : w.cell? a = some v) : a.spot = none := by
  unfold World.cell? at h
  split at h
  · cases hs : a.spot with
    | none => rfl
    | some x => rw [hs] at h; simp at h
  · cases h
set_option maxHeartbeats 2000000 in
theorem sizeA_any (ad : Option Addr) (cap : Nat) (l : List Pc) (hl : l.length ≤ maxLen) (hF : Fits l) (w : World) (hM : PiecesAt w ad l) :
    Calls Tryz.prog 113 #[.slice ad l.length cap] w fun e w' => e = .returned (.int .i64 (sizeF 0 l)) ∧ Below w.heap.size w w' := by
  unfold maxLen at hl
  rcases hM.cases with rfl | ⟨b, off, rfl, hlt, hR⟩
  · clear hM hF
    go_enter Tryz.func113, Tryz.ntmps113
    go_wp2
    refine wp_loop_rounds 1 ?_
    rw [rounds_succ]
    go_wp2
    go_ret
    exact ⟨rfl, Below.refl _ _⟩
  · clear hM
    have HR := Lib.hid (fun w' hb => RowAt.below (W' := w') hlt hR hb)
    have HF := Lib.hid hF
    clear hR hF hlt
    go_enter Tryz.func113, Tryz.ntmps113
    go_wp2
    go_loopg [3, 8] l.length (fun g s2 s8 wr => ∃ i : Nat, i ≤ l.length ∧ l.length - i ≤ g ∧ s2 = .int .i64 (sizeF 0 (l.take i)) ∧ s8 = .int .i64 i ∧ Aside (Below w.heap.size w wr))
    case atStart => exact ⟨0, by omega, by omega, rfl, rfl, (show Aside _ from Below.refl _ _)⟩
    case round =>
      obtain ⟨i, hi, hg, rfl, rfl, A⟩ := hrel
      by_cases hil : i < l.length
      · obtain ⟨p, hp⟩ : ∃ p, l[i]? = some p := ⟨_, List.getElem?_eq_getElem hil⟩
        obtain ⟨c1, c2⟩ := HR.out wr A.out i p hp
        have hF := HF.out p (List.mem_of_getElem? hp)
        have HS := Lib.hid (sizeF_take hp 0)
        clear hp
        go_wp2
        go_roundg (l.length - (i + 1))
        case measure => omega
        case rel => exact ⟨i + 1, by omega, by omega, by rw [HS.out], by first | rfl | simp, (show Aside _ from A.out.alloc A.out.size _)⟩
      · go_wp2
        go_ret
        rw [List.take_of_length_le (by omega)]
        exact ⟨rfl, A.out⟩
set_option maxHeartbeats 2000000 in
theorem sizeB_any (ad : Option Addr) (cap : Nat) (l : List Pc) (hl : l.length ≤ maxLen) (hF : Fits l) (w : World) (hM : PiecesAt w ad l) :
    Calls Tryz.prog 131 #[.slice ad l.length cap] w fun e w' => e = .returned (.int .i64 (sizeF 0 l)) ∧ Below w.heap.size w w' := by
  unfold maxLen at hl
  rcases hM.cases with rfl | ⟨b, off, rfl, hlt, hR⟩
  · clear hM hF
    go_enter Tryz.func131, Tryz.ntmps131
    go_wp2
    refine wp_loop_rounds 1 ?_
    rw [rounds_succ]
    go_wp2
    go_ret
    exact ⟨rfl, Below.refl _ _⟩
  · clear hM
    have HR := Lib.hid (fun w' hb => RowAt.below (W' := w') hlt hR hb)
    have HF := Lib.hid hF
    clear hR hF hlt
    go_enter Tryz.func131, Tryz.ntmps131
    go_wp2
    go_loopg [3, 8] l.length (fun g s2 s8 wr => ∃ i : Nat, i ≤ l.length ∧ l.length - i ≤ g ∧ s2 = .int .i64 (sizeF 0 (l.take i)) ∧ s8 = .int .i64 i ∧ Aside (Below w.heap.size w wr))
    case atStart => exact ⟨0, by omega, by omega, rfl, rfl, (show Aside _ from Below.refl _ _)⟩
    case round =>
      obtain ⟨i, hi, hg, rfl, rfl, A⟩ := hrel
      by_cases hil : i < l.length
      · obtain ⟨p, hp⟩ : ∃ p, l[i]? = some p := ⟨_, List.getElem?_eq_getElem hil⟩
        obtain ⟨c1, c2⟩ := HR.out wr A.out i p hp
        have hF := HF.out p (List.mem_of_getElem? hp)
        have HS := Lib.hid (sizeF_take hp 0)
        clear hp
        go_wp2
        go_roundg (l.length - (i + 1))
        case measure => omega
        case rel => exact ⟨i + 1, by omega, by omega, by rw [HS.out], by first | rfl | simp, (show Aside _ from A.out.alloc A.out.size _)⟩
      · go_wp2
        go_ret
        rw [List.take_of_length_le (by omega)]
        exact ⟨rfl, A.out⟩

theorem mapRight_false_size {l : List Pc} {size : Int} (h : size < 0) : mapRight l size = false := by
  unfold mapRight; rw [decide_eq_false (by omega), Bool.false_and]
theorem mapRight_false_long {l : List Pc} {size : Int} (h : 20 < l.length) : mapRight l size = false := by
  unfold mapRight; rw [decide_eq_false (by omega : ¬ l.length ≤ 20), Bool.false_and, Bool.and_false]
theorem mapRight_false_at {l : List Pc} {size : Int} {i : Nat} {p : Pc} (hp : l[i]? = some p) (h : p.1 ≤ endE (-1) (l.take i) ∨ p.2 < 1 ∨ size - p.1 < p.2) : mapRight l size = false := by
  unfold mapRight
  have : rightF size (-1) l = false := rightF_false (i := i + 1) (by
    cases hh : rightF size (-1) (l.take (i + 1)) with
    | false => rfl
    | true => have := (rightF_take hp).1 hh; omega)
  rw [this, Bool.and_false, Bool.and_false]
theorem mapRight_true {l : List Pc} {size : Int} (h0 : 0 ≤ size) (h1 : l.length ≤ 20) (h2 : rightF size (-1) l = true) : mapRight l size = true := by
  unfold mapRight; rw [decide_eq_true h0, decide_eq_true h1, h2]; rfl
theorem mapRight_nil {size : Int} (h : 0 ≤ size) : mapRight [] size = true := mapRight_true h (by simp) rfl

set_option maxHeartbeats 2000000 in
theorem rightA_any (ad : Option Addr) (cap : Nat) (l : List Pc) (size : Int) (hs : -9223372036854775808 ≤ size ∧ size ≤ 9223372036854775807) (hl : l.length ≤ maxLen) (hF : Fits l) (w : World) (hM : PiecesAt w ad l) :
    Calls Tryz.prog 112 #[.slice ad l.length cap, .int .i64 size] w fun e w' => e = .returned (.bool (mapRight l size)) ∧ Below w.heap.size w w' := by
  unfold maxLen at hl
  by_cases h0 : size < 0
  · rw [mapRight_false_size h0]
    clear hM hF
    go_enter Tryz.func112, Tryz.ntmps112
    go_wp2
    go_ret
    exact ⟨rfl, Below.refl _ _⟩
  by_cases h20 : (20 : Int) < (l.length : Int)
  · rw [mapRight_false_long (by omega)]
    clear hM hF
    go_enter Tryz.func112, Tryz.ntmps112
    go_wp2
    go_ret
    exact ⟨rfl, Below.refl _ _⟩
  rcases hM.cases with rfl | ⟨b, off, rfl, hlt, hR⟩
  · rw [mapRight_nil (by omega)]
    clear hM hF
    go_enter Tryz.func112, Tryz.ntmps112
    go_wp2
    refine wp_loop_rounds 1 ?_
    rw [rounds_succ]
    go_wp2
    go_ret
    exact ⟨rfl, Below.refl _ _⟩
  · clear hM
    have HR := Lib.hid (fun w' hb => RowAt.below (W' := w') hlt hR hb)
    have HF := Lib.hid hF
    clear hR hF hlt
    go_enter Tryz.func112, Tryz.ntmps112
    go_wp2
    go_loopg [5, 17] l.length (fun g s2 s8 wr => ∃ i : Nat, i ≤ l.length ∧ l.length - i ≤ g ∧ s2 = .int .i64 (endE (-1) (l.take i)) ∧ s8 = .int .i64 i ∧ Aside (Below w.heap.size w wr ∧ rightF size (-1) (l.take i) = true))
    case atStart => exact ⟨0, by omega, by omega, rfl, rfl, (show Aside _ from ⟨Below.refl _ _, rfl⟩)⟩
    case round =>
      obtain ⟨i, hi, hg, rfl, rfl, A⟩ := hrel
      by_cases hil : i < l.length
      · obtain ⟨p, hp⟩ : ∃ p, l[i]? = some p := ⟨_, List.getElem?_eq_getElem hil⟩
        obtain ⟨c1, c2⟩ := HR.out wr A.out.1 i p hp
        have hF := HF.out p (List.mem_of_getElem? hp)
        have hlow := (rightF_end _ _ A.out.2).1
        generalize hE : endE (-1) (l.take i) = E at hlow
        by_cases hbad : p.1 ≤ E ∨ p.2 < 1 ∨ size - p.1 < p.2
        · have HX := Lib.hid (mapRight_false_at (size := size) hp (by rw [hE]; exact hbad))
          clear hE hp
          by_cases h1 : p.1 ≤ E
          · go_wp2
            go_ret
            exact ⟨by rw [HX.out]; rfl, A.out.1.alloc A.out.1.size _⟩
          by_cases h2 : p.2 < 1
          · go_wp2
            go_ret
            exact ⟨by rw [HX.out]; rfl, A.out.1.alloc A.out.1.size _⟩
          have h3 : size - p.1 < p.2 := by omega
          go_wp2
          go_ret
          exact ⟨by rw [HX.out]; rfl, A.out.1.alloc A.out.1.size _⟩
        · have h1 : E < p.1 := by omega
          have h2 : 1 ≤ p.2 := by omega
          have h3 : p.2 ≤ size - p.1 := by omega
          have HS := Lib.hid (endE_take hp (-1))
          have HT := Lib.hid ((rightF_take hp).2 ⟨A.out.2, by rw [hE]; exact h1, h2, h3⟩)
          clear hbad hE hp
          go_wp2
          go_roundg (l.length - (i + 1))
          case measure => omega
          case rel => exact ⟨i + 1, by omega, by omega, by rw [HS.out], by first | rfl | simp, (show Aside _ from ⟨A.out.1.alloc A.out.1.size _, HT.out⟩)⟩
      · go_wp2
        go_ret
        have hr := A.out.2
        rw [List.take_of_length_le (by omega)] at hr
        rw [mapRight_true (by omega) (by omega) hr]
        exact ⟨rfl, A.out.1⟩
end Go.Proofs.YthnonmniponahaaGreatDoor
end
section
/- The reference's MapRight. -/
namespace Go.Proofs.YthnonmniponahaaGreatDoor
open Go.RowKit Go.Joins
set_option linter.unusedVariables false

theorem idx_piece (w : World) (b off n cap k : Nat) (h : k < n) : (Instr.indexAt 26 (.slice (some ⟨b, off, none⟩) n cap) (.int .i64 (k : Int))).run Tryz.prog w = .ok (.pointer (some ⟨b, off + k * 2, none⟩)) w := by
  have he : Tryz.prog.elem 26 = 97 := by kernel_rfl
  rw [run_indexAt_slice w 26 _ _ _ _ _ (by rw [he]; exact Tryz.underlying26), if_pos ⟨by omega, by omega⟩, he]
  have hs : (sizeOf 97).run Tryz.prog w = .ok 2 w := by rw [sizeOf]; go_simp; kernel_rfl
  rw [hs]
  simp [Result.andThen, Go.WideShapes.add_plain]
set_option maxHeartbeats 2000000 in
theorem rightB_any (ad : Option Addr) (cap : Nat) (l : List Pc) (size : Int) (hs : -9223372036854775808 ≤ size ∧ size ≤ 9223372036854775807) (hl : l.length ≤ maxLen) (hF : Fits l) (w : World) (hM : PiecesAt w ad l) :
    Calls Tryz.prog 130 #[.slice ad l.length cap, .int .i64 size] w fun e w' => e = .returned (.bool (mapRight l size)) ∧ Below w.heap.size w w' := by
  unfold maxLen at hl
  by_cases h0 : size < 0
  · rw [mapRight_false_size h0]
    clear hM hF
    go_enter Tryz.func130, Tryz.ntmps130
    go_wp2
    go_ret
    exact ⟨rfl, Below.refl _ _⟩
  by_cases h20 : (20 : Int) < (l.length : Int)
  · rw [mapRight_false_long (by omega)]
    clear hM hF
    go_enter Tryz.func130, Tryz.ntmps130
    go_wp2
    go_ret
    exact ⟨rfl, Below.refl _ _⟩
  rcases hM.cases with rfl | ⟨b, off, rfl, hlt, hR⟩
  · rw [mapRight_nil (by omega)]
    clear hM hF
    go_enter Tryz.func130, Tryz.ntmps130
    go_wp2
    refine wp_loop_rounds 1 ?_
    rw [rounds_succ]
    go_wp2
    go_ret
    exact ⟨rfl, Below.refl _ _⟩
  · clear hM
    have HR := Lib.hid (fun w' hb => RowAt.below (W' := w') hlt hR hb)
    have HF := Lib.hid hF
    clear hR hF hlt
    go_enter Tryz.func130, Tryz.ntmps130
    go_wp2
    go_loopg [16] l.length (fun g s8 wr => ∃ i : Nat, i ≤ l.length ∧ l.length - i ≤ g ∧ s8 = .int .i64 i ∧ Aside (Below w.heap.size w wr ∧ rightF size (-1) (l.take i) = true))
    case atStart => exact ⟨0, by omega, by omega, rfl, (show Aside _ from ⟨Below.refl _ _, rfl⟩)⟩
    case round =>
      obtain ⟨i, hi, hg, rfl, A⟩ := hrel
      by_cases hil : i < l.length
      · obtain ⟨p, hp⟩ : ∃ p, l[i]? = some p := ⟨_, List.getElem?_eq_getElem hil⟩
        obtain ⟨c1, c2⟩ := HR.out wr A.out.1 i p hp
        have hF := HF.out p (List.mem_of_getElem? hp)
        have hlow := (rightF_end _ _ A.out.2).1
        have HE := Lib.hid (rightF_take (size := size) (e := -1) hp)
        have HN := Lib.hid (mapRight_false_at (size := size) hp)
        have HQ := Lib.hid (fun q (hq : l[i - 1]? = some q) => HR.out (wr.alloc (.cells #[.int .i64 p.1, .int .i64 p.2] 97)) (A.out.1.alloc A.out.1.size _) (i - 1) q hq)
        have HP := Lib.hid hp
        clear hp
        by_cases h1 : p.1 < 0
        · have HX := Lib.hid (HN.out (Or.inl (by omega)))
          have b1 : decide (p.1 < 0) = true := decide_eq_true h1
          clear h1
          go_wp2
          go_quiet (fail)
          go_wp2
          go_ret
          exact ⟨by rw [HX.out]; rfl, (A.out.1.alloc A.out.1.size _).trans (below_draws _ _ _)⟩
        have b1 : decide (p.1 < 0) = false := decide_eq_false h1
        by_cases h2 : p.2 < 1
        · have HX := Lib.hid (HN.out (Or.inr (Or.inl h2)))
          have b2 : decide (p.2 < 1) = true := decide_eq_true h2
          clear h1 h2
          go_wp2
          go_quiet (fail)
          go_wp2
          go_ret
          exact ⟨by rw [HX.out]; rfl, (A.out.1.alloc A.out.1.size _).trans (below_draws _ _ _)⟩
        have b2 : decide (p.2 < 1) = false := decide_eq_false h2
        by_cases h3 : size < p.2
        · have HX := Lib.hid (HN.out (Or.inr (Or.inr (by omega))))
          have b3 : decide (size < p.2) = true := decide_eq_true h3
          clear h1 h2 h3
          go_wp2
          go_quiet (fail)
          go_wp2
          go_ret
          exact ⟨by rw [HX.out]; rfl, (A.out.1.alloc A.out.1.size _).trans (below_draws _ _ _)⟩
        have b3 : decide (size < p.2) = false := decide_eq_false h3
        have wq1 : IntKind.i64.wrap (size - p.2) = size - p.2 := IntWalk.i64_in _ ⟨by omega, by omega⟩
        by_cases h4 : size - p.2 < p.1
        · have HX := Lib.hid (HN.out (Or.inr (Or.inr (by omega))))
          have b4 : decide (size - p.2 < p.1) = true := decide_eq_true h4
          go_wp2
          go_quiet (fail)
          go_wp2
          go_ret
          exact ⟨by rw [HX.out]; rfl, (A.out.1.alloc A.out.1.size _).trans (below_draws _ _ _)⟩
        have b4 : decide (size - p.2 < p.1) = false := decide_eq_false h4
        by_cases hi0 : i = 0
        · have hE0 : endE (-1) (l.take i) = -1 := by rw [hi0]; rfl
          have HT := Lib.hid (HE.out.2 ⟨A.out.2, by rw [hE0]; omega, by omega, by omega⟩)
          have b5 : decide (0 < i) = false := decide_eq_false (by omega)
          clear hi0 hE0
          go_wp2
          go_quiet (fail)
          go_wp2
          go_roundg (l.length - (i + 1))
          case measure => omega
          case rel => exact ⟨i + 1, by omega, by omega, by first | rfl | simp, (show Aside _ from ⟨(A.out.1.alloc A.out.1.size _).trans (below_draws _ _ _), HT.out⟩)⟩
        · obtain ⟨k, rfl⟩ : ∃ k, i = k + 1 := ⟨i - 1, by omega⟩
          obtain ⟨q, hq⟩ : ∃ q, l[k]? = some q := ⟨_, List.getElem?_eq_getElem (by omega)⟩
          obtain ⟨d1, d2⟩ := HQ.out q (by rw [Nat.add_sub_cancel]; exact hq)
          rw [Nat.add_sub_cancel] at d1 d2
          have hE1 : endE (-1) (l.take (k + 1)) = q.1 + q.2 := endE_take hq (-1)
          have hqr : q.1 + q.2 ≤ size ∧ 0 ≤ q.1 ∧ 0 ≤ q.2 := by
            have h := (rightF_take (size := size) (e := -1) hq).1 A.out.2
            have := (rightF_end _ _ h.1).1
            omega
          have b5 : decide ((0 : Int) < (k : Int) + 1) = true := decide_eq_true (by omega)
          have hkl : k < l.length := by omega
          have wqk : IntKind.i64.wrap (k : Int) = (k : Int) := IntWalk.i64_in _ ⟨by omega, by omega⟩
          have hix := fun w' => idx_piece w' b off l.length cap k hkl
          have wq3 : IntKind.i64.wrap (q.1 + q.2) = q.1 + q.2 := IntWalk.i64_in _ ⟨by omega, by omega⟩
          clear hq hi0
          by_cases h5 : p.1 ≤ q.1 + q.2
          · have HX := Lib.hid (HN.out (Or.inl (by rw [hE1]; exact h5)))
            have b6 : decide (p.1 ≤ q.1 + q.2) = true := decide_eq_true h5
            clear hE1
            go_wp2
            go_quiet (fail)
            go_wp2
            go_ret
            exact ⟨by rw [HX.out]; rfl, (A.out.1.alloc A.out.1.size _).trans (below_draws _ _ _)⟩
          · have HT := Lib.hid (HE.out.2 ⟨A.out.2, by rw [hE1]; omega, by omega, by omega⟩)
            have b6 : decide (p.1 ≤ q.1 + q.2) = false := decide_eq_false h5
            clear hE1
            go_wp2
            go_quiet (fail)
            go_wp2
            go_roundg (l.length - (k + 1 + 1))
            case measure => omega
            case rel => exact ⟨k + 1 + 1, by omega, by omega, by first | rfl | simp, (show Aside _ from ⟨(A.out.1.alloc A.out.1.size _).trans (below_draws _ _ _), HT.out⟩)⟩
      · go_wp2
        go_ret
        have hr := A.out.2
        rw [List.take_of_length_le (by omega)] at hr
        rw [mapRight_true (by omega) (by omega) hr]
        exact ⟨rfl, A.out.1⟩
end Go.Proofs.YthnonmniponahaaGreatDoor
end
