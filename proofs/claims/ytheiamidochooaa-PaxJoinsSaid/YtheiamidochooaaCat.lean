/- Lists of pairs as cells; slices that hold them (the plain seat's own: no Read, no Concat). -/
import Derived.Test.YtheiamidochooaaHvy
import Derived.Test.YtheiamidochooaaPrt
import Derived.Laws.AppendOwnNone
import Derived.Lib.AppendZeros
import Derived.OwnWalk
import Derived.Deep.LoopGhost
namespace Go.Proofs.Ytheiamidochooaa
open Go.RowKit Go.Joins
set_option linter.unusedVariables false

/-- The cells of a list of pairs. -/
def pairCells (l : List Pr) : List Value := l.flatMap fun p => [.string (mkS p.1), .string (mkS p.2)]
theorem pairCells_length (l : List Pr) : (pairCells l).length = l.length * 2 := by
  induction l with
  | nil => rfl
  | cons p l ih => unfold pairCells at ih ⊢; rw [List.flatMap_cons, List.length_append, ih]; simp; omega
theorem pairCells_snoc (l : List Pr) (p : Pr) : pairCells (l ++ [p]) = pairCells l ++ [.string (mkS p.1), .string (mkS p.2)] := by
  unfold pairCells; rw [List.flatMap_append]; simp
theorem pairCells_at : ∀ (l : List Pr) (i : Nat) (p : Pr), l[i]? = some p → (pairCells l)[i * 2]? = some (.string (mkS p.1)) ∧ (pairCells l)[i * 2 + 1]? = some (.string (mkS p.2))
  | q :: l, 0, p, h => by
    simp at h; subst h
    exact ⟨rfl, rfl⟩
  | q :: l, i + 1, p, h => by
    have := pairCells_at l i p (by simpa using h)
    unfold pairCells at this ⊢
    rw [List.flatMap_cons, show (i + 1) * 2 = (i * 2) + 1 + 1 by omega]
    exact this
theorem Try.infoPair : (Try.prog.info? 23).map (fun i => (i.zero, i.size, i.bytes)) = some (some (.agg #[.string { data := #[] }, .string { data := #[] }]), 2, 32) := by kernel_rfl

theorem pairsAt_of_row {W : World} {base : Nat} {e : TypeId} {ad : Option Addr} {cap : Nat} {M : List Pr} (h : W.ownsRow base e 2 (.slice ad M.length cap) M.length (pairCells M)) : PairsAt W ad M := fun i p hi => by
  have hil := (List.getElem?_eq_some_iff.1 hi).1
  rcases h.2 with ⟨_, h0⟩ | ⟨g, cap', cur, hv, _, hg, _, _, _, htk⟩
  · omega
  · injection hv with e1 e2 e3
    obtain ⟨c1, c2⟩ := pairCells_at M i p hi
    rw [← htk, List.getElem?_take, if_pos (by omega)] at c1
    rw [← htk, List.getElem?_take, if_pos (by omega)] at c2
    refine ⟨g, 0, e1, (Array.getElem?_eq_some_iff.1 hg).1, ?_, ?_⟩
    · rw [Nat.zero_add]; simp only [World.cell?, hg]; simpa using c1
    · rw [Nat.zero_add]; simp only [World.cell?, hg]; simpa using c2

theorem cell_two_new (W : World) (t : TypeId) (a b : Value) : ∀ (j : Nat) (u : Value), [a, b][j]? = some u → (W.alloc (.cells #[a, b] t)).cell? ((⟨W.heap.size, 0, none⟩ : Addr).add j) = some u
  | 0, u, h => by simp at h; subst h; simp [Addr.add]
  | 1, u, h => by simp at h; subst h; simp [Addr.add]
  | j + 2, u, h => by simp at h
/-- A slice value that holds these pairs. -/
def SliceIs (W : World) (x : Value) (l : List Pr) : Prop := ∃ ad cap, x = .slice ad l.length cap ∧ (ad = none → cap = 0) ∧ PairsAt W ad l
theorem SliceIs.below {W W' : World} {x : Value} {l : List Pr} (h : SliceIs W x l) (hb : Below W.heap.size W W') : SliceIs W' x l := by
  obtain ⟨ad, cap, h1, h2, h3⟩ := h
  exact ⟨ad, cap, h1, h2, h3.below hb⟩
theorem sliceIs_of_row {W : World} {base : Nat} {e : TypeId} {v : Value} {M : List Pr} (h : W.ownsRow base e 2 v M.length (pairCells M)) : SliceIs W v M := by
  rcases h.2 with ⟨rfl, h0⟩ | ⟨g, cap, cur, rfl, _⟩
  · obtain rfl := List.length_eq_zero_iff.1 h0
    exact ⟨none, 0, rfl, fun _ => rfl, fun i p hi => by simp at hi⟩
  · exact ⟨_, cap, rfl, fun h => by (cases h), pairsAt_of_row h⟩
theorem pairCells_append (a b : List Pr) : pairCells (a ++ b) = pairCells a ++ pairCells b := by unfold pairCells; rw [List.flatMap_append]
theorem pairsAt_cells {W : World} {a : Addr} {l : List Pr} (h : PairsAt W (some a) l) : ∀ (j : Nat) (u : Value), (pairCells l)[j]? = some u → W.cell? (a.add j) = some u := fun j u hj => by
  have hjl := (List.getElem?_eq_some_iff.1 hj).1
  rw [pairCells_length] at hjl
  obtain ⟨p, hp⟩ : ∃ p, l[j / 2]? = some p := ⟨_, List.getElem?_eq_getElem (by omega)⟩
  obtain ⟨b, off, e1, _, e3, e4⟩ := h _ p hp
  cases e1
  obtain ⟨c1, c2⟩ := pairCells_at l (j / 2) p hp
  rw [Go.WideShapes.add_plain]
  rcases Nat.mod_two_eq_zero_or_one j with hm | hm
  · rw [show j / 2 * 2 = j by omega] at c1 e3
    rw [hj] at c1; cases c1; exact e3
  · rw [show j / 2 * 2 + 1 = j by omega] at c2
    rw [show off + j / 2 * 2 + 1 = off + j by omega] at e4
    rw [hj] at c2; cases c2; exact e4
theorem pairCells_one (l : List Pr) : ∀ u ∈ pairCells l, u.oneCell' = true := fun u hu => by
  unfold pairCells at hu
  obtain ⟨p, _, hp⟩ := List.mem_flatMap.1 hu
  rcases List.mem_cons.1 hp with rfl | hp
  · rfl
  · rw [List.mem_singleton.1 hp]; rfl
theorem pairsAt_none {W : World} {l : List Pr} (h : PairsAt W none l) : l = [] := by
  cases l with
  | nil => rfl
  | cons q l => obtain ⟨b, off, h1, _⟩ := h 0 q rfl; cases h1
theorem below_grown {w W w1 : World} {v : Value} {base : Nat} {e : TypeId} {size n : Nat} {xs : List Value} (hB : Below w.heap.size w W) (hrow : W.ownsRow base e size v n xs) (hb : w.heap.size ≤ base) (hg : W.grownBy w1 v.ownBlock) : Below w.heap.size w w1 :=
  hB.grown hg hB.size fun j ej => by
    rcases hrow.2 with ⟨rfl, _⟩ | ⟨g, cap, cur, rfl, hbg, _, _⟩
    · simp [Value.ownBlock] at ej
    · obtain rfl : g = j := by simpa [Value.ownBlock] using ej
      omega

/-- The first i lists, one behind the other. -/
def catTo (Ls : List (Value × List Pr)) (i : Nat) : List Pr := (Ls.take i).flatMap fun y => y.2
theorem catTo_succ (Ls : List (Value × List Pr)) (i : Nat) (x : Value × List Pr) (h : Ls[i]? = some x) : catTo Ls (i + 1) = catTo Ls i ++ x.2 := by
  unfold catTo; rw [List.take_add_one, h, List.flatMap_append]; simp
theorem flat_bound : ∀ (Ls : List (Value × List Pr)), (∀ x ∈ Ls, x.2.length ≤ 1000) → (Ls.flatMap fun y => y.2).length ≤ 1000 * Ls.length
  | [], _ => by simp
  | x :: Ls, h => by
    have := flat_bound Ls fun y hy => h y (List.mem_cons_of_mem _ hy)
    have h1 := h x (List.mem_cons_self ..)
    rw [List.flatMap_cons, List.length_append, List.length_cons]; omega
end Go.Proofs.Ytheiamidochooaa
