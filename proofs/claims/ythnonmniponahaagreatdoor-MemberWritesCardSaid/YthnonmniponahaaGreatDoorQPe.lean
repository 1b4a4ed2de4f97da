/- Pe: what the texts of the name hold, joined. -/
import Derived.Test.YthnonmniponahaaGreatDoorQPc
import Derived.Test.YthnonmniponahaaGreatDoorQIter
import Derived.Laws.AppendOwnNone
import Derived.Lib.AppendZeros
import Derived.OwnWalk
import Derived.Deep.LoopGhost
import Derived.Maps.OwnSet
import Derived.Maps.Views
import Derived.Shelf.SortM.Plain
import Derived.Shelf.SortM.SortNone
import Derived.RangeFuncNested
import Derived.RangeFuncBound
import Derived.RangeFuncCalls
import Derived.RangeFuncLeaves
import Derived.Shelf.Abstract
import Derived.OwnWalkIn
import Derived.TacticsInMore
import Derived.LoopNIn
import Derived.LoopIn
set_option linter.unusedSimpArgs false
set_option linter.unusedVariables false
section
/- Lists of pairs as cells; slices that hold them (the plain seat's own: no Read, no Concat). -/
namespace Go.Proofs.YthnonmniponahaaGreatDoor.Px
open Go.RowKit Go.Joins
set_option linter.unusedVariables false

/-- A slice value that holds these pairs. -/
def SliceIs (W : World) (x : Value) (l : List Pr) : Prop := ∃ ad cap, x = .slice ad l.length cap ∧ (ad = none → cap = 0) ∧ PairsAt W ad l
theorem SliceIs.below {W W' : World} {x : Value} {l : List Pr} (h : SliceIs W x l) (hb : Below W.heap.size W W') : SliceIs W' x l := by
  obtain ⟨ad, cap, h1, h2, h3⟩ := h
  exact ⟨ad, cap, h1, h2, h3.below hb⟩
theorem sliceIs_of_row {W : World} {base : Nat} {e : TypeId} {v : Value} {M : List Pr} (h : W.ownsRow base e 2 v M.length (pairCells M)) : SliceIs W v M := by
  rcases h.2 with ⟨rfl, h0⟩ | ⟨g, cap, cur, rfl, _⟩
  · obtain rfl := List.length_eq_zero_iff.1 h0
    exact ⟨none, 0, rfl, fun _ => rfl, fun i p hi => by simp at hi⟩
  · exact ⟨_, cap, rfl, fun h => by (cases h), pairsAt_of_row h⟩
theorem pairCells_append (a b : List Pr) : pairCells (a ++ b) = pairCells a ++ pairCells b := by unfold pairCells; rw [List.flatMap_append]
end Go.Proofs.YthnonmniponahaaGreatDoor.Px
end
section
/- A map of pairs: how an element reads, what the map tells. -/
namespace Go.Proofs.YthnonmniponahaaGreatDoor.Px
open Go.RowKit Go.Joins Go.Maps
set_option linter.unusedVariables false

/-- A pair in a map, as a datum. -/
def prU (p : List UInt8 × List UInt8) : DataW Unit := .agg [.lit (.string p.1), .lit (.string p.2)]
/-- How an element that is a pair reads: through no place. -/
def twoStr : List Value → Option (DataW Unit × List MemPlace)
  | [.string a, .string b] => some (prU (a.data.toList, b.data.toList), [])
  | _ => none
def pairElem : Value → Option (DataW Unit × List MemPlace)
  | .agg cs => twoStr cs.toList
  | _ => none
/-- The last pair of a key. -/
def lastOf (l : List (List UInt8 × List UInt8)) (k : List UInt8) : Option (List UInt8 × List UInt8) := l.reverse.find? fun p => p.1 == k
theorem lastOf_snoc (l : List (List UInt8 × List UInt8)) (p : List UInt8 × List UInt8) (k : List UInt8) : lastOf (l ++ [p]) k = if p.1 = k then some p else lastOf l k := by
  unfold lastOf
  rw [List.reverse_append]
  by_cases h : p.1 = k <;> simp [h]
/-- The map tells of each key the last pair. -/
def Tells (D : DataW Unit) (l : List (List UInt8 × List UInt8)) : Prop := ∀ k, (lastOf l k = none → has D (.string k) = false) ∧ ∀ p, lastOf l k = some p → has D (.string k) = true ∧ ∀ z, D.atKey (.string k) z = prU p
end Go.Proofs.YthnonmniponahaaGreatDoor.Px
end
section
/- What Merge makes of pairs, as lists. -/
namespace Go.Proofs.YthnonmniponahaaGreatDoor.Px
open Go.RowKit Go.Joins Go.Maps
set_option linter.unusedVariables false

theorem keyLt_irrefl (a : List UInt8) : ¬ a < a := List.lt_irrefl a
theorem keyLt_asymm {a b : List UInt8} (h : a < b) : ¬ b < a := List.lt_asymm h
/-- A list whose keys ascend. -/
def Rising (M : List (List UInt8 × List UInt8)) : Prop := M.Pairwise fun p q => p.1 < q.1
theorem rising_ext : ∀ (A B : List (List UInt8 × List UInt8)), Rising A → Rising B → (∀ p, p ∈ A ↔ p ∈ B) → A = B
  | [], [], _, _, _ => rfl
  | [], b :: B, _, _, h => by have := (h b).2 (List.mem_cons_self ..); cases this
  | a :: A, [], _, _, h => by have := (h a).1 (List.mem_cons_self ..); cases this
  | a :: A, b :: B, hA, hB, h => by
    obtain ⟨a1, a2⟩ := List.pairwise_cons.1 hA
    obtain ⟨b1, b2⟩ := List.pairwise_cons.1 hB
    have e : a = b := by
      rcases List.mem_cons.1 ((h a).1 (List.mem_cons_self ..)) with e | hab
      · exact e
      · rcases List.mem_cons.1 ((h b).2 (List.mem_cons_self ..)) with e | hba
        · exact e.symm
        · exact absurd (a1 b hba) (keyLt_asymm (b1 a hab))
    subst e
    rw [rising_ext A B a2 b2 fun p => ⟨fun hp => ?_, fun hp => ?_⟩]
    · rcases List.mem_cons.1 ((h p).1 (List.mem_cons_of_mem _ hp)) with e | h'
      · subst e; exact absurd (a1 _ hp) (keyLt_irrefl _)
      · exact h'
    · rcases List.mem_cons.1 ((h p).2 (List.mem_cons_of_mem _ hp)) with e | h'
      · subst e; exact absurd (b1 _ hp) (keyLt_irrefl _)
      · exact h'

/-- Merge of l: of each key the last pair, if it has a value; the keys ascend. -/
def MergedOf (M l : List (List UInt8 × List UInt8)) : Prop := Rising M ∧ ∀ p, p ∈ M ↔ lastOf l p.1 = some p ∧ p.2 ≠ []
theorem MergedOf.unique {M M' l l' : List (List UInt8 × List UInt8)} (h : MergedOf M l) (h' : MergedOf M' l') (he : ∀ k v, v ≠ [] → (lastOf l k = some (k, v) ↔ lastOf l' k = some (k, v))) : M = M' :=
  rising_ext M M' h.1 h'.1 fun p => by
    rw [h.2, h'.2]
    constructor
    · rintro ⟨h1, h2⟩; exact ⟨(he p.1 p.2 h2).1 h1, h2⟩
    · rintro ⟨h1, h2⟩; exact ⟨(he p.1 p.2 h2).2 h1, h2⟩
theorem lastOf_mem {l : List (List UInt8 × List UInt8)} {k : List UInt8} {p : List UInt8 × List UInt8} (h : lastOf l k = some p) : p ∈ l ∧ p.1 = k := by
  unfold lastOf at h
  exact ⟨List.mem_reverse.1 (List.mem_of_find?_eq_some h), by simpa using List.find?_some h⟩
theorem tells_nil : Tells (.map []) [] := fun k => ⟨fun _ => rfl, fun p h => by cases h⟩
theorem tells_put {D : DataW Unit} {l : List (List UInt8 × List UInt8)} (hD : IsMap D) (h : Tells D l) (p : List UInt8 × List UInt8) : Tells (D.put (.string p.1) (prU p)) (l ++ [p]) := fun k => by
  have hk : WideAt.IsKeyLit (.string p.1) := by simp [WideAt.IsKeyLit]
  rw [lastOf_snoc]
  by_cases e : p.1 = k
  · subst e
    rw [if_pos rfl]
    refine ⟨fun h => (by cases h), fun q hq => ?_⟩
    cases hq
    exact ⟨has_put_same hD hk _, fun z => atKey_put_same hD hk _ z⟩
  · rw [if_neg e]
    have hne : (Lit.string k) ≠ .string p.1 := fun h => by injection h with h; exact e h.symm
    obtain ⟨h1, h2⟩ := h k
    refine ⟨fun hn => by rw [has_put_other hne]; exact h1 hn, fun q hq => ?_⟩
    obtain ⟨h3, h4⟩ := h2 q hq
    exact ⟨by rw [has_put_other hne]; exact h3, fun z => by rw [atKey_put_other hne]; exact h4 z⟩

end Go.Proofs.YthnonmniponahaaGreatDoor.Px
end
section
/- slices.Sorted(maps.Keys(m)) at a map of pairs. -/
namespace Go.Proofs.YthnonmniponahaaGreatDoor.Px
open Go.RowKit Go.Maps Go.Sort Go.Shelf
set_option linter.unusedVariables false

end Go.Proofs.YthnonmniponahaaGreatDoor.Px
end
section
/- pax.Merge, walked: the map is made. -/
namespace Go.Proofs.YthnonmniponahaaGreatDoor.Px
open Go.RowKit Go.Joins Go.Maps Go.Sort
set_option linter.unusedVariables false

/-- While the map is being made. -/
def MapIs (w W : World) (l : List Pr) : Prop :=
  Below w.heap.size w W ∧ ∃ D n, W.ownsMap Tryz.prog 9 pairElem w.heap.size n D ∧ n ≤ l.length ∧ Tells D l
theorem MapIs.made (w : World) : MapIs w (w.alloc (.map #[] 0)) [] :=
  ⟨below_alloc1 w _, .map [], 0, World.ownsMap_made _ _ _ _, Nat.le_refl _, tells_nil⟩
theorem MapIs.put {w W W1 : World} {l : List Pr} {D : DataW Unit} {n : Nat} {p : Pr} (hB : Below w.heap.size w W) (hown : W1.ownsMap Tryz.prog 9 pairElem w.heap.size (n + 1) (D.put (.string p.1) (prU p))) (hn : n ≤ l.length) (hD : IsMap D) (ht : Tells D l) (hg : W.grownBy W1 (some w.heap.size)) : MapIs w W1 (l ++ [p]) :=
  ⟨hB.grown hg hB.size fun j ej => by (injection ej with ej; omega), _, _, hown, by rw [List.length_append]; simp; omega, tells_put hD ht p⟩

/-- A row of texts. -/
def StrsAt (W : World) (va : Option Addr) (K : List (List UInt8)) : Prop := ∀ (i : Nat) k, K[i]? = some k → ∃ g, va = some ⟨g, 0, none⟩ ∧ g < W.heap.size ∧ W.cell? ⟨g, i, none⟩ = some (.string (mkS k))
theorem StrsAt.below {W W' : World} {va : Option Addr} {K : List (List UInt8)} (h : StrsAt W va K) (hb : Below W.heap.size W W') : StrsAt W' va K := fun i k hi => by
  obtain ⟨g, h1, h2, h3⟩ := h i k hi
  exact ⟨g, h1, Nat.lt_of_lt_of_le h2 hb.size, (hb.cell (p := ⟨g, i, none⟩) h2).trans h3⟩
/-- What has been merged of the first i keys. -/
def mergedTo (K : List (List UInt8)) (L : List Pr) (i : Nat) : List Pr := ((K.take i).filterMap (lastOf L)).filter fun p => !p.2.isEmpty
/-- The keys, sorted: they ascend. -/
theorem sorted_rising (ss : List (List UInt8)) (hn : ss.Nodup) : (ss.mergeSort (fun x y => decide (x ≤ y))).Pairwise (fun a b => a < b) := by
  have tr : ∀ a b c : List UInt8, decide (a ≤ b) = true → decide (b ≤ c) = true → decide (a ≤ c) = true := fun a b c h1 h2 => by simp only [decide_eq_true_eq] at *; exact List.le_trans h1 h2
  have tot : ∀ a b : List UInt8, (decide (a ≤ b) || decide (b ≤ a)) = true := fun a b => by simp only [Bool.or_eq_true, decide_eq_true_eq]; exact List.le_total a b
  have h1 := List.pairwise_mergeSort tr tot ss
  have h2 : (ss.mergeSort (fun x y => decide (x ≤ y))).Nodup := (List.mergeSort_perm ss _).nodup_iff.2 hn
  refine (h1.and h2).imp fun {a b} h => ?_
  simp only [decide_eq_true_eq] at h
  rcases Classical.em (a < b) with hlt | hlt
  · exact hlt
  · exact absurd (List.le_antisymm h.1 (List.not_lt.1 hlt)) h.2
theorem merged_all (K : List (List UInt8)) (L : List Pr) (hs : K.Pairwise (fun a b => a < b)) (hm : ∀ k, k ∈ K ↔ ∃ p, lastOf L k = some p) : MergedOf (mergedTo K L K.length) L := by
  unfold mergedTo
  rw [List.take_length]
  constructor
  · refine List.Pairwise.filter _ (List.pairwise_filterMap.2 (hs.imp fun {a b} hab p hp q hq => ?_))
    rw [(lastOf_mem hp).2, (lastOf_mem hq).2]
    exact hab
  · intro p
    rw [List.mem_filter, List.mem_filterMap]
    constructor
    · rintro ⟨⟨k, _, hp⟩, h2⟩
      exact ⟨by rw [(lastOf_mem hp).2]; exact hp, by simpa using h2⟩
    · rintro ⟨h1, h2⟩
      exact ⟨⟨p.1, (hm _).2 ⟨p, h1⟩, h1⟩, by simpa using h2⟩

end Go.Proofs.YthnonmniponahaaGreatDoor.Px
end
section
/- slices.Backward over a list of pairs: what its iterator hands on. -/
namespace Go.Proofs.YthnonmniponahaaGreatDoor.Px
open Go.RowKit Go.Shelf Go.Joins
attribute [local go_sem] Oper.semAt_some

/-- What has come when k rounds are over: f 0, .., f (k - 1). -/
def uptoW {α : Type} (f : Nat → α) (k : Nat) : List α := (List.range k).map f
end Go.Proofs.YthnonmniponahaaGreatDoor.Px
end
section
/- pax.Get: the last value of a key. -/
namespace Go.Proofs.YthnonmniponahaaGreatDoor.Px
open Go.RowKit Go.Shelf Go.Joins
attribute [local go_sem] Oper.semAt_some

/-- The last value of a key, empty if there is none. -/
def getL (l : List Pr) (key : List UInt8) : List UInt8 := l.foldl (fun v p => if p.1 = key then p.2 else v) []
def PairBox (W : World) (B : Nat) (p : Pr) : Prop := W.heap[B]? = some (.cells #[.string (mkS p.1), .string (mkS p.2)] 53 (0, 0))
theorem PairBox.own {β : Type} (B : Nat) (f : β → Pr) : Own (fun s W => PairBox W B (f s)) := fun s X Y row hs hg hrow => by
  have hlt : B < X.heap.size := (Array.getElem?_eq_some_iff.1 hs).1
  refine (hg.block B hlt fun e => ?_).trans hs
  obtain ⟨o, ho, hc⟩ := hrow B e.symm
  rw [show X.heap[B]? = _ from hs] at ho
  cases ho
  simp [Obj.isCells] at hc
theorem PairBox.new (W : World) (p : Pr) : PairBox (W.alloc (.cells #[.string (mkS p.1), .string (mkS p.2)] 53)) W.heap.size p := World.alloc_heap_new W _
theorem PairBox.cells {W : World} {B : Nat} {p : Pr} (h : PairBox W B p) : W.cell? ⟨B, 0, none⟩ = some (.string (mkS p.1)) ∧ W.cell? ⟨B, 1, none⟩ = some (.string (mkS p.2)) := by
  unfold PairBox at h
  simp [World.cell?, h]

end Go.Proofs.YthnonmniponahaaGreatDoor.Px
end
