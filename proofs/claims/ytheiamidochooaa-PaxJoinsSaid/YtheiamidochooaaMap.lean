/- A map of pairs: how an element reads, what the map tells. -/
import Derived.Test.YtheiamidochooaaPr
import Derived.Maps.OwnSet
import Derived.Maps.Views
namespace Go.Proofs.Ytheiamidochooaa
open Go.RowKit Go.Joins Go.Maps
set_option linter.unusedVariables false

/-- A pair in a map, as a datum. -/
def prU (p : List UInt8 × List UInt8) : DataW Unit := .agg [.lit (.string p.1), .lit (.string p.2)]
/-- How an element that is a pair reads: through no place. -/
def twoStr : List Value → Option (DataW Unit × List MemPlace)
  | [.string a, .string b] => some (prU (a.data.toList, b.data.toList), [])
  | _ => none
def pairElem : Value → Option (DataW Unit × List MemPlace)
  | .agg cs => twoStr cs.toList
  | _ => none
theorem pairElem_pr (k v : List UInt8) : pairElem (prV k v) = some (prU (k, v), []) := by
  show twoStr [.string (mkS k), .string (mkS v)] = _
  simp [twoStr, mkS_list]
theorem pairElem_inv {v : Value} {d : DataW Unit} {ps : List MemPlace} (h : pairElem v = some (d, ps)) : ∃ p : List UInt8 × List UInt8, v = prV p.1 p.2 ∧ d = prU p := by
  cases v <;> try (cases h; done)
  rename_i cs
  have h' : twoStr cs.toList = some (d, ps) := h
  unfold twoStr at h'
  split at h'
  · rename_i a b e
    refine ⟨(a.data.toList, b.data.toList), ?_, ?_⟩
    · unfold prV
      rw [mkS_self, mkS_self, ← Array.toArray_toList (xs := cs), e]
    · cases h'; rfl
  · cases h'
theorem prU_inj (p q : List UInt8 × List UInt8) (h : prU p = prU q) : p = q := by
  unfold prU at h
  injection h with h
  injection h with h1 h2
  injection h2 with h2 _
  injection h1 with h1
  injection h2 with h2
  injection h1 with h1
  injection h2 with h2
  exact Prod.ext h1 h2

/-- The last pair of a key. -/
def lastOf (l : List (List UInt8 × List UInt8)) (k : List UInt8) : Option (List UInt8 × List UInt8) := l.reverse.find? fun p => p.1 == k
theorem lastOf_snoc (l : List (List UInt8 × List UInt8)) (p : List UInt8 × List UInt8) (k : List UInt8) : lastOf (l ++ [p]) k = if p.1 = k then some p else lastOf l k := by
  unfold lastOf
  rw [List.reverse_append]
  by_cases h : p.1 = k <;> simp [h]
/-- The map tells of each key the last pair. -/
def Tells (D : DataW Unit) (l : List (List UInt8 × List UInt8)) : Prop := ∀ k, (lastOf l k = none → has D (.string k) = false) ∧ ∀ p, lastOf l k = some p → has D (.string k) = true ∧ ∀ z, D.atKey (.string k) z = prU p
end Go.Proofs.Ytheiamidochooaa
