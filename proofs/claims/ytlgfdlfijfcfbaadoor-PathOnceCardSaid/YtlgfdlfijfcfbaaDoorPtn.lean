/- path.Parts, its length named; what lies in a slice of texts. -/
import Derived.Test.YtlgfdlfijfcfbaaDoorPts
namespace Go.Proofs.YtlgfdlfijfcfbaaDoor
open Go.RowKit Go.Joins
set_option linter.unusedVariables false

/-- What lies at a place of a slice of texts. -/
theorem SlIs.at {w : World} {ad : Option Addr} {n cap : Nat} {L : List (List UInt8)} (h : SlIs w (.slice ad n cap) L) (i : Nat) (x : List UInt8) (hi : L[i]? = some x) : ∃ b off, ad = some ⟨b, off, none⟩ ∧ w.cell? ⟨b, off + i, none⟩ = some (encS x) ∧ b < w.heap.size := by
  obtain ⟨ad', cap', e, _, ⟨b, off, e2, hb, ht⟩ | ⟨_, _, rfl⟩⟩ := h
  · injection e with e1 _ _
    subst e1
    exact ⟨b, off, e2, ht i x hi, hb⟩
  · simp at hi

theorem parts_n (l : List UInt8) (hl : l.length ≤ 1000000) (X : List (List UInt8)) (hX : partsL l = X) (n : Nat) (hn : X.length = n) (w : World) :
    Calls Tryd.prog 13 #[.string (mkS l)] w fun e w' => (∃ d c, e = .returned (.slice d n c) ∧ n ≤ c ∧ SlIs w' (.slice d n c) X) ∧ Below w.heap.size w w' := by
  refine (parts_any l hl w).mono fun e w' ⟨⟨v, he, hs⟩, hb⟩ => ⟨?_, hb⟩
  rw [hX] at hs
  obtain ⟨d, c, hv, hc⟩ := hs.len
  rw [hn] at hv hc
  subst hv
  exact ⟨d, c, he, hc, hs⟩

end Go.Proofs.YtlgfdlfijfcfbaaDoor
