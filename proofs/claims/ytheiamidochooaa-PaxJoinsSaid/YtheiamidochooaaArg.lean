/- Pairs and lists of pairs that come in as arguments. -/
import Derived.Test.YtheiamidochooaaPr
import Derived.SizedLaws
import Derived.Deep.SlicePairs
import Derived.Carry
import Derived.ChangeMaps5
namespace Go.Proofs.Ytheiamidochooaa
open Go.RowKit Go.Joins
set_option linter.unusedVariables false

/-- A list of pairs lies behind the address. -/
def PairsAt (W : World) (ad : Option Addr) (l : List (List UInt8 × List UInt8)) : Prop :=
  ∀ (i : Nat) (p : List UInt8 × List UInt8), l[i]? = some p → ∃ b off, ad = some ⟨b, off, none⟩ ∧ b < W.heap.size ∧ W.cell? ⟨b, off + i * 2, none⟩ = some (.string (mkS p.1)) ∧ W.cell? ⟨b, off + i * 2 + 1, none⟩ = some (.string (mkS p.2))
theorem PairsAt.below {W W' : World} {ad : Option Addr} {l : List (List UInt8 × List UInt8)} (h : PairsAt W ad l) (hb : Below W.heap.size W W') : PairsAt W' ad l := fun i p hi => by
  obtain ⟨b, off, h1, h2, h3, h4⟩ := h i p hi
  exact ⟨b, off, h1, Nat.lt_of_lt_of_le h2 hb.size, (hb.cell (p := ⟨b, off + i * 2, none⟩) h2).trans h3, (hb.cell (p := ⟨b, off + i * 2 + 1, none⟩) h2).trans h4⟩
/-- A pair, as a datum. -/
abbrev prD {H : Type} (p : List UInt8 × List UInt8) : DataW H := .agg [.lit (.string p.1), .lit (.string p.2)]

section
variable {H : Type} {P : Program} {ts : List TypeId} {ds : List (DataW H)}
theorem sized_pair (h : (DataW.weightsEach P ts ds).all (· ≤ reachBytes) = true) {j : Nat} {t : TypeId} {f0 f1 : Field} {x y : List UInt8} (ht : ts[j]? = some t) (hd : ds[j]? = some (.agg [.lit (.string x), .lit (.string y)])) (hu : P.underlying t = some (.struct #[f0, f1])) :
    x.length ≤ reachBytes ∧ y.length ≤ reachBytes := by
  have h1 := List.all_eq_true.1 h _ (DataW.weights_mem_each ht hd x.length (by simp [DataW.weights, DataW.weightsEach, hu]))
  have h2 := List.all_eq_true.1 h _ (DataW.weights_mem_each ht hd y.length (by simp [DataW.weights, DataW.weightsEach, hu]))
  exact ⟨by simpa using h1, by simpa using h2⟩
theorem weightsAll_pairs (e : TypeId) {f0 f1 : Field} (he : P.underlying e = some (.struct #[f0, f1])) : ∀ (l : List (List UInt8 × List UInt8)) p, p ∈ l → p.1.length ∈ DataW.weightsAll P e (l.map (prD (H := H))) ∧ p.2.length ∈ DataW.weightsAll P e (l.map (prD (H := H)))
  | q :: l, p, hp => by
    rw [List.map_cons, DataW.weightsAll]
    rcases List.mem_cons.1 hp with rfl | hp
    · simp [DataW.weights, DataW.weightsEach, he]
    · have ih := weightsAll_pairs e he l p hp
      exact ⟨List.mem_append_right _ ih.1, List.mem_append_right _ ih.2⟩
theorem sized_pairs (h : (DataW.weightsEach P ts ds).all (· ≤ reachBytes) = true) {j : Nat} {t e : TypeId} {f0 f1 : Field} {l : List (List UInt8 × List UInt8)} {sp : List (DataW H)} (ht : ts[j]? = some t) (hd : ds[j]? = some (.slice (l.map prD) sp)) (hu : P.underlying t = some (.slice e)) (he : P.underlying e = some (.struct #[f0, f1])) :
    ∀ p ∈ l, p.1.length ≤ reachBytes ∧ p.2.length ≤ reachBytes := fun p hp => by
  have hm := weightsAll_pairs (H := H) e he l p hp
  have h1 := List.all_eq_true.1 h _ (DataW.weights_mem_each ht hd p.1.length (by rw [DataW.weights, hu]; exact List.mem_cons_of_mem _ (List.mem_append_left _ hm.1)))
  have h2 := List.all_eq_true.1 h _ (DataW.weights_mem_each ht hd p.2.length (by rw [DataW.weights, hu]; exact List.mem_cons_of_mem _ (List.mem_append_left _ hm.2)))
  exact ⟨by simpa using h1, by simpa using h2⟩
end

theorem spot_of_cell {w : World} {a : Addr} {v : Value} (h : w.cell? a = some v) : a.spot = none := by
  unfold World.cell? at h
  split at h
  · cases hs : a.spot with
    | none => rfl
    | some x => rw [hs] at h; simp at h
  · cases h

theorem open_pairs {H : Type} {enc : TypeId × Value → H} {P : Program} {t e : TypeId} {f0 f1 : Field} {W : World} {r : Reach} {b0 : Nat} {v : Value} {d : DataW H} {ps : List MemPlace} (ht : P.underlying t = some (.slice e)) (he : P.underlying e = some (.struct #[f0, f1]))
    (ce : P.cellsOf e = 2) (o0 : f0.offset = 0) (o1 : f1.offset = 1) (c0 : P.cellsOf f0.type = 1) (c1 : P.cellsOf f1.type = 1) (u0 : P.underlying f0.type = some .string) (u1 : P.underlying f1.type = some .string)
    (hval : Value.okWide P W r b0 t v) (hd : DataW.Trod enc P W 0 (fun _ => true) true t v d ps) :
    ∃ ad cap l sp, v = .slice ad l.length cap ∧ l.length ≤ maxLen ∧ PairsAt W ad l ∧ (∀ p ∈ l, p.1.length ≤ maxLen ∧ p.2.length ≤ maxLen) ∧ (d = .slice (l.map prD) sp ∨ (d = .nil ∧ l = [])) := by
  obtain ⟨a, n, c, rfl⟩ := Go.WideShapes.okWide_slice ht hval
  obtain ⟨fuel, hf⟩ := hd
  have hcells : (Value.slice a n c).cells = #[.slice a n c] := by simp [Value.cells]
  rw [hcells] at hf
  rcases Go.Deep.open_slice_pairs ht he ce o0 o1 c0 c1 hf with ⟨h0, h00⟩ | ⟨a', len, cap, m, nn, V0, V1, D0, D1, P0, P1, h1, _, h3, h4, h5, h6, h7⟩
  · have : Value.slice a n c = .slice none 0 0 := by simpa using h0
    injection this with e1 e2 e3
    subst e1 e2 e3
    refine ⟨none, 0, [], [], rfl, by unfold maxLen; simp, fun i p hi => by simp at hi, fun p hp => by simp at hp, Or.inr ⟨?_, rfl⟩⟩
    exact (Prod.mk.inj h00).1
  · have : Value.slice a n c = .slice (some a') len cap := by simpa using h1
    injection this with e1 e2 e3
    subst e1 e2 e3
    have hm : n ≤ m := by rw [h5]; split <;> omega
    have each : ∀ i, i < n → ∃ q : ByteArray × ByteArray, V0 i = .string q.1 ∧ V1 i = .string q.2 ∧ D0 i = .lit (.string q.1.data.toList) ∧ D1 i = .lit (.string q.2.data.toList) ∧ q.1.size ≤ maxLen ∧ q.2.size ≤ maxLen := fun i hi => by
      obtain ⟨_, _, g0, g1⟩ := h7 i (by omega)
      obtain ⟨s0, x1, x2, x3⟩ := DataW.trod_string u0 g0
      obtain ⟨s1, y1, y2, y3⟩ := DataW.trod_string u1 g1
      exact ⟨(s0, s1), by simpa using x1, by simpa using y1, (Prod.mk.inj x2).1, (Prod.mk.inj y2).1, x3, y3⟩
    obtain ⟨q, hq⟩ := Go.Deep.choose_lt each
    have hl : ((List.range n).map fun i => ((q i).1.data.toList, (q i).2.data.toList)).length = n := by simp
    refine ⟨some a', c, (List.range n).map fun i => ((q i).1.data.toList, (q i).2.data.toList), (List.range (m - n)).map fun j => .agg [D0 (n + j), D1 (n + j)], by rw [hl], by rw [hl]; omega, fun i p hi => ?_, fun p hp => ?_, Or.inl ?_⟩
    · obtain ⟨hi1, hi2⟩ := List.getElem?_eq_some_iff.1 hi
      rw [hl] at hi1
      rw [List.getElem_map, List.getElem_range] at hi2
      subst hi2
      obtain ⟨g0, g1, _, _⟩ := h7 i (by omega)
      obtain ⟨q1, q2, _⟩ := hq i hi1
      have g00 := (h7 0 (by omega)).1
      rw [Nat.zero_mul, show a'.add 0 = a' from by unfold Addr.add; rw [if_pos rfl]] at g00
      have hsp := spot_of_cell g00
      rw [q1] at g0
      rw [q2] at g1
      obtain ⟨b, off, sp⟩ := a'
      subst hsp
      rw [Go.WideShapes.add_plain] at g0 g1
      refine ⟨b, off, rfl, World.block_lt_of_cell? _ _ g0, ?_, ?_⟩
      · rw [mkS_self]; exact g0
      · rw [mkS_self]; exact g1
    · obtain ⟨i, hi, rfl⟩ := List.mem_map.1 hp
      rw [List.mem_range] at hi
      have := (hq i hi).2.2.2.2
      exact this
    · rw [(Prod.mk.inj h6).1, List.map_map]
      congr 1
      apply List.map_congr_left
      intro i hi
      rw [List.mem_range] at hi
      obtain ⟨_, _, q3, q4, _⟩ := hq i hi
      simp only [Function.comp, q3, q4]
end Go.Proofs.Ytheiamidochooaa
