/- pax.Merge and what is asked of its answer, where the answer is whatever slice. -/
import Derived.Test.YtheiamidochooaaDoorMgw
import Derived.Test.YtheiamidochooaaDoorLst
import Derived.Test.YtheiamidochooaaDoorRcd
namespace Go.Proofs.YtheiamidochooaaDoor
open Go.RowKit Go.Shelf Go.Joins
set_option linter.unusedVariables false

theorem within_length : ∀ (M l : List Pr), Rising M → (∀ p ∈ M, p ∈ l) → M.length ≤ l.length
  | [], l, _, _ => Nat.zero_le _
  | p :: M, l, h, hs => by
    obtain ⟨h1, h2⟩ := List.pairwise_cons.1 h
    have hp := hs p (List.mem_cons_self ..)
    have hsub : ∀ q ∈ M, q ∈ l.erase p := fun q hq => by
      refine (List.mem_erase_of_ne fun e => ?_).2 (hs q (List.mem_cons_of_mem _ hq))
      have := h1 q hq
      rw [e] at this
      exact keyLt_irrefl _ this
    have h3 := within_length M (l.erase p) h2 hsub
    have h4 := List.length_erase_of_mem hp
    have h5 := List.length_pos_of_mem hp
    rw [List.length_cons]
    omega
theorem MergedOf.length_le {M l : List Pr} (h : MergedOf M l) : M.length ≤ l.length :=
  within_length M l h.1 fun p hp => (lastOf_mem ((h.2 p).1 hp).1).1

/-- A slice that holds the merge of AB. -/
def MOut (W : World) (v : Value) (AB : List Pr) : Prop := ∃ M, SliceIs W v M ∧ MergedOf M AB
theorem MOut.below {W W' : World} {v : Value} {AB : List Pr} (h : MOut W v AB) (hb : Below W.heap.size W W') : MOut W' v AB := by
  obtain ⟨M, h1, h2⟩ := h
  exact ⟨M, h1.below hb, h2⟩
theorem MOut.apart {W : World} {v : Value} {A B : List Pr} (h : MOut W v (B ++ A)) (hn : (A.any fun p => B.any fun q => p.1 == q.1) = false) : MOut W v (A ++ B) := by
  obtain ⟨M, h1, h2⟩ := h
  refine ⟨M, h1, h2.1, fun p => ?_⟩
  rw [h2.2, lastOf_apart A B fun p hp q hq e => ?_]
  rw [List.any_eq_false] at hn
  have h1 := hn p hp
  rw [Bool.not_eq_true, List.any_eq_false] at h1
  exact h1 q hq (by simp [e])

theorem merge_cells2 (A B AB : List Pr) (hAB : A ++ B = AB) (hA : A.length ≤ 1000) (hB : B.length ≤ 1000) (hz : ∀ p ∈ AB, p.1.length ≤ reachBytes ∧ p.2.length ≤ reachBytes) (ad bd : Option Addr) (ca cb : Nat) (ha : ad = none → ca = 0) (hb : bd = none → cb = 0) (g : Nat) (X : World) (hg : g < X.heap.size)
    (c0 : X.cell? ⟨g, 0, none⟩ = some (.slice ad A.length ca)) (c1 : X.cell? ⟨g, 1, none⟩ = some (.slice bd B.length cb)) (h1 : PairsAt X ad A) (h2 : PairsAt X bd B) :
    Calls Tryd.prog 28 #[.slice (some ⟨g, 0, none⟩) 2 2] X fun e w' => (∃ v, e = .returned v ∧ MOut w' v AB) ∧ Below X.heap.size X w' := by
  have hz' : ∀ x ∈ [(Value.slice ad A.length ca, A), (Value.slice bd B.length cb, B)], ∀ p ∈ x.2, p.1.length ≤ reachBytes ∧ p.2.length ≤ reachBytes := fun x hx p hp => by
    simp at hx
    rcases hx with rfl | rfl
    · exact hz p (by rw [← hAB]; exact List.mem_append_left _ hp)
    · exact hz p (by rw [← hAB]; exact List.mem_append_right _ hp)
  refine (merge_any g 2 [(.slice ad A.length ca, A), (.slice bd B.length cb, B)] (by simp) (fun x hx => ?_) hz' _ hg (fun i x hx => ?_)).mono fun e w' ⟨⟨v, M, he, hv, hm⟩, hw⟩ => ⟨⟨v, he, M, hv, ?_⟩, hw⟩
  · simp at hx
    rcases hx with rfl | rfl
    · exact hA
    · exact hB
  · match i, hx with
    | 0, hx => simp at hx; rw [← hx]; exact ⟨c0, ad, ca, rfl, ha, h1⟩
    | 1, hx => simp at hx; rw [← hx]; exact ⟨c1, bd, cb, rfl, hb, h2⟩
    | n + 2, hx => simp at hx
  · have e2 : ([(Value.slice ad A.length ca, A), (Value.slice bd B.length cb, B)].flatMap fun y => y.2) = AB := by rw [← hAB]; simp
    rwa [e2] at hm

theorem equal_out (AB : List Pr) (hl : AB.length ≤ 1000000) (v1 v2 : Value) (X : World) (h1 : MOut X v1 AB) (h2 : MOut X v2 AB) :
    Calls Tryd.prog 23 #[v1, v2] X fun e w' => e = .returned (.bool true) ∧ Below X.heap.size X w' := by
  obtain ⟨M1, ⟨a1, c1, rfl, _, p1⟩, m1⟩ := h1
  obtain ⟨M2, ⟨a2, c2, rfl, _, p2⟩, m2⟩ := h2
  obtain rfl : M2 = M1 := m2.unique m1 fun k v hv => Iff.rfl
  exact equal_same a1 a2 c1 c2 M2 (by have := m1.length_le; omega) X p1 p2

theorem get_pairs (ad : Option Addr) (cap : Nat) (zs : List Pr) (hl : zs.length ≤ 1000000000) (key : List UInt8) (w : World) (hM : PairsAt w ad zs) :
    Calls Tryd.prog 32 #[.slice ad zs.length cap, .string (mkS key)] w fun e W' => e = .returned (.tuple #[.string (mkS (getL zs key)), .bool (!(getL zs key).isEmpty)]) ∧ Below w.heap.size w W' :=
  (callsIn_wide (n := 6)).1 (get_in Fence.wide 6 trivial trivial trivial rfl (by omega) ad cap zs hl key w (hM.cases.imp id fun ⟨b, off, h1, h2, h3⟩ => ⟨b, off, h1, h2, h3⟩))
theorem get_out (AB : List Pr) (hl : AB.length ≤ 1000000) (v : Value) (key V : List UInt8) (hV : getL AB key = V) (X : World) (h : MOut X v AB) :
    Calls Tryd.prog 32 #[v, .string (mkS key)] X fun e w' => e = .returned (.tuple #[.string (mkS V), .bool (!V.isEmpty)]) ∧ Below X.heap.size X w' := by
  obtain ⟨M, ⟨a, c, rfl, _, p⟩, m⟩ := h
  have := get_pairs a c M (by have := m.length_le; omega) key X p
  rw [getL_merged m, hV] at this
  exact this
end Go.Proofs.YtheiamidochooaaDoor
