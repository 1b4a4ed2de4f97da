/- PaxJoins: true, at every argument. -/
import Derived.Test.YtheiamidochooaaRmg
import Derived.Test.YtheiamidochooaaMgw
import Derived.Test.YtheiamidochooaaEqp
namespace Go.Proofs.Ytheiamidochooaa
open Go.RowKit Go.Joins
set_option linter.unusedVariables false

theorem caps_pairs {H : Type} {enc : TypeId × Value → H} {P : Program} {t e : TypeId} {f0 f1 : Field} {W : World} {ad : Option Addr} {n c : Nat} {d : DataW H} {ps : List MemPlace} (ht : P.underlying t = some (.slice e)) (he : P.underlying e = some (.struct #[f0, f1]))
    (ce : P.cellsOf e = 2) (o0 : f0.offset = 0) (o1 : f1.offset = 1) (c0 : P.cellsOf f0.type = 1) (c1 : P.cellsOf f1.type = 1) (hd : DataW.Trod enc P W 0 (fun _ => true) true t (.slice ad n c) d ps) :
    n ≤ c ∧ c ≤ maxLen ∧ (ad = none → c = 0) := by
  obtain ⟨fuel, hf⟩ := hd
  have hcells : (Value.slice ad n c).cells = #[.slice ad n c] := by simp [Value.cells]
  rw [hcells] at hf
  rcases Go.Deep.open_slice_pairs ht he ce o0 o1 c0 c1 hf with ⟨h0, _⟩ | ⟨a', len, cap, m, nn, V0, V1, D0, D1, P0, P1, h1, _, h3, h4, _⟩
  · have : Value.slice ad n c = .slice none 0 0 := by simpa using h0
    injection this with e1 e2 e3
    subst e1 e2 e3
    exact ⟨Nat.le_refl _, Nat.zero_le _, fun _ => rfl⟩
  · have : Value.slice ad n c = .slice (some a') len cap := by simpa using h1
    injection this with e1 e2 e3
    subst e1 e2 e3
    exact ⟨h3, h4, fun h => by cases h⟩

theorem within_length : ∀ (M l : List Pr), Rising M → (∀ p ∈ M, p ∈ l) → M.length ≤ l.length
  | [], l, _, _ => Nat.zero_le _
  | p :: M, l, h, hs => by
    obtain ⟨h1, h2⟩ := List.pairwise_cons.1 h
    have hp := hs p (List.mem_cons_self ..)
    have hsub : ∀ q ∈ M, q ∈ l.erase p := fun q hq => by
      refine (List.mem_erase_of_ne fun e => ?_).2 (hs q (List.mem_cons_of_mem _ hq))
      have := h1 q hq
      rw [e] at this
      exact keyLt_irrefl _ this
    have h3 := within_length M (l.erase p) h2 hsub
    have h4 := List.length_erase_of_mem hp
    have h5 := List.length_pos_of_mem hp
    rw [List.length_cons]
    omega
theorem MergedOf.length_le {M l : List Pr} (h : MergedOf M l) : M.length ≤ l.length :=
  within_length M l h.1 fun p hp => (lastOf_mem ((h.2 p).1 hp).1).1


/-- Three lists, in a slice made of them at this moment. -/
theorem three_lists (F : Nat) (A B C ABC : List Pr) (hABC : A ++ B ++ C = ABC) (hA : A.length ≤ 1000) (hB : B.length ≤ 1000) (hC : C.length ≤ 1000) (hz : ∀ p ∈ ABC, p.1.length ≤ reachBytes ∧ p.2.length ≤ reachBytes) (ad bd cd : Option Addr) (ca cb cc : Nat) (ha : ad = none → ca = 0) (hb : bd = none → cb = 0) (hc : cd = none → cc = 0)
    (hF : ∀ (gb : Nat) (Ls : List (Value × List Pr)), Ls.length = 3 → (∀ x ∈ Ls, x.2.length ≤ 1000) → (∀ x ∈ Ls, ∀ p ∈ x.2, p.1.length ≤ reachBytes ∧ p.2.length ≤ reachBytes) → ∀ (w : World), gb < w.heap.size → (∀ (i : Nat) x, Ls[i]? = some x → w.cell? ⟨gb, i, none⟩ = some x.1 ∧ SliceIs w x.1 x.2) →
      Calls Try.prog F #[.slice (some ⟨gb, 0, none⟩) Ls.length 3] w fun e w' => (∃ v M, e = .returned v ∧ SliceIs w' v M ∧ MergedOf M (Ls.flatMap fun y => y.2)) ∧ Below w.heap.size w w')
    (W : World) (h1 : PairsAt W ad A) (h2 : PairsAt W bd B) (h3 : PairsAt W cd C) :
    Calls Try.prog F #[.slice (some ⟨W.heap.size, 0, none⟩) 3 3] (W.alloc (.cells #[.slice ad A.length ca, .slice bd B.length cb, .slice cd C.length cc] 25)) fun e w' => (∃ v M, e = .returned v ∧ SliceIs w' v M ∧ MergedOf M ABC) ∧ Below W.heap.size W w' := by
  have hb0 := below_alloc1 W (.cells #[.slice ad A.length ca, .slice bd B.length cb, .slice cd C.length cc] 25)
  refine (hF W.heap.size [(.slice ad A.length ca, A), (.slice bd B.length cb, B), (.slice cd C.length cc, C)] rfl (fun x hx => ?_) (fun x hx p hp => ?_) _ (by simp) (fun i x hx => ?_)).mono fun e w' ⟨⟨v, M, he, hv, hm⟩, hw⟩ => ⟨⟨v, M, he, hv, ?_⟩, hb0.trans (hw.mono (by simp))⟩
  · simp at hx
    rcases hx with rfl | rfl | rfl
    · exact hA
    · exact hB
    · exact hC
  · simp at hx
    rcases hx with rfl | rfl | rfl
    · exact hz p (by rw [← hABC]; exact List.mem_append_left _ (List.mem_append_left _ hp))
    · exact hz p (by rw [← hABC]; exact List.mem_append_left _ (List.mem_append_right _ hp))
    · exact hz p (by rw [← hABC]; exact List.mem_append_right _ hp)
  · match i, hx with
    | 0, hx => simp at hx; rw [← hx]; exact ⟨by simp, ad, ca, rfl, ha, h1.below hb0⟩
    | 1, hx => simp at hx; rw [← hx]; exact ⟨by simp, bd, cb, rfl, hb, h2.below hb0⟩
    | 2, hx => simp at hx; rw [← hx]; exact ⟨by simp, cd, cc, rfl, hc, h3.below hb0⟩
    | n + 3, hx => simp at hx
  · have e2 : ([(Value.slice ad A.length ca, A), (Value.slice bd B.length cb, B), (Value.slice cd C.length cc, C)].flatMap fun y => y.2) = ABC := by rw [← hABC]; simp
    rwa [e2] at hm

/-- Short, and no pair is long. -/
def Light (l : List Pr) : Prop := l.length ≤ 30 ∧ ∀ p ∈ l, p.1.length + p.2.length ≤ 300

set_option maxHeartbeats 1000000 in
theorem paxJoins_walk (ad : Option Addr) (ca : Nat) (A : List Pr) (hA : A.length ≤ maxLen) (zA : ∀ p ∈ A, p.1.length ≤ reachBytes ∧ p.2.length ≤ reachBytes) (xA : A.length ≤ ca ∧ ca ≤ maxLen ∧ (ad = none → ca = 0))
    (bd : Option Addr) (cb : Nat) (B : List Pr) (hB : B.length ≤ maxLen) (zB : ∀ p ∈ B, p.1.length ≤ reachBytes ∧ p.2.length ≤ reachBytes) (xB : B.length ≤ cb ∧ cb ≤ maxLen ∧ (bd = none → cb = 0))
    (cd : Option Addr) (cc : Nat) (C : List Pr) (hC : C.length ≤ maxLen) (zC : ∀ p ∈ C, p.1.length ≤ reachBytes ∧ p.2.length ≤ reachBytes) (xC : C.length ≤ cc ∧ cc ≤ maxLen ∧ (cd = none → cc = 0)) (w : World) (hMA : PairsAt w ad A) (hMB : PairsAt w bd B) (hMC : PairsAt w cd C) :
    Calls Try.prog 4 #[.slice ad A.length ca, .slice bd B.length cb, .slice cd C.length cc] w fun e w' => e = .returned (.bool true) ∧ Below w.heap.size w w' := by
  have heavy : ∀ (d : Option Addr) (c : Nat) (l : List Pr), l.length ≤ maxLen → (∀ p ∈ l, p.1.length ≤ reachBytes ∧ p.2.length ≤ reachBytes) → ∀ W, PairsAt W d l → Calls Try.prog 8 #[.slice d l.length c] W fun e w' => (∃ b, e = .returned (.bool b) ∧ (b = false → Light l)) ∧ Below W.heap.size W w' := fun d c l hl hz W hM => heavy_any d c l hl hz W hM
  have H1 := Lib.hid (heavy ad ca A hA zA w hMA)
  have H2 := Lib.hid (fun W (hb : Below w.heap.size w W) => heavy bd cb B hB zB W (hMB.below hb))
  have H3 := Lib.hid (fun W (hb : Below w.heap.size w W) => heavy cd cc C hC zC W (hMC.below hb))
  have zL : ∀ p ∈ A ++ B ++ C, p.1.length ≤ reachBytes ∧ p.2.length ≤ reachBytes := fun p h => (List.mem_append.1 h).elim (fun h => (List.mem_append.1 h).elim (zA p) (zB p)) (zC p)
  have three := fun F hF W (hb : Below w.heap.size w W) (la : Light A) (lb : Light B) (lc : Light C) => three_lists F A B C (A ++ B ++ C) rfl (by have := la.1; omega) (by have := lb.1; omega) (by have := lc.1; omega) zL ad bd cd ca cb cc xA.2.2 xB.2.2 xC.2.2 hF W (hMA.below hb) (hMB.below hb) (hMC.below hb)
  have G1 := Lib.hid (three 10 (fun gb Ls h3 hl hz W hg hc => merge_any gb 3 Ls (by omega) hl hz W hg hc))
  have G2 := Lib.hid (three 11 (fun gb Ls h3 hl hz W hg hc => refMerge_any gb 3 Ls (by omega) hl W hg hc))
  have HS := Lib.hid (show Light A → Light B → Light C → ∀ M, MergedOf M (A ++ B ++ C) → M.length ≤ 1000000 from fun la lb lc M hM => by
    have h := hM.length_le
    have h1 := la.1
    have h2 := lb.1
    have h3 := lc.1
    rw [List.length_append, List.length_append] at h
    omega)
  clear heavy three zL hA zA xA hB zB xB hC zC xC hMA hMB hMC
  generalize A.length = na at *
  generalize B.length = nb at *
  generalize C.length = nc at *
  go_enter Try.func4, Try.ntmps4
  go_wp2_with (first
    | ((go_at_call 8; with_reducible refine H1.out.mono ?_); rintro e w1 ⟨⟨b1, rfl, hb1⟩, h1⟩; replace hb1 := Lib.hid hb1; replace h1 := Lib.hid h1; cases b1)
    | ((go_at_call 8; with_reducible refine (H2.out _ h1.out).mono ?_); rintro e w2 ⟨⟨b2, rfl, hb2⟩, h2⟩; replace hb2 := Lib.hid hb2; replace h2 := Lib.hid (h1.out.trans (h2.mono h1.out.size)); cases b2)
    | ((go_at_call 8; with_reducible refine (H3.out _ h2.out).mono ?_); rintro e w3 ⟨⟨b3, rfl, hb3⟩, h3⟩; replace hb3 := Lib.hid hb3; replace h3 := Lib.hid (h2.out.trans (h3.mono h2.out.size)); cases b3)
    | (go_at_call 10; refine (G1.out _ h3.out (hb1.out trivial) (hb2.out trivial) (hb3.out trivial)).mono ?_; rintro e w4 ⟨⟨v1, M1, rfl, ⟨a1, c1, rfl, _, p1⟩, m1⟩, h4⟩; replace h4 := Lib.hid (h3.out.trans (h4.mono h3.out.size)); replace p1 := Lib.hid p1; replace m1 := Lib.hid m1; have l1 := Lib.hid (HS.out (hb1.out trivial) (hb2.out trivial) (hb3.out trivial) M1 m1.out))
    | (go_at_call 11; refine (G2.out _ h4.out (hb1.out trivial) (hb2.out trivial) (hb3.out trivial)).mono ?_; rintro e w5 ⟨⟨v2, M2, rfl, ⟨a2, c2, rfl, _, p2⟩, m2⟩, h5⟩; obtain rfl : M2 = M1 := MergedOf.unique m2 m1.out (fun k v _ => Iff.rfl); replace p1 := Lib.hid (p1.out.below h5); replace h5 := Lib.hid (h4.out.trans (h5.mono h4.out.size)); replace p2 := Lib.hid p2)
    | (go_at_call 9; refine (samePairs_same _ _ _ _ _ l1.out _ p1.out p2.out).mono ?_; rintro e w6 ⟨rfl, h6⟩))
  · go_ret
    exact ⟨by simp, h5.out.trans (h6.mono h5.out.size)⟩
  · go_ret
    exact ⟨rfl, h3.out⟩
  · go_ret
    exact ⟨rfl, h2.out⟩
  · go_ret
    exact ⟨rfl, h1.out⟩
end Go.Proofs.Ytheiamidochooaa
