/- PaxMerges: true, at every argument. -/
import Derived.Test.YtheiamidochooaaDoorSrt
namespace Go.Proofs.YtheiamidochooaaDoor
open Go.RowKit Go.Joins
set_option linter.unusedVariables false

theorem cells3 {X : World} {g : Nat} {A B C : List Pr} {ad bd cd : Option Addr} {ca cb cc : Nat} (ha : ad = none → ca = 0) (hb : bd = none → cb = 0) (hc : cd = none → cc = 0)
    (c0 : X.cell? ⟨g, 0, none⟩ = some (.slice ad A.length ca)) (c1 : X.cell? ⟨g, 1, none⟩ = some (.slice bd B.length cb)) (c2 : X.cell? ⟨g, 2, none⟩ = some (.slice cd C.length cc)) (h1 : PairsAt X ad A) (h2 : PairsAt X bd B) (h3 : PairsAt X cd C) :
    ∀ (i : Nat) x, [(Value.slice ad A.length ca, A), (Value.slice bd B.length cb, B), (Value.slice cd C.length cc, C)][i]? = some x → X.cell? ⟨g, i, none⟩ = some x.1 ∧ SliceIs X x.1 x.2 := fun i x hx => by
  match i, hx with
  | 0, hx => simp at hx; rw [← hx]; exact ⟨c0, ad, ca, rfl, ha, h1⟩
  | 1, hx => simp at hx; rw [← hx]; exact ⟨c1, bd, cb, rfl, hb, h2⟩
  | 2, hx => simp at hx; rw [← hx]; exact ⟨c2, cd, cc, rfl, hc, h3⟩
  | n + 3, hx => simp at hx

theorem merge_three (A B C L : List Pr) (hL : A ++ B ++ C = L) (hA : A.length ≤ 1000) (hB : B.length ≤ 1000) (hC : C.length ≤ 1000) (hz : ∀ p ∈ L, p.1.length ≤ reachBytes ∧ p.2.length ≤ reachBytes) (ad bd cd : Option Addr) (ca cb cc : Nat) (ha : ad = none → ca = 0) (hb : bd = none → cb = 0) (hc : cd = none → cc = 0) (W : World) (h1 : PairsAt W ad A) (h2 : PairsAt W bd B) (h3 : PairsAt W cd C) :
    Calls Tryd.prog 28 #[.slice (some ⟨W.heap.size, 0, none⟩) 3 3] (W.alloc (.cells #[.slice ad A.length ca, .slice bd B.length cb, .slice cd C.length cc] 22)) fun e w' => (∃ v, e = .returned v ∧ MOut w' v L) ∧ Below W.heap.size W w' := by
  have hb0 := below_alloc1 W (.cells #[.slice ad A.length ca, .slice bd B.length cb, .slice cd C.length cc] 22)
  refine (merge_any W.heap.size 3 [(Value.slice ad A.length ca, A), (Value.slice bd B.length cb, B), (Value.slice cd C.length cc, C)] (by simp) (fun x hx => ?_) (fun x hx p hp => hz p ?_) _ (by simp)
    (cells3 ha hb hc (by simp) (by simp) (by simp) (h1.below hb0) (h2.below hb0) (h3.below hb0))).mono fun e w' ⟨⟨v, M, he, hv, hm⟩, hw⟩ => ⟨⟨v, he, M, hv, ?_⟩, hb0.trans (hw.mono (by simp))⟩
  · simp at hx
    rcases hx with rfl | rfl | rfl
    · exact hA
    · exact hB
    · exact hC
  · rw [← hL]
    simp at hx
    rcases hx with rfl | rfl | rfl
    · exact List.mem_append_left _ (List.mem_append_left _ hp)
    · exact List.mem_append_left _ (List.mem_append_right _ hp)
    · exact List.mem_append_right _ hp
  · have e2 : ([(Value.slice ad A.length ca, A), (Value.slice bd B.length cb, B), (Value.slice cd C.length cc, C)].flatMap fun y => y.2) = L := by rw [← hL]; simp
    rwa [e2] at hm
theorem merge_again (L : List Pr) (hl : L.length ≤ 1000) (hz : ∀ p ∈ L, p.1.length ≤ reachBytes ∧ p.2.length ≤ reachBytes) (v : Value) (W : World) (h : MOut W v L) :
    Calls Tryd.prog 28 #[.slice (some ⟨W.heap.size, 0, none⟩) 1 1] (W.alloc (.cells #[v] 22)) fun e w' => (∃ v', e = .returned v' ∧ MOut w' v' L) ∧ Below W.heap.size W w' := by
  have hb0 := below_alloc1 W (.cells #[v] 22)
  obtain ⟨M, hM, hm⟩ := h
  refine (merge_any W.heap.size 1 [(v, M)] (by simp) (fun x hx => ?_) (fun x hx p hp => hz p ?_) _ (by simp) (fun i x hx => ?_)).mono fun e w' ⟨⟨v', M', he, hv, hm'⟩, hw⟩ => ⟨⟨v', he, M', hv, ?_⟩, hb0.trans (hw.mono (by simp))⟩
  · obtain rfl := List.mem_singleton.1 hx
    exact Nat.le_trans hm.length_le hl
  · obtain rfl := List.mem_singleton.1 hx
    exact (lastOf_mem ((hm.2 p).1 hp).1).1
  · match i, hx with
    | 0, hx => simp at hx; rw [← hx]; exact ⟨by simp, hM.below hb0⟩
    | n + 1, hx => simp at hx
  · have e2 : ([(v, M)].flatMap fun y => y.2) = M := by simp
    rw [e2] at hm'
    rw [MergedOf.idem hm hm']
    exact hm
theorem concat_three (A B C L : List Pr) (hL : A ++ B ++ C = L) (hA : A.length ≤ 1000) (hB : B.length ≤ 1000) (hC : C.length ≤ 1000) (ad bd cd : Option Addr) (ca cb cc : Nat) (ha : ad = none → ca = 0) (hb : bd = none → cb = 0) (hc : cd = none → cc = 0) (W : World) (h1 : PairsAt W ad A) (h2 : PairsAt W bd B) (h3 : PairsAt W cd C) :
    Calls Tryd.prog 27 #[.slice (some ⟨W.heap.size, 0, none⟩) 3 3] (W.alloc (.cells #[.slice ad A.length ca, .slice bd B.length cb, .slice cd C.length cc] 22)) fun e w' => (∃ v, e = .returned v ∧ SliceIs w' v L) ∧ Below W.heap.size W w' := by
  have hb0 := below_alloc1 W (.cells #[.slice ad A.length ca, .slice bd B.length cb, .slice cd C.length cc] 22)
  refine (concat_any W.heap.size 3 [(Value.slice ad A.length ca, A), (Value.slice bd B.length cb, B), (Value.slice cd C.length cc, C)] (by simp) (fun x hx => ?_) _ (by simp)
    (cells3 ha hb hc (by simp) (by simp) (by simp) (h1.below hb0) (h2.below hb0) (h3.below hb0))).mono fun e w' ⟨⟨v, he, hv⟩, hw⟩ => ⟨⟨v, he, ?_⟩, hb0.trans (hw.mono (by simp))⟩
  · simp at hx
    rcases hx with rfl | rfl | rfl
    · exact hA
    · exact hB
    · exact hC
  · have e2 : ([(Value.slice ad A.length ca, A), (Value.slice bd B.length cb, B), (Value.slice cd C.length cc, C)].flatMap fun y => y.2) = L := by rw [← hL]; simp
    rwa [e2] at hv
theorem get_slice (L : List Pr) (hl : L.length ≤ 1000000) (v : Value) (key V : List UInt8) (hV : getL L key = V) (X : World) (h : SliceIs X v L) :
    Calls Tryd.prog 32 #[v, .string (mkS key)] X fun e w' => e = .returned (.tuple #[.string (mkS V), .bool (!V.isEmpty)]) ∧ Below X.heap.size X w' := by
  obtain ⟨a, c, rfl, _, p⟩ := h
  have := get_pairs a c L (by omega) key X p
  rwa [hV] at this

set_option maxHeartbeats 1000000 in
theorem merges_long (n1 n2 n3 : Nat) (ad bd cd : Option Addr) (ca cb cc : Nat) (K : ByteArray) (h : (20 : Int) < (n1 : Int) ∨ (20 : Int) < (n2 : Int) ∨ (20 : Int) < (n3 : Int)) (w : World) (hp : PowLaid w) (hL : AtoiLaid w) :
    Calls Tryd.prog 8 #[.slice ad n1 ca, .slice bd n2 cb, .slice cd n3 cc, .string K] w fun e w' => e = .returned (.bool true) ∧ Below w.heap.size w w' := by
  have R := Lib.hid (recorded_true w hp hL)
  clear hp hL
  by_cases s1 : (20 : Int) < (n1 : Int)
  · clear h
    go_enter Tryd.func8, Tryd.ntmps8
    go_wp2_with (go_at_call 21; refine R.out.mono ?_; rintro e w1 ⟨rfl, h1⟩)
    go_ret
    exact ⟨rfl, h1⟩
  by_cases s2 : (20 : Int) < (n2 : Int)
  · clear h
    go_enter Tryd.func8, Tryd.ntmps8
    go_wp2_with (go_at_call 21; refine R.out.mono ?_; rintro e w1 ⟨rfl, h1⟩)
    go_ret
    exact ⟨rfl, h1⟩
  have s3 : (20 : Int) < (n3 : Int) := by rcases h with h | h | h <;> first | exact absurd h s1 | exact absurd h s2 | exact h
  clear h
  go_enter Tryd.func8, Tryd.ntmps8
  go_wp2_with (go_at_call 21; refine R.out.mono ?_; rintro e w1 ⟨rfl, h1⟩)
  go_ret
  exact ⟨rfl, h1⟩

set_option maxHeartbeats 4000000 in
theorem merges_main (n1 n2 n3 : Nat) (ad bd cd : Option Addr) (ca cb cc : Nat) (K V : ByteArray) (ok : Bool) (s1 : ¬ (20 : Int) < (n1 : Int)) (s2 : ¬ (20 : Int) < (n2 : Int)) (s3 : ¬ (20 : Int) < (n3 : Int)) (w : World) (hp : PowLaid w) (hL : AtoiLaid w)
    (Q S : World → Value → Prop) (hQ : ∀ W W' v, Below W.heap.size W W' → Q W v → Q W' v)
    (M3 : ∀ W, Below w.heap.size w W → Calls Tryd.prog 28 #[.slice (some ⟨W.heap.size, 0, none⟩) 3 3] (W.alloc (.cells #[.slice ad n1 ca, .slice bd n2 cb, .slice cd n3 cc] 22)) fun e w' => (∃ xd xn xc, e = .returned (.slice xd xn xc) ∧ Q w' (.slice xd xn xc)) ∧ Below W.heap.size W w')
    (M1 : ∀ v W, Q W v → Calls Tryd.prog 28 #[.slice (some ⟨W.heap.size, 0, none⟩) 1 1] (W.alloc (.cells #[v] 22)) fun e w' => (∃ v', e = .returned v' ∧ Q w' v') ∧ Below W.heap.size W w')
    (EQ : ∀ v1 v2 X, Q X v1 → Q X v2 → Calls Tryd.prog 23 #[v1, v2] X fun e w' => e = .returned (.bool true) ∧ Below X.heap.size X w')
    (SO : ∀ v X, Q X v → Calls Tryd.prog 29 #[v, .func (.func 30) #[] #[]] X fun e w' => e = .returned (.bool true) ∧ Below X.heap.size X w')
    (CC : ∀ W, Below w.heap.size w W → Calls Tryd.prog 27 #[.slice (some ⟨W.heap.size, 0, none⟩) 3 3] (W.alloc (.cells #[.slice ad n1 ca, .slice bd n2 cb, .slice cd n3 cc] 22)) fun e w' => (∃ v, e = .returned v ∧ S w' v) ∧ Below W.heap.size W w')
    (G1 : ∀ v X, S X v → Calls Tryd.prog 32 #[v, .string K] X fun e w' => e = .returned (.tuple #[.string V, .bool ok]) ∧ Below X.heap.size X w')
    (G2 : ∀ v X, Q X v → Calls Tryd.prog 32 #[v, .string K] X fun e w' => e = .returned (.tuple #[.string V, .bool ok]) ∧ Below X.heap.size X w')
    (CN : ∀ v X, Q X v → Calls Tryd.prog 33 #[v, .agg #[.string K, .string V]] X fun e w' => e = .returned (.bool ok) ∧ Below X.heap.size X w') :
    Calls Tryd.prog 8 #[.slice ad n1 ca, .slice bd n2 cb, .slice cd n3 cc, .string K] w fun e w' => e = .returned (.bool true) ∧ Below w.heap.size w w' := by
  have R := Lib.hid (recorded_true w hp hL)
  have HM3 := Lib.hid M3
  have HM1 := Lib.hid M1
  have HE := Lib.hid EQ
  have HS := Lib.hid SO
  have HC := Lib.hid CC
  have HG1 := Lib.hid G1
  have HG2 := Lib.hid G2
  have HN := Lib.hid CN
  have HQ := Lib.hid hQ
  clear hp hL M3 M1 EQ SO CC G1 G2 CN hQ
  go_enter Tryd.func8, Tryd.ntmps8
  go_wp2_with (first
    | (go_at_call 21; refine R.out.mono ?_; rintro e w1 ⟨rfl, g1⟩)
    | (go_at_call 28; first
      | (with_reducible refine (HM3.out _ g1).mono ?_; rintro e w2 ⟨⟨xd, xn, xc, rfl, q2⟩, h2⟩; have g2 := g1.trans (h2.mono g1.size); replace q2 := Lib.hid q2)
      | (with_reducible refine (HM1.out _ _ q2.out).mono ?_; rintro e w3 ⟨⟨m', rfl, p3⟩, h3⟩; have g3 := g2.trans (h3.mono g2.size); have q3 := Lib.hid (HQ.out _ _ _ h3 q2.out); replace p3 := Lib.hid p3))
    | (go_at_call 23; with_reducible refine (HE.out _ _ _ p3.out q3.out).mono ?_; rintro e w4 ⟨rfl, h4⟩; have g4 := g3.trans (h4.mono g3.size); have q4 := Lib.hid (HQ.out _ _ _ h4 q3.out))
    | (go_at_call 29; with_reducible refine (HS.out _ _ q4.out).mono ?_; rintro e w5 ⟨rfl, h5⟩; have g5 := g4.trans (h5.mono g4.size); have q5 := Lib.hid (HQ.out _ _ _ h5 q4.out))
    | (go_at_call 27; with_reducible refine (HC.out _ g5).mono ?_; rintro e w6 ⟨⟨cv, rfl, s6⟩, h6⟩; have g6 := g5.trans (h6.mono g5.size); have q6 := Lib.hid (HQ.out _ _ _ h6 q5.out); replace s6 := Lib.hid s6)
    | (go_at_call 32; first
      | (with_reducible refine (HG1.out _ _ s6.out).mono ?_; rintro e w7 ⟨rfl, h7⟩; have g7 := g6.trans (h7.mono g6.size); have q7 := Lib.hid (HQ.out _ _ _ h7 q6.out); clear s6)
      | (with_reducible refine (HG2.out _ _ q7.out).mono ?_; rintro e w8 ⟨rfl, h8⟩; have g8 := g7.trans (h8.mono g7.size); have q8 := Lib.hid (HQ.out _ _ _ h8 q7.out)))
    | (go_at_call 33; with_reducible refine (HN.out _ _ q8.out).mono ?_; rintro e w9 ⟨rfl, h9⟩; have g9 := g8.trans (h9.mono g8.size)))
  all_goals
    go_ret
    exact ⟨by simp, g9⟩

theorem paxMerges_walk (ad : Option Addr) (ca : Nat) (A : List Pr) (hA : A.length ≤ maxLen) (zA : ∀ p ∈ A, p.1.length ≤ reachBytes ∧ p.2.length ≤ reachBytes) (xA : A.length ≤ ca ∧ ca ≤ maxLen ∧ (ad = none → ca = 0))
    (bd : Option Addr) (cb : Nat) (B : List Pr) (hB : B.length ≤ maxLen) (zB : ∀ p ∈ B, p.1.length ≤ reachBytes ∧ p.2.length ≤ reachBytes) (xB : B.length ≤ cb ∧ cb ≤ maxLen ∧ (bd = none → cb = 0))
    (cd : Option Addr) (cc : Nat) (C : List Pr) (hC : C.length ≤ maxLen) (zC : ∀ p ∈ C, p.1.length ≤ reachBytes ∧ p.2.length ≤ reachBytes) (xC : C.length ≤ cc ∧ cc ≤ maxLen ∧ (cd = none → cc = 0)) (K : ByteArray) (_wK : K.size ≤ maxLen) (w : World) (hMA : PairsAt w ad A) (hMB : PairsAt w bd B) (hMC : PairsAt w cd C) (hp : PowLaid w) (hL : AtoiLaid w) :
    Calls Tryd.prog 8 #[.slice ad A.length ca, .slice bd B.length cb, .slice cd C.length cc, .string K] w fun e w' => e = .returned (.bool true) ∧ Below w.heap.size w w' := by
  by_cases h20 : (20 : Int) < (A.length : Int) ∨ (20 : Int) < (B.length : Int) ∨ (20 : Int) < (C.length : Int)
  · exact merges_long _ _ _ ad bd cd ca cb cc K h20 w hp hL
  have hA20 : ¬ (20 : Int) < (A.length : Int) := fun h => h20 (Or.inl h)
  have hB20 : ¬ (20 : Int) < (B.length : Int) := fun h => h20 (Or.inr (Or.inl h))
  have hC20 : ¬ (20 : Int) < (C.length : Int) := fun h => h20 (Or.inr (Or.inr h))
  obtain ⟨key, rfl⟩ : ∃ k, K = mkS k := ⟨_, (mkS_self K).symm⟩
  have zL : ∀ p ∈ A ++ B ++ C, p.1.length ≤ reachBytes ∧ p.2.length ≤ reachBytes := fun p h => (List.mem_append.1 h).elim (fun h => (List.mem_append.1 h).elim (zA p) (zB p)) (zC p)
  have hl : (A ++ B ++ C).length ≤ 60 := by rw [List.length_append, List.length_append]; omega
  exact merges_main A.length B.length C.length ad bd cd ca cb cc (mkS key) (mkS (getL (A ++ B ++ C) key)) (!(getL (A ++ B ++ C) key).isEmpty) hA20 hB20 hC20 w hp hL (fun W v => MOut W v (A ++ B ++ C)) (fun W v => SliceIs W v (A ++ B ++ C)) (fun W W' v hb h => h.below hb)
    (fun W hW => (merge_three A B C _ rfl (by omega) (by omega) (by omega) zL ad bd cd ca cb cc xA.2.2 xB.2.2 xC.2.2 W (hMA.below hW) (hMB.below hW) (hMC.below hW)).mono fun e w' ⟨⟨v, he, M, ⟨xd, xc, hv, hx⟩, hm⟩, h⟩ => ⟨⟨xd, M.length, xc, by rw [he, hv], M, ⟨xd, xc, rfl, hx⟩, hm⟩, h⟩)
    (fun v W h => merge_again _ (by omega) zL v W h)
    (fun v1 v2 X h1 h2 => equal_out _ (by omega) v1 v2 X h1 h2)
    (fun v X h => sorted_out _ (by omega) v X h)
    (fun W hW => concat_three A B C _ rfl (by omega) (by omega) (by omega) ad bd cd ca cb cc xA.2.2 xB.2.2 xC.2.2 W (hMA.below hW) (hMB.below hW) (hMC.below hW))
    (fun v X h => get_slice _ (by omega) v key _ rfl X h)
    (fun v X h => get_out _ (by omega) v key _ rfl X h)
    (fun v X h => contains_out _ (by omega) v key _ rfl X h)
end Go.Proofs.YtheiamidochooaaDoor
