/- slices.IsSortedFunc at pairs that ascend; slices.Index and slices.Contains at a pair. -/
import Derived.Test.YtheiamidochooaaDoorMrc
import Derived.Test.YtheiamidochooaaDoorCtn
import Derived.Shelf.Abstract
import Derived.Deep.RegionHeld3
import Derived.Deep.Cut
namespace Go.Proofs.YtheiamidochooaaDoor
open Go.RowKit Go.Shelf Go.Joins
set_option linter.unusedVariables false

theorem compare_above : ∀ (a b : List UInt8), a < b → Lib.compareBytes b a = 1
  | [], [], h => absurd h (List.lt_irrefl _)
  | [], _ :: _, _ => rfl
  | _ :: _, [], h => absurd h (List.not_lt_nil _)
  | x :: xs, y :: ys, h => by
    rw [List.cons_lt_cons_iff] at h
    unfold Lib.compareBytes
    rcases h with h | ⟨rfl, h⟩
    · have h1 : ¬ y < x := fun h2 => absurd (UInt8.lt_trans h h2) (UInt8.lt_irrefl _)
      rw [if_neg h1, if_pos h]
    · rw [if_neg (UInt8.lt_irrefl _), if_neg (UInt8.lt_irrefl _)]
      exact compare_above xs ys h

set_option maxHeartbeats 1000000 in
theorem by_key (p q : Pr) (w : World) :
    Calls Tryd.prog 30 #[.agg #[.string (mkS p.1), .string (mkS p.2)], .agg #[.string (mkS q.1), .string (mkS q.2)]] w fun e w' => e = .returned (.int .i64 (Lib.compareBytes p.1 q.1)) ∧ Below w.heap.size w w' := by
  have hb1 := below_alloc1 w (.cells #[.string (mkS p.1), .string (mkS p.2)] 36)
  have hb2 : Below w.heap.size w ((w.alloc (.cells #[.string (mkS p.1), .string (mkS p.2)] 36)).alloc (.cells #[.string (mkS q.1), .string (mkS q.2)] 36)) := hb1.trans ((below_alloc1 _ _).mono (by simp))
  have C := Lib.hid (fun W => (Tryd.strings_Compare (mkS p.1) (mkS q.1) W))
  rw [mkS_list, mkS_list] at C
  have HB := Lib.hid hb2
  clear hb1 hb2
  go_enter Tryd.func30, Tryd.ntmps30
  go_wp2_with (go_at_call 31; refine (C.out _).mono ?_; rintro e w1 ⟨rfl, hw⟩; replace hw := hw.symm; subst hw)
  go_ret
  exact ⟨rfl, HB.out⟩

set_option maxHeartbeats 4000000 in
theorem sorted_true (ad : Option Addr) (c : Nat) (M : List Pr) (hl : M.length ≤ 100000) (hR : Rising M) (w : World) (hM : PairsAt w ad M) :
    Calls Tryd.prog 29 #[.slice ad M.length c, .func (.func 30) #[] #[]] w fun e w' => e = .returned (.bool true) ∧ Below w.heap.size w w' := by
  have HR := Lib.hid (show ∀ w', Below w.heap.size w w' → PairsAt w' ad M from fun w' hb => hM.below hb)
  have HK := Lib.hid (show ∀ (i : Nat) p q, M[i]? = some p → M[i + 1]? = some q → Lib.compareBytes q.1 p.1 = 1 from fun i p q hp hq => compare_above _ _ (by
    obtain ⟨h1, e1⟩ := List.getElem?_eq_some_iff.1 hp
    obtain ⟨h2, e2⟩ := List.getElem?_eq_some_iff.1 hq
    rw [← e1, ← e2]
    exact List.pairwise_iff_getElem.1 hR i (i + 1) h1 h2 (by omega)))
  have eg : ∀ args w, (callFunc 30 args).run Tryd.prog w = .ok (.enter 30 args) w := enters_of Tryd.func30 (by kernel_rfl) rfl
  clear hM hR
  generalize hn : M.length = n at *
  have HN := Lib.hid hn
  clear hn
  rcases Nat.eq_zero_or_pos n with rfl | hpos
  · go_enter Tryd.func29, Tryd.ntmps29
    go_wp2
    refine wp_loop_rounds 1 ?_
    rw [rounds_succ]
    go_wp2
    go_ret
    exact ⟨rfl, Below.refl _ _⟩
  obtain ⟨n1, hn1⟩ : ∃ n1 : Nat, (n : Int) - 1 = (n1 : Int) := ⟨n - 1, by omega⟩
  have HN1 := Lib.hid hn1
  go_enter Tryd.func29, Tryd.ntmps29
  go_wp2
  go_loopg [5] n1 (fun g s wr => ∃ j : Nat, j ≤ g ∧ j < n ∧ s = .int .i64 (j : Int) ∧ Aside (Below w.heap.size w wr))
  case atStart => exact ⟨n1, by omega, by have := HN1.out; omega, rfl, Below.refl _ _⟩
  case round =>
    obtain ⟨j, hg, hj, rfl, A⟩ := hrel
    clear hn1 hpos
    by_cases hil : 0 < j
    · obtain ⟨k, hjk0⟩ : ∃ k, j = k + 1 := ⟨j - 1, by omega⟩
      have hjk : (j : Int) - 1 = (k : Int) := by omega
      have hkw : IntKind.i64.wrap (k : Int) = (k : Int) := IntWalk.i64_in _ ⟨by omega, by omega⟩
      have hk : k < n := by omega
      have j0 : (0 : Int) ≤ (j : Int) := by omega
      have k0 : (0 : Int) ≤ (k : Int) := by omega
      have jn : (j : Int) < (n : Int) := by omega
      have kn : (k : Int) < (n : Int) := by omega
      obtain ⟨p, hp⟩ : ∃ p, M[k]? = some p := ⟨_, List.getElem?_eq_getElem (by have := HN.out; omega)⟩
      obtain ⟨q, hq⟩ : ∃ q, M[j]? = some q := ⟨_, List.getElem?_eq_getElem (by have := HN.out; omega)⟩
      obtain ⟨b, off, had, _, _, _⟩ := HR.out wr A.out k p hp
      subst had
      have C := Lib.hid (show ∀ w', Below wr.heap.size wr w' → w'.cell? ⟨b, off + j * 2, none⟩ = some (.string (mkS q.1)) ∧ w'.cell? ⟨b, off + j * 2 + 1, none⟩ = some (.string (mkS q.2)) ∧ w'.cell? ⟨b, off + k * 2, none⟩ = some (.string (mkS p.1)) ∧ w'.cell? ⟨b, off + k * 2 + 1, none⟩ = some (.string (mkS p.2)) from fun w' hb => by
        obtain ⟨b1, o1, e1, _, x1, x2⟩ := HR.out w' (A.out.trans (hb.mono A.out.size)) k p hp
        obtain ⟨b2, o2, e2, _, y1, y2⟩ := HR.out w' (A.out.trans (hb.mono A.out.size)) j q hq
        cases e1
        cases e2
        exact ⟨y1, y2, x1, x2⟩)
      have S := Lib.hid (fun W => HK.out k p q hp (by rw [← hjk0]; exact hq) ▸ by_key q p W)
      have HA := Lib.hid A.out
      have HJ := Lib.hid hjk0
      clear A hp hq hjk0
      go_wp2
      go_region_held3 (fun w' => Below wr.heap.size wr w' ∧ (w'.cell? ⟨b, off + j * 2, none⟩ = some (.string (mkS q.1)) ∧ w'.cell? ⟨b, off + j * 2 + 1, none⟩ = some (.string (mkS q.2)) ∧ w'.cell? ⟨b, off + k * 2, none⟩ = some (.string (mkS p.1)) ∧ w'.cell? ⟨b, off + k * 2 + 1, none⟩ = some (.string (mkS p.2))))
        (first
          | assumption
          | exact ⟨Below.refl _ _, C.out _ (Below.refl _ _)⟩
          | exact ⟨(Below.refl _ _).drew, C.out _ (Below.refl _ _).drew⟩
          | exact ⟨h4, C.out _ h4⟩
          | fail)
        (first
          | (go_at_fn 30; with_reducible refine (S.out _).mono ?_; rintro e w4 ⟨rfl, g4⟩; have h4 := ‹Below wr.heap.size wr _ ∧ _›.1.trans (g4.mono ‹Below wr.heap.size wr _ ∧ _›.1.size)))
      all_goals
        go_wp2
        go_roundg k
        case measure => have := HJ.out; omega
        case rel => exact ⟨k, by omega, by omega, by first | rfl | (simp; omega), HA.out.trans (h4.mono HA.out.size)⟩
    · obtain rfl : j = 0 := by omega
      go_wp2
      go_ret
      exact ⟨rfl, A.out⟩
theorem sorted_out (AB : List Pr) (hl : AB.length ≤ 100000) (v : Value) (X : World) (h : MOut X v AB) :
    Calls Tryd.prog 29 #[v, .func (.func 30) #[] #[]] X fun e w' => e = .returned (.bool true) ∧ Below X.heap.size X w' := by
  obtain ⟨M, ⟨a, c, rfl, _, p⟩, m⟩ := h
  exact sorted_true a c M (by have := m.length_le; omega) m.1 X p

set_option maxHeartbeats 4000000 in
theorem index_any (k v : List UInt8) (ad : Option Addr) (c : Nat) (M : List Pr) (hl : M.length ≤ 100000) (w : World) (hM : PairsAt w ad M) :
    Calls Tryd.prog 58 #[.slice ad M.length c, prV k v] w fun e w' => (∃ r, e = .returned (.int .i64 r) ∧ HitAt (fun p => decide (k = p.1 ∧ v = p.2)) M r) ∧ Below w.heap.size w w' := by
  obtain ⟨w1, hw1⟩ : ∃ w1, w.alloc (.cells #[.string (mkS k), .string (mkS v)] 36) = w1 := ⟨_, rfl⟩
  have hb1 := below_alloc1 w (.cells #[.string (mkS k), .string (mkS v)] 36)
  rw [hw1] at hb1
  have hs1 : w.heap.size < w1.heap.size := by rw [← hw1]; simp
  have c0 : w1.cell? ⟨w.heap.size, 0, none⟩ = some (.string (mkS k)) := by rw [← hw1]; simp [go_sem]
  have c1 : w1.cell? ⟨w.heap.size, 1, none⟩ = some (.string (mkS v)) := by rw [← hw1]; simp [go_sem]
  have HR := Lib.hid (show ∀ w', Below w1.heap.size w1 w' → PairsAt w' ad M ∧ w'.cell? ⟨w.heap.size, 0, none⟩ = some (.string (mkS k)) ∧ w'.cell? ⟨w.heap.size, 1, none⟩ = some (.string (mkS v)) from fun w' hb =>
    ⟨hM.below (hb1.trans (hb.mono (Nat.le_of_lt hs1))), (hb.cell (p := ⟨w.heap.size, 0, none⟩) hs1).trans c0, (hb.cell (p := ⟨w.heap.size, 1, none⟩) hs1).trans c1⟩)
  have HB := Lib.hid (And.intro hb1 hs1)
  clear hM hb1 hs1 c0 c1
  go_enter Tryd.func58, Tryd.ntmps58
  go_wp2
  clear hw1
  go_loopg [8] M.length (fun g s wr => ∃ i : Nat, i ≤ M.length ∧ M.length - i ≤ g ∧ s = .int .i64 i ∧ Aside (Below w1.heap.size w1 wr ∧ ∀ (j : Nat) p, j < i → M[j]? = some p → decide (k = p.1 ∧ v = p.2) = false))
  case atStart => exact ⟨0, by omega, by omega, rfl, Below.refl _ _, fun j p hj => by omega⟩
  case round =>
    obtain ⟨i, hi, hg, rfl, A⟩ := hrel
    by_cases hil : i < M.length
    · obtain ⟨p, hp⟩ : ∃ p, M[i]? = some p := ⟨_, List.getElem?_eq_getElem hil⟩
      obtain ⟨hP, d0, d1⟩ := HR.out wr A.out.1
      obtain ⟨b, off, had, _, x1, x2⟩ := hP i p hp
      subst had
      clear hP
      have N2 := fun op a b W => pair_guard op a b k v p.1 p.2 W
      have HA := Lib.hid A.out
      have HP := Lib.hid hp
      clear A hp
      cases hf : decide (k = p.1 ∧ v = p.2) with
      | false =>
        have N1 : ∀ W, (binOp .eql 36 (prV k v) (prV p.1 p.2)).run Tryd.prog W = .ok (.bool false) W := fun W => by
          rw [pair_eql, hf]
        have HF := Lib.hid hf
        clear hf
        go_wp2
        go_quiet (fail)
        go_wp2
        go_roundg (M.length - (i + 1))
        case measure => omega
        case rel => exact ⟨i + 1, by omega, by omega, by first | rfl | simp, HA.out.1.trans (below_draws _ _ _), fun j q hj hq => by
          rcases Nat.lt_or_ge j i with h | h
          · exact HA.out.2 j q h hq
          · obtain rfl : j = i := by omega
            rw [HP.out] at hq
            cases hq
            exact HF.out⟩
      | true =>
        have N1 : ∀ W, (binOp .eql 36 (prV k v) (prV p.1 p.2)).run Tryd.prog W = .ok (.bool true) W := fun W => by
          rw [pair_eql, hf]
        have HF := Lib.hid hf
        clear hf
        go_wp2
        go_quiet (fail)
        go_wp2
        go_ret
        exact ⟨⟨_, rfl, Or.inr ⟨i, rfl, hil, p, HP.out, HF.out⟩⟩, HB.out.1.trans ((HA.out.1.trans (below_draws _ _ _)).mono (Nat.le_of_lt HB.out.2))⟩
    · go_wp2
      go_ret
      exact ⟨⟨_, rfl, Or.inl ⟨rfl, fun j p hp => A.out.2 j p (by have := (List.getElem?_eq_some_iff.1 hp).1; omega) hp⟩⟩, HB.out.1.trans (A.out.1.mono (Nat.le_of_lt HB.out.2))⟩
set_option maxHeartbeats 1000000 in
theorem contains_any (k v : List UInt8) (ad : Option Addr) (c : Nat) (M : List Pr) (hl : M.length ≤ 100000) (w : World) (hM : PairsAt w ad M) :
    Calls Tryd.prog 33 #[.slice ad M.length c, prV k v] w fun e w' => e = .returned (.bool (M.any fun p => decide (k = p.1 ∧ v = p.2))) ∧ Below w.heap.size w w' := by
  have hb1 := below_alloc1 w (.cells #[.string (mkS k), .string (mkS v)] 36)
  have HI := Lib.hid (index_any k v ad c M hl _ (hM.below hb1))
  have HB := Lib.hid hb1
  clear hM hb1
  go_enter Tryd.func33, Tryd.ntmps33
  go_wp2_with (go_at_call 58; refine HI.out.mono ?_; rintro e w1 ⟨⟨r, rfl, hr⟩, h1⟩; have H1 := Lib.hid h1; clear h1; rcases hr.any with ⟨rfl, ha⟩ | ⟨j, rfl, ha⟩)
  · go_ret
    exact ⟨by rw [ha]; first | rfl | simp, HB.out.trans (H1.out.mono (by simp))⟩
  · go_ret
    exact ⟨by rw [ha]; first | rfl | simp, HB.out.trans (H1.out.mono (by simp))⟩
theorem contains_out (AB : List Pr) (hl : AB.length ≤ 100000) (v : Value) (key V : List UInt8) (hV : getL AB key = V) (X : World) (h : MOut X v AB) :
    Calls Tryd.prog 33 #[v, prV key V] X fun e w' => e = .returned (.bool (!V.isEmpty)) ∧ Below X.heap.size X w' := by
  obtain ⟨M, ⟨a, c, rfl, _, p⟩, m⟩ := h
  have h1 := contains_any key V a c M (by have := m.length_le; omega) X p
  have h2 : (M.any fun p => decide (key = p.1 ∧ V = p.2)) = !V.isEmpty := by
    have h3 := mem_merged m key
    rw [hV] at h3
    by_cases hv : V = []
    · rw [hv] at h3 ⊢
      rw [show (!([] : List UInt8).isEmpty) = false from rfl, List.any_eq_false]
      intro q hq hd
      have hd' := of_decide_eq_true hd
      have : q = (key, []) := Prod.ext hd'.1.symm hd'.2.symm
      exact (h3.1 (this ▸ hq)) rfl
    · rw [show (!V.isEmpty) = true by cases V with | nil => exact absurd rfl hv | cons => rfl, List.any_eq_true]
      exact ⟨(key, V), h3.2 hv, by simp⟩
  rwa [h2] at h1
end Go.Proofs.YtheiamidochooaaDoor
