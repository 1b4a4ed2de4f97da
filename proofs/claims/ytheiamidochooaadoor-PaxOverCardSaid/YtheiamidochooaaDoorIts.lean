/- pax.records: what its iterator hands on. -/
import Derived.Test.YtheiamidochooaaDoorPrt
import Derived.Test.YtheiamidochooaaDoorFrs
import Derived.RangeFuncNested
import Derived.RangeFuncBox
import Derived.RangeFuncBound
import Derived.RangeFuncCalls
import Derived.RangeFuncLeaves
import Derived.Shelf.Abstract
import Derived.OwnWalkIn
import Derived.TacticsInMore
import Derived.LoopNIn
import Derived.LoopIn
namespace Go.Proofs.YtheiamidochooaaDoor
open Go.RowKit Go.Shelf Go.Joins
set_option linter.unusedVariables false
attribute [local go_sem] Oper.semAt_some

def upto {α : Type} (f : Nat → α) (k : Nat) : List α := (List.range k).map f
theorem upto_succ {α : Type} (f : Nat → α) (k : Nat) : upto f (k + 1) = upto f k ++ [f k] := by simp [upto, List.range_succ]
theorem upto_length {α : Type} (f : Nat → α) (k : Nat) : (upto f k).length = k := by simp [upto]
/-- What comes: an offset and a pair, none of them great. -/
abbrev It := { x : Nat × Pr // x.1 ≤ 6000 ∧ x.2.1.length ≤ 6000 ∧ x.2.2.length ≤ 6000 }
def mkIt (a : Nat) (p : Pr) : It := if h : a ≤ 6000 ∧ p.1.length ≤ 6000 ∧ p.2.length ≤ 6000 then ⟨(a, p), h⟩ else ⟨(0, ([], [])), by simp⟩
theorem mkIt_val (a : Nat) (p : Pr) (h1 : a ≤ 6000) (h2 : p.1.length ≤ 6000) (h3 : p.2.length ≤ 6000) : (mkIt a p).1 = (a, p) := by unfold mkIt; rw [dif_pos ⟨h1, h2, h3⟩]
/-- The i-th record, and where it begins. -/
def itF (M : List Pr) (i : Nat) : It := mkIt (offL M i) (M[i]?.getD ([], []))
/-- All that comes. -/
def items (M : List Pr) (bad : Bool) : List It := upto (itF M) (M.length + bad.toNat)
/-- What a round is handed. -/
abbrev encB (x : It) : Array Value := #[.int .i64 (x.1.1 : Int), prV x.1.2.1 x.1.2.2]

theorem itF_end (M : List Pr) (h : offL M M.length ≤ 6000) : (itF M M.length).1 = (offL M M.length, ([], [])) := by
  unfold itF; rw [List.getElem?_eq_none (Nat.le_refl _)]; exact mkIt_val _ _ h (by simp) (by simp)
theorem itF_at (M : List Pr) (i : Nat) (p : Pr) (h : M[i]? = some p) (h1 : offL M i ≤ 6000) (h2 : rightP p.1 p.2 = true) : (itF M i).1 = (offL M i, p) := by
  have := (rightP_true p.1 p.2 h2).2.2
  unfold itF; rw [h]; exact mkIt_val _ _ h1 (by show p.1.length ≤ 6000; omega) (by show p.2.length ≤ 6000; omega)

/-- What a round keeps: all that lay below n₀, and the box Bs. -/
def KpR (n₀ Bs : Nat) (W W' : World) : Prop := Below n₀ W W' ∧ ∀ o : Obj, W.heap[Bs]? = some o → o.isCells = true → W'.heap[Bs]? = some o
theorem KpR.refl (n₀ Bs : Nat) (W : World) : KpR n₀ Bs W W := ⟨Below.refl _ _, fun _ h _ => h⟩
theorem KpR.trans {n₀ Bs : Nat} {A B C : World} (h : KpR n₀ Bs A B) (k : KpR n₀ Bs B C) : KpR n₀ Bs A C := ⟨h.1.trans k.1, fun o h1 h2 => k.2 o (h.2 o h1 h2) h2⟩
theorem KpR.of_below {n₀ Bs : Nat} {W W' : World} (h : Below W.heap.size W W') (hn : n₀ ≤ W.heap.size) : KpR n₀ Bs W W' := ⟨h.mono hn, fun o h1 _ => (h.block Bs (Array.getElem?_eq_some_iff.1 h1).1).trans h1⟩
theorem KpR.boxed {n₀ Bs : Nat} {W W' : World} {t : TypeId} {v : Value} (h : KpR n₀ Bs W W') (b : Boxed W Bs t v) : Boxed W' Bs t v := h.2 _ b rfl
theorem kpR_b {n₀ Bs : Nat} {w : World} (hn : n₀ ≤ w.heap.size) : ∀ (W : World) (l : Nat) (o o' : Obj), w.heap.size ≤ l → W.heap[l]? = some o → o.isCells = false → o.isWalk = false → KpR n₀ Bs W (W.putObj l o') := fun W l o o' hl ho hc hw =>
  ⟨belowK_b (w := w) hn W l o o' hl ho hc hw, fun o2 h2 hc2 => by
    by_cases he : l = Bs
    · subst he
      rw [ho] at h2; cases h2; rw [hc] at hc2; cases hc2
    · exact ((grownBy_putObj' W l o').block Bs (Array.getElem?_eq_some_iff.1 h2).1 (fun e => he (by cases e; rfl))).trans h2⟩

set_option maxRecDepth 100000 in
set_option maxHeartbeats 4000000 in
theorem records1_in (n : Nat) (hn : 2 ≤ n) (l Bs n₀ : Nat) (s : List UInt8) (hs : s.length ≤ 6000) (M : List Pr) (bad : Bool) (hR : ReadIs s M bad) (J Jx : List It → World → Prop)
    (hY : ∀ pre x W, J pre W → pre.length < (items M bad).length → YieldAt Fence.wide (n - 1) Tryd.prog l (encB x) W fun e W' =>
      (e = .returned (.bool true) ∧ J (pre ++ [x]) W' ∧ KpR n₀ Bs W W') ∨ (e = .returned (.bool false) ∧ Jx (pre ++ [x]) W'))
    (W : World) (hJ : AbidesFrom W.heap.size J) (hBs : Boxed W Bs 9 (.string (mkS s))) (hn₀ : n₀ ≤ W.heap.size) (hp : ∀ W', Below n₀ W W' → PowLaid W' ∧ AtoiLaid W') (h0 : J [] W) :
    CallsIn Fence.wide n Tryd.prog 61 #[.func (.yield l) #[] #[], .pointer (some ⟨Bs, 0, none⟩)] W fun e W' => (∃ v, e = .returned v) ∧
      ((∃ ys, ys = items M bad ∧ J ys W') ∨ (∃ pre, (∃ k, k ≤ (items M bad).length ∧ pre = upto (itF M) k) ∧ Jx pre W')) := by
  have hlen : (items M bad).length = M.length + bad.toNat := by unfold items; rw [upto_length]
  refine callsIn_of_wp Tryd.func61 rfl trivial ?_ rfl
  simp only [Tryd.ntmps61, List.size_toArray, List.length_cons, List.length_nil, Nat.reduceAdd, Nat.reduceSub, Array.replicate_succ, Array.replicate_zero, List.push_toArray, List.append_toArray, List.nil_append, List.cons_append]
  gi_wp2
  gi_loopw [3] (fun i wr => ∃ k : Nat, k ≤ M.length ∧ i = .int .i64 (offL M k) ∧ J (upto (itF M) k) wr ∧ KpR n₀ Bs W wr)
    (fun i _ => s.length - (intOf i).toNat)
  case atStart => exact ⟨0, by omega, rfl, h0, KpR.refl _ _ _⟩
  case round =>
    obtain ⟨k, hk, rfl, hJs, hnx⟩ := hrel
    have hbs := (hnx.boxed hBs).cell
    obtain ⟨hp1, hp2⟩ := hp wr hnx.1
    have z1 := mkS_size s
    by_cases hkM : k < M.length
    · obtain ⟨p, hpk⟩ : ∃ p, M[k]? = some p := ⟨_, List.getElem?_eq_getElem hkM⟩
      obtain ⟨hbg, hlt⟩ := read_at s M bad hR k p hpk
      have HF := Lib.hid (show Calls Tryd.prog 62 #[.string (mkS (s.drop (offL M k)))] wr fun e w' => e = .returned (.tuple #[prV p.1 p.2, .int .i64 ((recL p.1 p.2).length : Int)]) ∧ Below wr.heap.size wr w' from
        (first_any (s.drop (offL M k)) (by rw [List.length_drop]; omega) wr hp1 hp2).mono fun e w' ⟨he, hw⟩ => ⟨by
          rcases he with ⟨k', v', hb', he⟩ | ⟨hN, _⟩
          · obtain ⟨e1, e2⟩ := begins_one _ _ _ _ _ hb' hbg
            rw [he, e1, e2]
          · exact absurd ⟨_, _, hbg⟩ hN, hw⟩)
      have hsl := fun w => mkS_onward s (offL M k) (by omega) w
      have hpos := recL_pos p.1 p.2
      have hlt' : ((offL M k : Nat) : Int) < (s.length : Int) := by omega
      have hne : ¬ (((recL p.1 p.2).length : Nat) : Int) = 0 := by omega
      have hsum : ((offL M k : Nat) : Int) + (((recL p.1 p.2).length : Nat) : Int) ≤ 6000 := by
        have := hbg.2.length_le
        rw [List.length_drop] at this
        omega
      have HX := Lib.hid (And.intro hbg hpk)
      have HJ := Lib.hid (show ∀ w2, Below wr.heap.size wr w2 → J (upto (itF M) k) (w2.alloc (.cells #[.string (mkS p.1), .string (mkS p.2)] 36)) ∧ KpR n₀ Bs W (w2.alloc (.cells #[.string (mkS p.1), .string (mkS p.2)] 36)) from fun w2 h2 => by
        have h3 := h2.alloc h2.size (.cells #[.string (mkS p.1), .string (mkS p.2)] 36)
        have h4 : n₀ ≤ wr.heap.size := Nat.le_trans hn₀ hnx.1.size
        exact ⟨hJ _ _ _ none hJs ⟨h3.os, h3.tape, h3.output, h3.size, fun i hi _ => h3.block i hi⟩ (fun r e => by cases e), hnx.trans (KpR.of_below h3 h4)⟩)
      have HN := Lib.hid hnx
      clear hbg hpk hp1 hp2 hp hlt hJs hnx hR
      have hfn : Fence.wide.fn 62 := trivial
      have h1 : 1 ≤ n := by omega
      gi_wp2_with (gi_at_call 62; refine (callsIn_wide.2 HF.out).mono ?_; rintro e w2 ⟨rfl, h2⟩)
      obtain ⟨hJ2, hB2⟩ := HJ.out _ h2
      obtain ⟨fn, tmps, assign, body, hy, hRd⟩ := hY _ (itF M k) _ hJ2 (by rw [upto_length, hlen]; omega)
      have hit := itF_at M k p HX.out.2 (by omega) HX.out.1.1
      rw [show encB (itF M k) = #[.int .i64 (offL M k : Int), prV p.1 p.2] by unfold encB; rw [hit]] at hy
      rw [show Sem.run Tryd.prog (Instr.yield l #[.int .i64 (offL M k : Int), prV p.1 p.2]) _ = _ from hy]
      gi_wp2
      have hoff := offL_succ M k p HX.out.2
      refine hRd.mono ?_
      rintro e W3 (⟨rfl, hJ3, hk3⟩ | ⟨rfl, hJx3⟩)
      · gi_wp2
        go_roundw
        case rel =>
          refine ⟨k + 1, by omega, by rw [hoff]; first | rfl | simp, ?_, hB2.trans hk3⟩
          rw [upto_succ]
          exact hJ3
        case measure => simp [intOf]; omega
      · gi_wp2
        refine bodyPost_ret (results_none rfl _ _ _) rfl ?_
        refine ⟨⟨_, rfl⟩, .inr ⟨_, ⟨k + 1, by rw [hlen]; omega, ?_⟩, hJx3⟩⟩
        rw [upto_succ]
    · obtain rfl : k = M.length := by omega
      have hoa := offL_all M
      cases bad with
      | false =>
        have hend : recsL M = s := hR.2.2.1 rfl
        have hge : ¬ ((offL M M.length : Nat) : Int) < (s.length : Int) := by rw [hoa, hend]; omega
        have HJ := Lib.hid hJs
        clear hJs hR hp hp1 hp2 hend hoa
        gi_wp2
        go_end0
        exact ⟨⟨_, rfl⟩, .inl HJ.out⟩
      | true =>
        obtain ⟨hlt, hNx⟩ := hR.2.2.2 rfl
        rw [← hoa] at hlt hNx
        have HF := Lib.hid (show Calls Tryd.prog 62 #[.string (mkS (s.drop (offL M M.length)))] wr fun e w' => e = .returned (.tuple #[prV [] [], .int .i64 0]) ∧ Below wr.heap.size wr w' from
          (first_any (s.drop (offL M M.length)) (by rw [List.length_drop]; omega) wr hp1 hp2).mono fun e w' ⟨he, hw⟩ => ⟨by
            rcases he with ⟨k', v', hb', he⟩ | ⟨hN, he⟩
            · exact absurd ⟨_, _, hb'⟩ hNx
            · exact he, hw⟩)
        have hsl := fun w => mkS_onward s (offL M M.length) (by omega) w
        have hlt' : ((offL M M.length : Nat) : Int) < (s.length : Int) := by omega
        have HJ := Lib.hid (show ∀ w2, Below wr.heap.size wr w2 → J (upto (itF M) M.length) (w2.alloc (.cells #[.string (mkS []), .string (mkS [])] 36)) ∧ KpR n₀ Bs W (w2.alloc (.cells #[.string (mkS []), .string (mkS [])] 36)) from fun w2 h2 => by
          have h3 := h2.alloc h2.size (.cells #[.string (mkS []), .string (mkS [])] 36)
          have h4 : n₀ ≤ wr.heap.size := Nat.le_trans hn₀ hnx.1.size
          exact ⟨hJ _ _ _ none hJs ⟨h3.os, h3.tape, h3.output, h3.size, fun i hi _ => h3.block i hi⟩ (fun r e => by cases e), hnx.trans (KpR.of_below h3 h4)⟩)
        have hlt3 := hlt
        clear hp1 hp2 hp hlt hNx hJs hnx hR hoa
        have hfn : Fence.wide.fn 62 := trivial
        have h1 : 1 ≤ n := by omega
        gi_wp2_with (gi_at_call 62; refine (callsIn_wide.2 HF.out).mono ?_; rintro e w2 ⟨rfl, h2⟩)
        obtain ⟨hJ2, hB2⟩ := HJ.out _ h2
        obtain ⟨fn, tmps, assign, body, hy, hRd⟩ := hY _ (itF M M.length) _ hJ2 (by rw [upto_length, hlen]; simp)
        have hit := itF_end M (by omega)
        rw [show encB (itF M M.length) = #[.int .i64 (offL M M.length : Int), prV [] []] by unfold encB; rw [hit]] at hy
        rw [show Sem.run Tryd.prog (Instr.yield l #[.int .i64 (offL M M.length : Int), prV [] []]) _ = _ from hy]
        gi_wp2
        refine hRd.mono ?_
        rintro e W3 (⟨rfl, hJ3, hk3⟩ | ⟨rfl, hJx3⟩)
        · gi_wp2
          refine bodyPost_ret (results_none rfl _ _ _) rfl ?_
          refine ⟨⟨_, rfl⟩, .inl ⟨_, rfl, ?_⟩⟩
          unfold items
          rw [show M.length + true.toNat = M.length + 1 from rfl, upto_succ]
          exact hJ3
        · gi_wp2
          refine bodyPost_ret (results_none rfl _ _ _) rfl ?_
          refine ⟨⟨_, rfl⟩, .inr ⟨_, ⟨M.length + 1, by rw [hlen]; exact Nat.le_refl _, ?_⟩, hJx3⟩⟩
          rw [upto_succ]

theorem records_in (n : Nat) (s : List UInt8) (w : World) :
    CallsIn Fence.wide n Tryd.prog 40 #[.string (mkS s)] w fun e w' => e = .returned (.func (.func 61) #[] #[.pointer (some ⟨w.heap.size, 0, none⟩)]) ∧ w' = w.alloc (.cells #[.string (mkS s)] 9) := by
  refine callsIn_of_wp Tryd.func40 rfl trivial ?_ rfl
  simp only [Tryd.ntmps40, List.size_toArray, List.length_cons, List.length_nil, Nat.reduceAdd, Nat.reduceSub, Array.replicate_succ, Array.replicate_zero, List.push_toArray, List.append_toArray, List.nil_append, List.cons_append]
  gi_wp2
  go_ret
  exact ⟨rfl, rfl⟩

theorem records_stops (n : Nat) (hn : 2 ≤ n) (Bs n₀ : Nat) (s : List UInt8) (hs : s.length ≤ 6000) (M : List Pr) (bad : Bool) (hR : ReadIs s M bad) (w : World) (hn₀ : n₀ ≤ w.heap.size)
    (hc : Boxed w Bs 9 (.string (mkS s))) (hp : ∀ W', Below n₀ w W' → PowLaid W' ∧ AtoiLaid W') :
    SeqStopsK Fence.wide n Tryd.prog 61 #[.pointer (some ⟨Bs, 0, none⟩)] encB (KpR n₀ Bs) (fun ys => ys = items M bad) (fun pre => ∃ k, k ≤ (items M bad).length ∧ pre = upto (itF M) k) (items M bad).length w := fun l J Jx W hW hJ _ hY h0 =>
  records1_in n hn l Bs n₀ s hs M bad hR J Jx hY W hJ ((hW.block Bs hc.lt).trans hc) (Nat.le_trans hn₀ hW.size) (fun W' h => hp W' ((hW.mono hn₀).trans h)) h0
end Go.Proofs.YtheiamidochooaaDoor
