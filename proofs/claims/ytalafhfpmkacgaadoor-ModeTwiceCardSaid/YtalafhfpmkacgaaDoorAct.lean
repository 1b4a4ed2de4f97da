/- mode.actions: what its iterator hands on: a sign and the letters behind it. -/
import Derived.Test.YtalafhfpmkacgaaDoorTrm
import Derived.RangeFuncNested
import Derived.RangeFuncBox
import Derived.RangeFuncBound
import Derived.RangeFuncCalls
import Derived.RangeFuncLeaves
import Derived.Shelf.Abstract
import Derived.OwnWalkIn
import Derived.TacticsInMore
import Derived.LoopNIn
import Derived.LoopIn
import Derived.Sort.LoopGhostIn
import Derived.RegionIn
namespace Go.Proofs.YtalafhfpmkacgaaDoor
open Go.RowKit Go.Shelf Go.Joins
set_option linter.unusedVariables false
attribute [local go_sem] Oper.semAt_some

/-- What comes: a sign and letters, not too many of them. -/
abbrev Ac := { x : UInt8 × List UInt8 // x.2.length ≤ 1000000 }
def mkAc (x : UInt8 × List UInt8) : Ac := if h : x.2.length ≤ 1000000 then ⟨x, h⟩ else ⟨(0, []), by simp⟩
theorem mkAc_val (x : UInt8 × List UInt8) (h : x.2.length ≤ 1000000) : (mkAc x).1 = x := by unfold mkAc; rw [dif_pos h]
def actsS (l : List UInt8) : List Ac := (acts l).map mkAc
theorem actsS_cons (c : UInt8) (r : List UInt8) : actsS (c :: r) = mkAc (c, headS permS r) :: actsS (restS permS r) := by unfold actsS; rw [acts_cons]; rfl
theorem actsS_val : ∀ (k : Nat) (l : List UInt8), l.length ≤ k → l.length ≤ 1000000 → (actsS l).map (·.1) = acts l
  | _, [], _, _ => rfl
  | 0, c :: r, h, _ => by simp at h
  | k + 1, c :: r, h, h1 => by
    have h2 := restS_le permS r
    have h3 := headS_le permS r
    simp only [List.length_cons] at h h1
    rw [actsS_cons, acts_cons, List.map_cons, mkAc_val _ (by show (headS permS r).length ≤ _; omega), actsS_val k (restS permS r) (by omega) (by omega)]
abbrev encA (x : Ac) : Array Value := #[.int .u8 (x.1.1.toNat : Int), .string (mkS x.1.2)]
/-- Between two rounds: what has come, and what is left. -/
def AcI (J : List Ac → World → Prop) (l : List UInt8) (W wr : World) (pre : List Ac) (r : List UInt8) : Prop :=
  pre ++ actsS r = actsS l ∧ r.length ≤ l.length ∧ J pre wr
theorem abides_below {α : Type} {B : Nat} {J : α → World → Prop} (h : AbidesFrom B J) {s : α} {W W' : World} (hJ : J s W) (hb : Below W.heap.size W W') : J s W' :=
  h _ _ _ none hJ ⟨hb.os, hb.tape, hb.output, hb.size, fun i hi _ => hb.block i hi⟩ (fun r e => by cases e)
theorem mkS_head (c : UInt8) (r : List UInt8) (w : World) : (Instr.index 9 (.string (mkS (c :: r))) (.int .i64 0)).run Tryd.prog w = .ok (.int .u8 (c.toNat : Int)) w := mkS_index (c :: r) 0 c (by decide) rfl w
theorem mkS_tail (c : UInt8) (r : List UInt8) (w : World) : (Instr.slice 9 (.string (mkS (c :: r))) (some (.int .i64 1)) none none).run Tryd.prog w = .ok (.string (mkS r)) w := by
  have := mkS_onward (c :: r) 1 (by simp) w
  simpa using this
theorem mkS_body (c : UInt8) (r : List UInt8) (S : List UInt8) (K : Nat) (hK : K = (headS S r).length + 1) (w : World) : (Instr.slice 9 (.string (mkS (c :: r))) (some (.int .i64 1)) (some (.int .i64 (K : Int))) none).run Tryd.prog w = .ok (.string (mkS (headS S r))) w := by
  have hl := head_len S r
  have := mkS_mid (c :: r) 1 K (by omega) (by simp; omega) w
  have e : ((c :: r).drop 1).take (K - 1) = headS S r := by
    rw [List.drop_one, List.tail_cons, hK, Nat.add_sub_cancel]
    conv => lhs; rw [← head_rest S r]
    rw [List.take_left']
    rw [head_rest]
  rw [e] at this
  simpa using this

set_option maxRecDepth 100000 in
set_option maxHeartbeats 4000000 in
theorem actions1_in (n : Nat) (hn : 2 ≤ n) (lp Bs : Nat) (l : List UInt8) (hl : l.length ≤ 1000000) (J Jx : List Ac → World → Prop) (W : World)
    (hJ : AbidesFrom W.heap.size J)
    (hY : ∀ pre x W1, J pre W1 → pre.length < (actsS l).length → YieldAt Fence.wide (n - 1) Tryd.prog lp (encA x) W1 fun e W' => (e = .returned (.bool true) ∧ J (pre ++ [x]) W' ∧ True) ∨ (e = .returned (.bool false) ∧ Jx (pre ++ [x]) W'))
    (h0 : J [] W) (b0 : Boxed W Bs 9 (.string (mkS l))) :
    CallsIn Fence.wide n Tryd.prog 72 #[.func (.yield lp) #[] #[], .pointer (some ⟨Bs, 0, none⟩)] W fun e W' =>
      (∃ v, e = .returned v) ∧ ((∃ xs, xs = actsS l ∧ J xs W') ∨ (∃ pre, (∃ r, pre ++ r = actsS l) ∧ Jx pre W')) := by
  have HY := Lib.hid hY
  have HJ := Lib.hid hJ
  have H0 := Lib.hid (show AcI J l W W [] l from ⟨rfl, Nat.le_refl _, h0⟩)
  have c0 := b0.cell
  clear hY hJ h0 b0
  refine callsIn_of_wp Tryd.func72 rfl trivial ?_ rfl
  simp only [Tryd.ntmps72, List.size_toArray, List.length_cons, List.length_nil, Nat.reduceAdd, Nat.reduceSub, Array.replicate_succ, Array.replicate_zero, List.push_toArray, List.append_toArray, List.nil_append, List.cons_append]
  gi_wp2
  clear c0
  gi_loopg [3] l.length (fun g s3 wr => ∃ pre r, r.length ≤ g ∧ s3 = .string (mkS r) ∧ Aside (AcI J l W wr pre r))
  case atStart => exact ⟨[], l, Nat.le_refl _, rfl, H0.out⟩
  case round =>
    obtain ⟨pre, r, hg, rfl, A⟩ := hrel
    cases r with
    | nil =>
      have e0 := mkS_emp_nil
      have HE := Lib.hid (show pre = actsS l ∧ J pre wr from ⟨by have := A.out.1; rwa [show actsS [] = [] from rfl, List.append_nil] at this, A.out.2.2⟩)
      clear A
      gi_wp2
      go_end0
      exact ⟨⟨_, rfl⟩, .inl ⟨_, HE.out.1, HE.out.2⟩⟩
    | cons c r =>
      have e0 := mkS_emp (c :: r) (by simp)
      have hfn : Fence.wide.fn 27 := trivial
      have hn1 : 1 ≤ n := by omega
      obtain ⟨hpp, hrl, hJp⟩ := A.out
      have hrl2 : r.length ≤ 1000000 := by simp at hrl; omega
      have C := Lib.hid (trimLeft_any permS r (by decide) (by decide) wr)
      have hlen := head_len permS r
      have i0 := mkS_head c r
      have i1 := mkS_tail c r
      obtain ⟨K, hK⟩ : ∃ K, K = (headS permS r).length + 1 := ⟨_, rfl⟩
      have i2 := mkS_body c r permS K hK
      have z1 : (mkS (c :: r)).size = r.length + 1 := mkS_size _
      have z2 := mkS_size (restS permS r)
      have eK : ((r.length : Int) + 1) - ((restS permS r).length : Int) = (K : Int) := by omega
      have wK : IntKind.i64.wrap (K : Int) = (K : Int) := by rw [IntKind.wrap_i64]; omega
      have k1 : (1 : Int) ≤ (K : Int) := by omega
      have k2 : (K : Int) ≤ (r.length : Int) + 1 := by omega
      have hx : (mkS (c :: r)).extract 1 K = mkS (headS permS r) := by
        rw [← mkS_self ((mkS (c :: r)).extract 1 K), Lib.extract_data, mkS_list, hK]
        congr 1
        show (r.take (headS permS r).length) = headS permS r
        conv => lhs; rw [← head_rest permS r]
        rw [List.take_left']
        rw [head_rest]
      have HV := Lib.hid (mkAc_val (c, headS permS r) (by show (headS permS r).length ≤ _; omega))
      rw [actsS_cons] at hpp
      have HP := Lib.hid hpp
      have HX := Lib.hid (show ∀ w2, Below wr.heap.size wr w2 → J pre w2.drew from fun w2 h2 => abides_below HJ.out hJp (h2.trans ((Below.refl _ _).drew)))
      have HL := Lib.hid hlen
      have HR := Lib.hid hrl
      clear hpp A hJp hK hlen hrl
      have hcut : (⟨#[114, 119, 120, 88, 115, 116]⟩ : ByteArray) = mkS permS := rfl
      gi_wp2_with (gi_at_call 27; refine (callsIn_wide.2 C.out).mono ?_; rintro e w2 ⟨rfl, h2⟩)
      have hJ2 := HX.out _ h2
      obtain ⟨fn, tmps, assign, body, hy, hRd⟩ := HY.out pre (mkAc (c, headS permS r)) _ hJ2 (by rw [← HP.out]; simp)
      rw [show encA (mkAc (c, headS permS r)) = #[.int .u8 (c.toNat : Int), .string (mkS (headS permS r))] by unfold encA; rw [HV.out]] at hy
      have HYY := Lib.hid hy
      have HRd := Lib.hid hRd
      clear hy hRd hJ2
      refine wpIn_region_any (by kernel_rfl) ?_
      change wpAnyIn _ _ _ _ _ _ _ _ _ (World.drew _)
      refine wpAnyIn_take (i := 0) (v := ?_) rfl rfl (by kernel_rfl) (by kernel_rfl) (by kernel_rfl) (fun _ _ _ h => h) ⟨Or.inl ⟨by rfl, ?_⟩, fun _ => rfl⟩ ?_
      rotate_left
      · intro w; go_simp
        try with_reducible rfl
      refine wpAnyIn_take (i := 1) (v := ?_) rfl rfl (by kernel_rfl) (by kernel_rfl) (by kernel_rfl) (fun _ _ _ h => h) ⟨Or.inl ⟨by rfl, ?_⟩, fun _ => rfl⟩ ?_
      rotate_left
      · intro w; go_simp
        try with_reducible rfl
      refine wpAnyIn_take (i := 2) (v := ?_) rfl rfl (by kernel_rfl) (by kernel_rfl) (by kernel_rfl) (fun _ _ _ h => h) ⟨Or.inl ⟨by rfl, ?_⟩, fun _ => rfl⟩ ?_
      rotate_left
      · intro w; go_simp
        try with_reducible rfl
      refine wpAnyIn_take (i := 3) (v := ?_) rfl rfl (by kernel_rfl) (by kernel_rfl) (by kernel_rfl) (fun _ _ _ h => h) ⟨Or.inl ⟨by rfl, ?_⟩, fun _ => rfl⟩ ?_
      rotate_left
      · intro w; go_simp
        try with_reducible rfl
      refine wpAnyIn_take (i := 4) (v := ?_) rfl rfl (by kernel_rfl) (by kernel_rfl) (by kernel_rfl) (fun _ _ _ h => h) ⟨Or.inl ⟨by rfl, ?_⟩, fun _ => rfl⟩ ?_
      rotate_left
      · intro w; go_simp
        try with_reducible rfl
      refine wpAnyIn_take (i := 5) (v := ?_) rfl rfl (by kernel_rfl) (by kernel_rfl) (by kernel_rfl) (fun _ _ _ h => h) ⟨Or.inl ⟨by rfl, ?_⟩, fun _ => rfl⟩ ?_
      rotate_left
      · intro w; go_simp
        try with_reducible rfl
      refine wpAnyIn_take (i := 6) (v := ?_) rfl rfl (by kernel_rfl) (by kernel_rfl) (by kernel_rfl) (fun _ _ _ h => h) ⟨Or.inl ⟨by rfl, ?_⟩, fun _ => rfl⟩ ?_
      rotate_left
      · intro w; go_simp
        try with_reducible rfl
      refine wpAnyIn_take (i := 7) (v := ?_) rfl rfl (by kernel_rfl) (by kernel_rfl) (by kernel_rfl) (fun _ _ _ h => h) ⟨Or.inl ⟨by rfl, ?_⟩, fun _ => rfl⟩ ?_
      rotate_left
      · intro w; go_simp
        try with_reducible rfl
      refine wpAnyIn_take (i := 8) (v := ?_) rfl rfl (by kernel_rfl) (by kernel_rfl) (by kernel_rfl) (fun _ _ _ h => h) ⟨Or.inl ⟨by rfl, ?_⟩, fun _ => rfl⟩ ?_
      rotate_left
      · intro w; go_simp
        try with_reducible rfl
      refine wpAnyIn_take (i := 9) (v := ?_) rfl rfl (by kernel_rfl) (by kernel_rfl) (by kernel_rfl) (fun _ _ _ h => h) ⟨Or.inl ⟨by rfl, ?_⟩, fun _ => rfl⟩ ?_
      rotate_left
      · intro w; go_simp
        try with_reducible rfl
      refine wpAnyIn_ready (rs := [10]) (by kernel_rfl) (by simp) ?_
      refine AllReadyIn.cons rfl (fun K hK => ?_) AllReadyIn.nil
      go_simp
      rw [show Sem.run Tryd.prog (Instr.yield lp #[.int .u8 (c.toNat : Int), .string (mkS (headS permS r))]) _ = _ from HYY.out]
      rw [Oper.uponIn_round]
      refine ⟨fun _ => hn1, HRd.out.mono ?_⟩
      rintro e W3 (⟨rfl, hJ3, _⟩ | ⟨rfl, hJx3⟩)
      · have HN := Lib.hid (show AcI J l W W3 (pre ++ [mkAc (c, headS permS r)]) (restS permS r) from ⟨by rw [← HP.out]; simp, by have := HR.out; have := restS_le permS r; simp at *; omega, hJ3⟩)
        refine hK _ _ ?_
        clear hK K
        refine wpAnyIn_take (i := 11) (v := ?_) rfl rfl (by kernel_rfl) (by kernel_rfl) (by kernel_rfl) (fun _ _ _ h => h) ⟨Or.inl ⟨by rfl, ?_⟩, fun _ => rfl⟩ ?_
        rotate_left
        · intro w; go_simp
          try with_reducible rfl
        refine wpAnyIn_done (by kernel_rfl) ?_ _
        gi_wp2
        go_roundg (restS permS r).length
        case measure => have := restS_le permS r; simp at hg; omega
        case rel => exact ⟨_, _, Nat.le_refl _, rfl, HN.out⟩
      · have HF := Lib.hid (show ∃ r', (pre ++ [mkAc (c, headS permS r)]) ++ r' = actsS l from ⟨actsS (restS permS r), by rw [← HP.out]; simp⟩)
        refine hK _ _ ?_
        clear hK K
        refine wpAnyIn_take (i := 11) (v := ?_) rfl rfl (by kernel_rfl) (by kernel_rfl) (by kernel_rfl) (fun _ _ _ h => h) ⟨Or.inl ⟨by rfl, ?_⟩, fun _ => rfl⟩ ?_
        rotate_left
        · intro w; go_simp
          try with_reducible rfl
        refine wpAnyIn_done (by kernel_rfl) ?_ _
        gi_wp2
        refine bodyPost_ret (results_none rfl _ _ _) rfl ?_
        exact ⟨⟨_, rfl⟩, .inr ⟨_, HF.out, hJx3⟩⟩

theorem actions_stops (n : Nat) (hn : 2 ≤ n) (Bs : Nat) (l : List UInt8) (hl : l.length ≤ 1000000) (w : World) (b0 : Boxed w Bs 9 (.string (mkS l))) :
    SeqStopsK Fence.wide n Tryd.prog 72 #[.pointer (some ⟨Bs, 0, none⟩)] encA (fun _ _ => True) (fun xs => xs = actsS l) (fun pre => ∃ r, pre ++ r = actsS l) (actsS l).length w :=
  fun lp J Jx W hW hJ _ hY h0 => actions1_in n hn lp Bs l hl J Jx W hJ hY h0 ((hW.block Bs b0.lt).trans b0)
theorem actions_in (n : Nat) (l : List UInt8) (w : World) :
    CallsIn Fence.wide n Tryd.prog 49 #[.string (mkS l)] w fun e w' => e = .returned (.func (.func 72) #[] #[.pointer (some ⟨w.heap.size, 0, none⟩)]) ∧ w' = w.alloc (.cells #[.string (mkS l)] 9) := by
  refine callsIn_of_wp Tryd.func49 rfl trivial ?_ rfl
  simp only [Tryd.ntmps49, List.size_toArray, List.length_cons, List.length_nil, Nat.reduceAdd, Nat.reduceSub, Array.replicate_succ, Array.replicate_zero, List.push_toArray, List.append_toArray, List.nil_append, List.cons_append]
  gi_wp2
  go_ret
  exact ⟨rfl, rfl⟩
end Go.Proofs.YtalafhfpmkacgaaDoor
