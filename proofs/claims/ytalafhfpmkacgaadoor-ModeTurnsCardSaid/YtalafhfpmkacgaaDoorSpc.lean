/- strings.SplitSeq at a comma: what its iterator hands on, till a round ends it. -/
import Derived.Test.YtalafhfpmkacgaaDoorSqs
import Derived.Test.YtalafhfpmkacgaaDoorCc
namespace Go.Proofs.YtalafhfpmkacgaaDoor
open Go.RowKit Go.Shelf Go.Joins
set_option linter.unusedVariables false
attribute [local go_sem] Oper.semAt_some

/-- Blocks from lo on and ahead of hi lie as they lay. -/
def KeepsIn (lo hi : Nat) (W W' : World) : Prop := W.heap.size ≤ W'.heap.size ∧ ∀ k, lo ≤ k → k < hi → k < W.heap.size → W'.heap[k]? = W.heap[k]?
theorem KeepsIn.trans {lo hi : Nat} {A B C : World} (h : KeepsIn lo hi A B) (k : KeepsIn lo hi B C) : KeepsIn lo hi A C :=
  ⟨Nat.le_trans h.1 k.1, fun i h1 h2 h3 => (k.2 i h1 h2 (Nat.lt_of_lt_of_le h3 h.1)).trans (h.2 i h1 h2 h3)⟩
theorem KeepsIn.boxed {lo hi B : Nat} {W W' : World} {t : TypeId} {v : Value} (h : KeepsIn lo hi W W') (h1 : lo ≤ B) (h2 : B < hi) (b : Boxed W B t v) : Boxed W' B t v := (h.2 B h1 h2 b.lt).trans b
theorem KeepsIn.putObj {lo hi : Nat} (W : World) (l : Nat) (o : Obj) (h : hi ≤ l) : KeepsIn lo hi W (W.putObj l o) :=
  ⟨(grownBy_putObj' W l o).size, fun k _ h2 h3 => (grownBy_putObj' W l o).block k h3 (fun e => by cases e; omega)⟩

/-- What comes: a text, not too long. -/
abbrev Pc := { x : List UInt8 // x.length ≤ 1000000 }
def mkPc (x : List UInt8) : Pc := if h : x.length ≤ 1000000 then ⟨x, h⟩ else ⟨[], by simp⟩
theorem mkPc_val (x : List UInt8) (h : x.length ≤ 1000000) : (mkPc x).1 = x := by unfold mkPc; rw [dif_pos h]
def piecesS (l : List UInt8) : List Pc := (piecesC l).map mkPc
theorem piecesS_val (l : List UInt8) (hl : l.length ≤ 1000000) : (piecesS l).map (·.1) = piecesC l := by
  unfold piecesS
  rw [List.map_map]
  conv => rhs; rw [← List.map_id (piecesC l)]
  exact List.map_congr_left fun x hx => mkPc_val x (Nat.le_trans (pieces_le l x hx) hl)
/-- Between two rounds: what has come, and what is left. -/
def SpI (J : List Pc → World → Prop) (B : Nat) (l : List UInt8) (wr : World) (pre : List Pc) (r : List UInt8) : Prop :=
  pre ++ piecesS r = piecesS l ∧ r.length ≤ l.length ∧ J pre wr ∧ Boxed wr B 9 (.string (mkS r)) ∧ Boxed wr (B + 1) 9 (.string (mkS [44])) ∧ Boxed wr (B + 1 + 1) 3 (.int .i64 0)

set_option maxRecDepth 100000 in
set_option maxHeartbeats 4000000 in
theorem splitSeq1_in (n : Nat) (hn : 2 ≤ n) (lp B : Nat) (l : List UInt8) (hl : l.length ≤ 1000000) (J Jx : List Pc → World → Prop) (W : World)
    (hJB : ∀ s W' v, J s W' → J s (W'.setCell ⟨B, 0, none⟩ v))
    (hY : ∀ pre x W1, J pre W1 → pre.length < (piecesS l).length → YieldAt Fence.wide (n - 1) Tryd.prog lp #[.string (mkS x.1)] W1 fun e W' => (e = .returned (.bool true) ∧ J (pre ++ [x]) W' ∧ KeepsIn B (B + 3) W1 W') ∨ (e = .returned (.bool false) ∧ Jx (pre ++ [x]) W'))
    (h0 : J [] W) (b0 : Boxed W B 9 (.string (mkS l))) (b1 : Boxed W (B + 1) 9 (.string (mkS [44]))) (b2 : Boxed W (B + 1 + 1) 3 (.int .i64 0)) :
    CallsIn Fence.wide n Tryd.prog 71 #[.func (.yield lp) #[] #[], .pointer (some ⟨B + 1, 0, none⟩), .pointer (some ⟨B, 0, none⟩), .pointer (some ⟨B + 1 + 1, 0, none⟩)] W fun e W' =>
      (∃ v, e = .returned v) ∧ ((∃ xs, xs = piecesS l ∧ J xs W') ∨ (∃ pre, (∃ r, pre ++ r = piecesS l) ∧ Jx pre W')) := by
  have s1 : (mkS [44]).size = 1 := mkS_size [44]
  have H0 := Lib.hid (show SpI J B l W [] l from ⟨rfl, Nat.le_refl _, h0, b0, b1, b2⟩)
  have HY := Lib.hid hY
  have HB := Lib.hid hJB
  have c1 := b1.cell
  clear hY hJB h0 b0 b1 b2
  refine callsIn_of_wp Tryd.func71 rfl trivial ?_ rfl
  simp only [Tryd.ntmps71, List.size_toArray, List.length_cons, List.length_nil, Nat.reduceAdd, Nat.reduceSub, Array.replicate_succ, Array.replicate_zero, List.push_toArray, List.append_toArray, List.nil_append, List.cons_append]
  gi_wp2
  clear c1
  gi_loopg [7] l.length (fun g s7 wr => ∃ pre r, r.length ≤ g ∧ Aside (SpI J B l wr pre r))
  case atStart => exact ⟨[], l, Nat.le_refl _, H0.out⟩
  case round =>
    obtain ⟨pre, r, hg, A⟩ := hrel
    obtain ⟨hpp, hrl, hJp, d0, d1, d2⟩ := A.out
    have e0 := d0.cell
    have e1 := d1.cell
    have e2 := d2.cell
    have sr := mkS_size r
    have hfn : Fence.wide.fn 36 := trivial
    have hn1 : 1 ≤ n := by omega
    rcases first_cases r with ⟨hno, hix⟩ | ⟨i, hi, hc, hno, hix⟩
    · have C := Lib.hid (show Calls Tryd.prog 36 #[.string (mkS r), .string (mkS [44])] wr fun e w' => e = .returned (.int .i64 (-1)) ∧ wr = w' from (index_mk r wr).mono fun e w' ⟨he, hw⟩ => ⟨by rw [he, hix], hw⟩)
      have hp1 : piecesS l = pre ++ [mkPc r] := by rw [← hpp]; unfold piecesS; rw [pieces_none r hno]; rfl
      have hv := mkPc_val r (by omega)
      obtain ⟨fn, tmps, assign, body, hy, hRd⟩ := HY.out pre (mkPc r) wr hJp (by rw [hp1]; simp)
      rw [hv] at hy
      clear hv
      have HP := Lib.hid hp1
      have HR := Lib.hid hRd
      have HYY := Lib.hid hy
      clear hpp hno hix hp1 A hJp d0 d1 d2 hRd hy
      gi_wp2_with (gi_at_call 36; refine (callsIn_wide.2 C.out).mono ?_; rintro e w2 ⟨rfl, rfl⟩)
      rw [show Sem.run Tryd.prog (Instr.yield lp #[.string (mkS r)]) _ = _ from HYY.out]
      gi_wp2
      refine HR.out.mono ?_
      rintro e W3 (⟨rfl, hJ3, hk3⟩ | ⟨rfl, hJx3⟩)
      · gi_wp2
        go_end0
        exact ⟨⟨_, rfl⟩, .inl ⟨_, HP.out.symm, hJ3⟩⟩
      · gi_wp2
        go_end0
        exact ⟨⟨_, rfl⟩, .inr ⟨_, ⟨[], by rw [List.append_nil, HP.out]⟩, hJx3⟩⟩
    · have C := Lib.hid (show Calls Tryd.prog 36 #[.string (mkS r), .string (mkS [44])] wr fun e w' => e = .returned (.int .i64 (i : Int)) ∧ wr = w' from (index_mk r wr).mono fun e w' ⟨he, hw⟩ => ⟨by rw [he, hix], hw⟩)
      have hp1 : pre ++ mkPc (r.take i) :: piecesS (r.drop (i + 1)) = piecesS l := by rw [← hpp]; unfold piecesS; rw [pieces_at r i hc hno]; rfl
      have hv := mkPc_val (r.take i) (by simp; omega)
      obtain ⟨fn, tmps, assign, body, hy, hRd⟩ := HY.out pre (mkPc (r.take i)) wr hJp (by rw [← hp1]; simp)
      rw [hv] at hy
      clear hv
      have HP := Lib.hid (show (pre ++ [mkPc (r.take i)]) ++ piecesS (r.drop (i + 1)) = piecesS l by rw [← hp1]; simp)
      have HR := Lib.hid hRd
      have HYY := Lib.hid hy
      have h1 := fun w => mkS_upto r i (by omega) w
      have h2 := fun w => mkS_onward r (i + 1) (by omega) w
      have HD := Lib.hid (And.intro d0 (And.intro d1 d2))
      have HE := Lib.hid (show (mkS r).extract (i + 1) r.length = mkS (r.drop (i + 1)) by
        rw [← mkS_self ((mkS r).extract (i + 1) r.length), Lib.extract_data, mkS_list, List.take_of_length_le (by simp)])
      have HT := Lib.hid (show (mkS r).extract 0 i = mkS (r.take i) by
        rw [← mkS_self ((mkS r).extract 0 i), Lib.extract_data, mkS_list]; simp)
      clear hpp hno hix hp1 A hJp d0 d1 d2 hRd hy hc
      gi_wp2_with (gi_at_call 36; refine (callsIn_wide.2 C.out).mono ?_; rintro e w2 ⟨rfl, rfl⟩)
      rw [show Sem.run Tryd.prog (Instr.yield lp #[.string (mkS (r.take i))]) _ = _ from HYY.out]
      gi_wp2
      refine HR.out.mono ?_
      rintro e W3 (⟨rfl, hJ3, hk3⟩ | ⟨rfl, hJx3⟩)
      · have d0 := hk3.boxed (Nat.le_refl _) (by omega) HD.out.1
        have d1 := hk3.boxed (by omega) (by omega) HD.out.2.1
        have d2 := hk3.boxed (by omega) (by omega) HD.out.2.2
        have e0 := d0.cell
        have e1 := d1.cell
        have e2 := d2.cell
        have f0 := d0.frozen
        have HN := Lib.hid (show SpI J B l (W3.setCell ⟨B, 0, none⟩ (.string ((mkS r).extract (i + 1) r.length))) (pre ++ [mkPc (r.take i)]) (r.drop (i + 1)) from by
          rw [HE.out]
          exact ⟨HP.out, by rw [List.length_drop]; omega, HB.out _ _ _ hJ3, d0.set _, d1.other (by omega) _, d2.other (by omega) _⟩)
        clear d0 d1 d2 hk3 hJ3
        gi_wp2
        go_roundg (r.length - (i + 1))
        case measure => omega
        case rel => exact ⟨pre ++ [mkPc (r.take i)], r.drop (i + 1), Nat.le_of_eq List.length_drop, HN.out⟩
      · gi_wp2
        refine bodyPost_ret (results_none rfl _ _ _) rfl ?_
        exact ⟨⟨_, rfl⟩, .inr ⟨_, ⟨_, HP.out⟩, hJx3⟩⟩

theorem splitSeq_stops (n : Nat) (hn : 2 ≤ n) (B : Nat) (l : List UInt8) (hl : l.length ≤ 1000000) (w : World)
    (b0 : Boxed w B 9 (.string (mkS l))) (b1 : Boxed w (B + 1) 9 (.string (mkS [44]))) (b2 : Boxed w (B + 1 + 1) 3 (.int .i64 0)) :
    SeqStopsB Fence.wide n Tryd.prog 71 #[.pointer (some ⟨B + 1, 0, none⟩), .pointer (some ⟨B, 0, none⟩), .pointer (some ⟨B + 1 + 1, 0, none⟩)] (fun x : Pc => #[.string (mkS x.1)]) (KeepsIn B (B + 3)) (fun xs => xs = piecesS l) (fun pre => ∃ r, pre ++ r = piecesS l) (piecesS l).length B w :=
  fun lp J Jx W hW _ _ hJB hY h0 => splitSeq1_in n hn lp B l hl J Jx W hJB hY h0 ((hW.block B b0.lt).trans b0) ((hW.block _ b1.lt).trans b1) ((hW.block _ b2.lt).trans b2)

theorem splitSeq_in (n : Nat) (l : List UInt8) (w : World) :
    CallsIn Fence.wide n Tryd.prog 47 #[.string (mkS l), .string (mkS [44]), .int .i64 0] w fun e w' => e = .returned (.func (.func 71) #[] #[.pointer (some ⟨w.heap.size + 1, 0, none⟩), .pointer (some ⟨w.heap.size, 0, none⟩), .pointer (some ⟨w.heap.size + 1 + 1, 0, none⟩)]) ∧
      w' = ((w.alloc (.cells #[.string (mkS l)] 9)).alloc (.cells #[.string (mkS [44])] 9)).alloc (.cells #[.int .i64 0] 3) := by
  refine callsIn_of_wp Tryd.func47 rfl trivial ?_ rfl
  simp only [Tryd.ntmps47, List.size_toArray, List.length_cons, List.length_nil, Nat.reduceAdd, Nat.reduceSub, Array.replicate_succ, Array.replicate_zero, List.push_toArray, List.append_toArray, List.nil_append, List.cons_append]
  gi_wp2
  go_ret
  exact ⟨rfl, rfl⟩
theorem splitSeqO_in (n : Nat) (hn : 1 ≤ n) (l : List UInt8) (w : World) :
    CallsIn Fence.wide n Tryd.prog 29 #[.string (mkS l), .string (mkS [44])] w fun e w' => e = .returned (.func (.func 71) #[] #[.pointer (some ⟨w.heap.size + 1, 0, none⟩), .pointer (some ⟨w.heap.size, 0, none⟩), .pointer (some ⟨w.heap.size + 1 + 1, 0, none⟩)]) ∧
      w' = ((w.alloc (.cells #[.string (mkS l)] 9)).alloc (.cells #[.string (mkS [44])] 9)).alloc (.cells #[.int .i64 0] 3) := by
  refine callsIn_of_wp Tryd.func29 rfl trivial ?_ rfl
  simp only [Tryd.ntmps29, List.size_toArray, List.length_cons, List.length_nil, Nat.reduceAdd, Nat.reduceSub, Array.replicate_succ, Array.replicate_zero, List.push_toArray, List.append_toArray, List.nil_append, List.cons_append]
  have hfn : Fence.wide.fn 47 := trivial
  gi_wp2_with (gi_at_call 47; refine (splitSeq_in (n - 1) l _).mono ?_; rintro e w' ⟨rfl, rfl⟩)
  go_ret
  exact ⟨rfl, rfl⟩
end Go.Proofs.YtalafhfpmkacgaaDoor
