/- Hw: what the texts of the name hold, joined. -/
import Derived.Test.YthnonmniponahaaGreatDoorQHr
set_option linter.unusedSimpArgs false
set_option linter.unusedVariables false
section
/- The closures of the reference's HeadWrite. -/
namespace Go.Proofs.YthnonmniponahaaGreatDoor
open Go.RowKit Go.Joins
set_option linter.unusedVariables false
set_option linter.unusedSimpArgs false

/-- The blocks below n but b stand as they stood. -/
structure But (n b : Nat) (w w' : World) : Prop where
  os : w'.os = w.os
  tape : w'.tape = w.tape
  output : w'.output = w.output
  size : w.heap.size ≤ w'.heap.size
  block : ∀ k, k < n → k ≠ b → w'.heap[k]? = w.heap[k]?
theorem But.of_below {n b : Nat} {w w' : World} (h : Below n w w') : But n b w w' := ⟨h.os, h.tape, h.output, h.size, fun k hk _ => h.block k hk⟩
theorem But.below {n b : Nat} {w w' : World} (h : But n b w w') (hn : n ≤ b) : Below n w w' := ⟨h.os, h.tape, h.output, h.size, fun k hk => h.block k hk (by omega)⟩
theorem But.trans {n b : Nat} {w w' w'' : World} (h : But n b w w') (k : But n b w' w'') : But n b w w'' := ⟨k.os.trans h.os, k.tape.trans h.tape, k.output.trans h.output, Nat.le_trans h.size k.size, fun i hi hb => (k.block i hi hb).trans (h.block i hi hb)⟩
theorem But.mono {n m b : Nat} {w w' : World} (h : But n b w w') (hm : m ≤ n) : But m b w w' := ⟨h.os, h.tape, h.output, h.size, fun k hk hb => h.block k (by omega) hb⟩
theorem But.grown {n b : Nat} {a w w' : World} (h : But n b a w) (hg : w.grownBy w' (some b)) (hn : n ≤ w.heap.size) : But n b a w' :=
  ⟨hg.os.trans h.os, hg.tape.trans h.tape, hg.output.trans h.output, Nat.le_trans h.size hg.size, fun k hk hb => (hg.block k (by omega) (fun e => hb (by injection e))).trans (h.block k hk hb)⟩
theorem But.cell {n b : Nat} {w w' : World} (h : But n b w w') {a : Addr} (h1 : a.block < n) (h2 : a.block ≠ b) : w'.cell? a = w.cell? a := World.cell?_of_block (w := w) (h.block a.block h1 h2)
theorem But.setOne {n b : Nat} {a w : World} (h : But n b a w) {cur : Array Value} {t : TypeId} {fr : Nat × Nat} (hr : w.heap[b]? = some (.cells cur t fr)) (v : Value) : But n b a (w.setCell ⟨b, 0, none⟩ v) := by
  rw [setCell_eq_setRow w b 0 _ _ _ v hr]
  exact ⟨h.os, h.tape, h.output, by rw [setRow_size]; exact h.size, fun k hk hb => (setRow_other w b k _ hb).trans (h.block k hk hb)⟩
theorem rep_zero (n : Nat) (w : World) (h : n ≤ 1000) :
    Calls Tryz.prog 121 #[.string ⟨#[0]⟩, .int .i64 (n : Int)] w fun e w' => e = .returned (.string (mkS (List.replicate n 0))) ∧ Below w.heap.size w w' := by
  have h := Tryz.strings_Repeat ⟨#[0]⟩ n w (by omega) (by show 1 * n ≤ _; omega)
  have e : (⟨(Lib.repeatL [0] n).toArray⟩ : ByteArray) = mkS (List.replicate n 0) := by
    have h0 : ∀ m, Lib.repeatL [0] m = List.replicate m (0 : UInt8) := by
      intro m
      induction m with
      | zero => rfl
      | succ m ih => rw [Lib.repeatL, ih]; rfl
    unfold mkS
    rw [h0]
  rwa [e] at h
set_option maxHeartbeats 2000000 in
theorem refMagic_any (d : Int) (hd : 1 ≤ d ∧ d ≤ 4) (w : World) :
    Calls Tryz.prog 65 #[.int .i64 d] w fun e w' => e = .returned (.string (mkS (magicL d.toNat))) ∧ Below w.heap.size w w' := by
  have R := Lib.hid (fun w => rep_zero 8 w (by omega))
  obtain rfl | rfl | rfl | rfl : d = 1 ∨ d = 2 ∨ d = 3 ∨ d = 4 := by omega
  all_goals
    go_enter Tryz.func65, Tryz.ntmps65
    go_wp2_with (go_at_call 121; (refine (R.out _).mono ?_); rintro e w1 ⟨rfl, h1⟩)
    go_ret
    exact ⟨rfl, h1.alloc h1.size _⟩
set_option maxHeartbeats 2000000 in
theorem refWt_any (s : List UInt8) (n : Nat) (c : Nat) (x : Bool) (hs : s.length ≤ 1000000) (hn : n ≤ 1000) (w : World) (hx : w.heap[c]? = some (.cells #[.bool x] 4 (0, 0))) :
    Calls Tryz.prog 232 #[.string (mkS s), .int .i64 (n : Int), .pointer (some ⟨c, 0, none⟩)] w fun e w' =>
      e = .returned (.string (mkS (txtG s n))) ∧ w'.heap[c]? = some (.cells #[.bool (x && txtOk s n)] 4 (0, 0)) ∧ But w.heap.size c w w' := by
  have s1 := mkS_size s
  have cx := cell_of_one hx
  have fx := free_of_one hx
  have HX := Lib.hid hx
  have C3 := Lib.hid (contains_zero s)
  clear hx
  by_cases hl : (n : Int) < (s.length : Int)
  · have ho : txtOk s n = false := by unfold txtOk; rw [decide_eq_false (by omega)]; rfl
    have hG : txtG s n = [] := by unfold txtG; rw [ho]; rfl
    rw [ho, hG, Bool.and_false]
    clear ho hG
    go_enter Tryz.func232, Tryz.ntmps232
    go_wp2
    go_ret
    exact ⟨rfl, one_setCell HX.out, (But.of_below (Below.refl _ _)).setOne HX.out _⟩
  · cases hz : s.any (· == 0) with
    | true =>
      rw [hz] at C3
      have ho : txtOk s n = false := by unfold txtOk; rw [hz]; simp
      have hG : txtG s n = [] := by unfold txtG; rw [ho]; rfl
      rw [ho, hG, Bool.and_false]
      clear ho hG hz
      go_enter Tryz.func232, Tryz.ntmps232
      go_wp2_with (go_at_call 107; (with_reducible refine (C3.out _).mono ?_); rintro e w' ⟨rfl, hw⟩; replace hw := hw.symm; subst hw)
      go_ret
      exact ⟨rfl, one_setCell HX.out, (But.of_below (Below.refl _ _)).setOne HX.out _⟩
    | false =>
      rw [hz] at C3
      have ho : txtOk s n = true := by unfold txtOk; rw [hz, decide_eq_true (by omega)]; rfl
      have hG : txtG s n = s ++ List.replicate (n - s.length) 0 := by unfold txtG; rw [ho]; rfl
      rw [ho, hG, Bool.and_true]
      obtain ⟨m, hm⟩ : ∃ m : Nat, n = s.length + m := ⟨n - s.length, by omega⟩
      subst hm
      rw [show s.length + m - s.length = m by omega]
      have hm2 : (s.length : Int) + (m : Int) - (s.length : Int) = (m : Int) := by omega
      have R := Lib.hid (fun w => show Calls Tryz.prog 121 #[.string ⟨#[0]⟩, .int .i64 ((s.length : Int) + (m : Int) - (s.length : Int))] w fun e w' => e = .returned (.string (mkS (List.replicate m 0))) ∧ Below w.heap.size w w' by
        rw [hm2]; exact rep_zero m w (by omega))
      have hlt := (Array.getElem?_eq_some_iff.1 HX.out).1
      clear hm2
      have hcat := fun w => mkS_cat2 s (List.replicate m 0) (by rw [List.length_replicate]; omega) w
      clear ho hG hz
      generalize mkS (List.replicate m 0) = Z at *
      generalize mkS (s ++ List.replicate m 0) = ZZ at *
      go_enter Tryz.func232, Tryz.ntmps232
      go_wp2_with (first
        | (go_at_call 107; (with_reducible refine (C3.out _).mono ?_); rintro e w' ⟨rfl, hw⟩; replace hw := hw.symm; subst hw)
        | (go_at_call 121; (with_reducible refine (R.out _).mono ?_); rintro e w1 ⟨rfl, h1⟩)
        | fail)
      go_ret
      exact ⟨rfl, (h1.block c hlt).trans HX.out, But.of_below h1⟩
set_option maxHeartbeats 2000000 in
theorem refWn_any (v : Int) (hv : i64 v) (n : Nat) (d : Int) (b c : Nat) (x : Bool) (hn : n = 8 ∨ n = 12) (w : World) (hd : w.cell? ⟨b, 0, none⟩ = some (.int .i64 d)) (hx : w.heap[c]? = some (.cells #[.bool x] 4 (0, 0))) :
    Calls Tryz.prog 233 #[.int .i64 v, .int .i64 (n : Int), .pointer (some ⟨b, 0, none⟩), .pointer (some ⟨c, 0, none⟩)] w fun e w' =>
      e = .returned (.string (mkS (numG v n (d == 3)))) ∧ w'.heap[c]? = some (.cells #[.bool (x && numOk v n (d == 3))] 4 (0, 0)) ∧ But w.heap.size c w w' := by
  have HX := Lib.hid hx
  have hlt := (Array.getElem?_eq_some_iff.1 hx).1
  have cx := cell_of_one hx
  have HW : ∃ k : Int, (k == 0) = numOk v n (d == 3) ∧ ∀ w, Calls Tryz.prog 234 #[.int .i64 v, .int .i64 (n : Int), .bool (d == 3)] w fun e w' => e = .returned (.tuple #[.string (mkS (numG v n (d == 3))), .int .i64 k]) ∧ Below w.heap.size w w' := by
    by_cases ho : numOk v n (d == 3) = true
    · exact ⟨0, by rw [ho]; rfl, fun w => refWrite_any v n (d == 3) 0 _ (wr_ok hn ho) hv.1 hv.2 w⟩
    · refine ⟨2, by rw [Bool.eq_false_iff.2 ho]; rfl, fun w => ?_⟩
      have hG : numG v n (d == 3) = [] := by
        unfold numG
        unfold numOk at ho
        rw [Bool.or_eq_true, not_or] at ho
        rw [if_neg ho.1, if_neg ho.2]
      rw [hG]
      exact refWrite_any v n (d == 3) 2 _ (wr_no hn ho) hv.1 hv.2 w
  obtain ⟨k, hk, hW⟩ := HW
  have W := Lib.hid hW
  rw [← hk]
  clear hk hW hx
  generalize mkS (numG v n (d == 3)) = Y at *
  cases x
  all_goals
    go_enter Tryz.func233, Tryz.ntmps233
    go_wp2_with (first
      | (go_at_call 234; (with_reducible refine (W.out _).mono ?_); rintro e w1 ⟨rfl, h1⟩; have hx1 := (h1.block c hlt).trans HX.out; have cx1 := cell_of_one hx1; have fx1 := free_of_one hx1; have H1 := Lib.hid h1; have HX1 := Lib.hid hx1; clear h1 hx1)
      | fail)
    go_ret
    exact ⟨rfl, one_setCell HX1.out, (But.of_below H1.out).setOne HX1.out _⟩
end Go.Proofs.YthnonmniponahaaGreatDoor
end
section
/- The reference's HeadWrite. -/
namespace Go.Proofs.YthnonmniponahaaGreatDoor
open Go.RowKit Go.Joins
set_option linter.unusedVariables false
set_option linter.unusedSimpArgs false
theorem call_at {P : Program} {o : Oper} {a : Act} {w : World} {K : Act → World → Prop} {Q : Exit → Act → World → Prop} {R : Value → World → Prop} (d : Nat) (hd : o.dst = some d) (f : FuncId) (args : Array Value) (hrun : (execOp a.eval o).run P w = .ok (.enter f args) w)
    (hc : Calls P f args w fun e w' => ∃ v, e = .returned v ∧ R v w') (h : ∀ v w', R v w' → K ⟨a.tmps.setIfInBounds d v, a.defers⟩ w') : o.wp P a w K Q := by
  unfold Oper.wp
  rw [hrun, Oper.upon_enter]
  refine hc.mono fun e w' hh => ?_
  obtain ⟨v, rfl, hR⟩ := hh
  show K (a.put o.dst v) w'
  rw [put_to hd]
  exact h v w' hR
/-- What the walk keeps: below w all stands; the dialect's box, the row's block, the flag. -/
structure HwIs (d : Int) (r : RawL) (w : World) (z : Bool) (V : World) : Prop where
  below : Below w.heap.size w V
  dl : V.cell? ⟨w.heap.size, 0, none⟩ = some (.int .i64 d)
  row : RawAt V (w.heap.size + 1) r
  box : V.heap[w.heap.size + 1 + 1]? = some (.cells #[.bool z] 4 (0, 0))
theorem HwIs.but {d : Int} {r : RawL} {w : World} {z z' : Bool} {V V' : World} (h : HwIs d r w z V) (hb : But V.heap.size (w.heap.size + 1 + 1) V V') (hx : V'.heap[w.heap.size + 1 + 1]? = some (.cells #[.bool z'] 4 (0, 0))) : HwIs d r w z' V' := by
  have t : ∀ k v, V.cell? ⟨w.heap.size + 1, k, none⟩ = some v → V'.cell? ⟨w.heap.size + 1, k, none⟩ = some v := fun k v e => (hb.cell (a := ⟨w.heap.size + 1, k, none⟩) (block_lt_of_cell e) (by show w.heap.size + 1 ≠ w.heap.size + 1 + 1; omega)).trans e
  obtain ⟨c0, c1, c2, c3, c4, c5, c6, c7, c8, c9, c10, c11, c12⟩ := h.row
  exact ⟨h.below.trans ((hb.mono h.below.size).below (by omega)), (hb.cell (a := ⟨w.heap.size, 0, none⟩) (block_lt_of_cell h.dl) (by show w.heap.size ≠ w.heap.size + 1 + 1; omega)).trans h.dl,
    ⟨t _ _ c0, t _ _ c1, t _ _ c2, t _ _ c3, t _ _ c4, t _ _ c5, t _ _ c6, t _ _ c7, t _ _ c8, t _ _ c9, t _ _ c10, t _ _ c11, t _ _ c12⟩, hx⟩
theorem HwIs.text {d : Int} {r : RawL} {w : World} {z : Bool} {V V' : World} (h : HwIs d r w z V) (hb : Below V.heap.size V V') : HwIs d r w z V' :=
  h.but (But.of_below hb) ((hb.block _ (Array.getElem?_eq_some_iff.1 h.box).1).trans h.box)
theorem HwIs.drew {d : Int} {r : RawL} {w : World} {z : Bool} {V : World} (h : HwIs d r w z V) : HwIs d r w z V.drew := h.text (Below.refl _ _).drew
theorem HwIs.init (d : Int) (r : RawL) (w : World) : HwIs d r w true (((w.alloc (.cells #[.int .i64 d] 3)).alloc (.cells #[.string (mkS r.name), .string (mkS r.link), .string (mkS r.user), .string (mkS r.group), .string (mkS r.front), .int .u8 (r.kind.toNat : Int), .int .i64 r.mode, .int .i64 r.uid, .int .i64 r.gid, .int .i64 r.size, .int .i64 r.time, .int .i64 r.major, .int .i64 r.minor] 67)).alloc (.cells #[.bool true] 4)) := by
  have hs1 : (w.alloc (.cells #[.int .i64 d] 3)).heap.size = w.heap.size + 1 := by simp
  have hs2 : ((w.alloc (.cells #[.int .i64 d] 3)).alloc (.cells #[.string (mkS r.name), .string (mkS r.link), .string (mkS r.user), .string (mkS r.group), .string (mkS r.front), .int .u8 (r.kind.toNat : Int), .int .i64 r.mode, .int .i64 r.uid, .int .i64 r.gid, .int .i64 r.size, .int .i64 r.time, .int .i64 r.major, .int .i64 r.minor] 67)).heap.size = w.heap.size + 1 + 1 := by simp
  have h1 := RawAt.new (w.alloc (.cells #[.int .i64 d] 3)) r 67
  have h3 := heap_alloc_new ((w.alloc (.cells #[.int .i64 d] 3)).alloc (.cells #[.string (mkS r.name), .string (mkS r.link), .string (mkS r.user), .string (mkS r.group), .string (mkS r.front), .int .u8 (r.kind.toNat : Int), .int .i64 r.mode, .int .i64 r.uid, .int .i64 r.gid, .int .i64 r.size, .int .i64 r.time, .int .i64 r.major, .int .i64 r.minor] 67)) (.cells #[.bool true] 4)
  rw [hs1] at h1
  rw [hs2] at h3
  refine ⟨(below_alloc2 w _ _).alloc (by rw [hs2]; omega) _, ?_, h1.below ((Below.refl _ _).alloc (Nat.le_refl _) _) h1.lt, h3⟩
  rw [World.cell?_alloc_lt _ _ _ (by show w.heap.size < _; rw [hs2]; omega), World.cell?_alloc_lt _ _ _ (by show w.heap.size < _; rw [hs1]; omega)]
  exact cell_of_one (heap_alloc_new w _)
theorem char_mkS (c : UInt8) (w : World) : Calls Tryz.prog 162 #[.int .i64 (c.toNat : Int)] w fun e w' => e = .returned (.string (mkS [c])) ∧ Below w.heap.size w w' := by
  have h := char_any (c.toNat : Int) w (by omega) (by have := c.toNat_lt; omega)
  have e : strOfNums [(c.toNat : Int)] = mkS [c] := by
    unfold strOfNums mkS
    simp [u8]
  rwa [e] at h
theorem txtG_le (s : List UInt8) (n : Nat) : (txtG s n).length ≤ n := by
  by_cases h : txtOk s n = true
  · exact Nat.le_of_eq (txtG_length h)
  · unfold txtG; rw [if_neg h]; exact Nat.zero_le _
theorem numG_le (v : Int) (n : Nat) (hn : 1 ≤ n) (b : Bool) : (numG v n b).length ≤ n := by
  by_cases h : numOk v n b = true
  · exact Nat.le_of_eq (numG_length hn h)
  · unfold numG
    unfold numOk at h
    rw [Bool.or_eq_true, not_or] at h
    rw [if_neg h.1, if_neg h.2]; exact Nat.zero_le _
structure TextsLe (r : RawL) : Prop where
  name : r.name.length ≤ 1000000
  link : r.link.length ≤ 1000000
  user : r.user.length ≤ 1000000
  group : r.group.length ≤ 1000000
  front : r.front.length ≤ 1000000
structure IntsIn (r : RawL) : Prop where
  mode : i64 r.mode
  uid : i64 r.uid
  gid : i64 r.gid
  size : i64 r.size
  time : i64 r.time
  major : i64 r.major
  minor : i64 r.minor
def RefWPost (d : Int) (r : RawL) (w : World) (e : Ending) (w' : World) : Prop := ∃ s k, WriteIs d r s k ∧ e = .returned (.tuple #[.string (mkS s), .int .i64 k]) ∧ Below w.heap.size w w'
theorem eqb_three {d : Int} (hd : 1 ≤ d ∧ d ≤ 4) : (d.toNat == 3) = (d == 3) := by
  obtain rfl | rfl | rfl | rfl : d = 1 ∨ d = 2 ∨ d = 3 ∨ d = 4 := by omega
  all_goals rfl
theorem flags_two {d : Int} {r : RawL} (hd : 1 ≤ d ∧ d ≤ 4) (h1 : d ≠ 1) : ((((((((((((true && txtOk r.name 100) && numOk r.mode 8 (d == 3)) && numOk r.uid 8 (d == 3)) && numOk r.gid 8 (d == 3)) && numOk r.size 12 (d == 3)) && numOk r.time 12 (d == 3)) && txtOk r.link 100) && txtOk r.user 32) && txtOk r.group 32) && numOk r.major 8 (d == 3)) && numOk r.minor 8 (d == 3)) && txtOk r.front 155) = true ↔ numsOk d.toNat r = true ∧ txtsOk r = true := by
  unfold numsOk txtsOk
  rw [eqb_three hd, decide_eq_false (show ¬ d.toNat = 1 by omega)]
  simp only [Bool.and_eq_true, Bool.true_and, Bool.false_or]
  constructor
  · rintro ⟨⟨⟨⟨⟨⟨⟨⟨⟨⟨⟨a1, a2⟩, a3⟩, a4⟩, a5⟩, a6⟩, a7⟩, a8⟩, a9⟩, a10⟩, a11⟩, a12⟩
    exact ⟨⟨a2, a3, a4, a5, a6, a10, a11⟩, a1, a7, a8, a9, a12⟩
  · rintro ⟨⟨a2, a3, a4, a5, a6, a10, a11⟩, a1, a7, a8, a9, a12⟩
    exact ⟨⟨⟨⟨⟨⟨⟨⟨⟨⟨⟨a1, a2⟩, a3⟩, a4⟩, a5⟩, a6⟩, a7⟩, a8⟩, a9⟩, a10⟩, a11⟩, a12⟩
theorem body_two {d : Int} {r : RawL} (hd : 1 ≤ d ∧ d ≤ 4) (h1 : d ≠ 1) : (((txtG r.name 100) ++ ((numG r.mode 8 (d == 3)) ++ ((numG r.uid 8 (d == 3)) ++ ((numG r.gid 8 (d == 3)) ++ ((numG r.size 12 (d == 3)) ++ ((numG r.time 12 (d == 3)) ++ (([32, 32, 32, 32, 32, 32, 32, 32]) ++ (([r.kind]) ++ ((txtG r.link 100) ++ ((magicL d.toNat) ++ ((txtG r.user 32) ++ (txtG r.group 32)))))))))))) ++ ((numG r.major 8 (d == 3)) ++ (numG r.minor 8 (d == 3)))) ++ (txtG r.front 155 ++ List.replicate 12 (0 : UInt8)) = bodyL d.toNat r := by
  unfold bodyL devG
  rw [eqb_three hd, if_neg (show ¬ d.toNat = 1 by omega), if_neg (show ¬ d.toNat = 1 by omega), show List.replicate 8 (32 : UInt8) = [32, 32, 32, 32, 32, 32, 32, 32] from rfl]
  simp only [List.append_assoc]
theorem flags_one {d : Int} {r : RawL} (h1 : d = 1) : ((((((((((true && txtOk r.name 100) && numOk r.mode 8 (d == 3)) && numOk r.uid 8 (d == 3)) && numOk r.gid 8 (d == 3)) && numOk r.size 12 (d == 3)) && numOk r.time 12 (d == 3)) && txtOk r.link 100) && txtOk r.user 32) && txtOk r.group 32) && txtOk r.front 155) = true ↔ numsOk d.toNat r = true ∧ txtsOk r = true := by
  subst h1
  unfold numsOk txtsOk
  rw [show ((1 : Int).toNat == 3) = ((1 : Int) == 3) from rfl, decide_eq_true (show (1 : Int).toNat = 1 from rfl)]
  simp only [Bool.and_eq_true, Bool.true_and, Bool.true_or, Bool.and_true]
  constructor
  · rintro ⟨⟨⟨⟨⟨⟨⟨⟨⟨a1, a2⟩, a3⟩, a4⟩, a5⟩, a6⟩, a7⟩, a8⟩, a9⟩, a12⟩
    exact ⟨⟨a2, a3, a4, a5, a6⟩, a1, a7, a8, a9, a12⟩
  · rintro ⟨⟨a2, a3, a4, a5, a6⟩, a1, a7, a8, a9, a12⟩
    exact ⟨⟨⟨⟨⟨⟨⟨⟨⟨a1, a2⟩, a3⟩, a4⟩, a5⟩, a6⟩, a7⟩, a8⟩, a9⟩, a12⟩
theorem body_one {d : Int} {r : RawL} (h1 : d = 1) : (((txtG r.name 100) ++ ((numG r.mode 8 (d == 3)) ++ ((numG r.uid 8 (d == 3)) ++ ((numG r.gid 8 (d == 3)) ++ ((numG r.size 12 (d == 3)) ++ ((numG r.time 12 (d == 3)) ++ (([32, 32, 32, 32, 32, 32, 32, 32]) ++ (([r.kind]) ++ ((txtG r.link 100) ++ ((magicL d.toNat) ++ ((txtG r.user 32) ++ (txtG r.group 32)))))))))))) ++ List.replicate 16 (0 : UInt8)) ++ (txtG r.front 155 ++ List.replicate 12 (0 : UInt8)) = bodyL d.toNat r := by
  subst h1
  unfold bodyL devG
  rw [if_pos (show (1 : Int).toNat = 1 from rfl), if_pos (show (1 : Int).toNat = 1 from rfl), show List.replicate 8 (32 : UInt8) = [32, 32, 32, 32, 32, 32, 32, 32] from rfl, show List.replicate 16 (0 : UInt8) = List.replicate 8 0 ++ List.replicate 8 0 from rfl]
  simp only [List.append_assoc]
  rfl
theorem emp_is (l : List UInt8) : (mkS l).toList.isEmpty = decide (l = []) := by
  rw [ByteArray.toList_eq, mkS_list]
  cases l <;> simp
set_option maxRecDepth 100000 in
set_option maxHeartbeats 40000000 in
theorem refW_two (d : Int) (hd2 : d = 2 ∨ d = 4) (hd : 1 ≤ d ∧ d ≤ 4) (r : RawL) (hk : r.kind ≠ 0) (hbr : bearsL d.toNat r) (ht : TextsLe r) (hi : IntsIn r) (w : World) :
    Calls Tryz.prog 169 #[.int .i64 d, rawV r] w (RefWPost d r w) := by
  have HK := Lib.hid hk
  have HBR := Lib.hid hbr
  have HN1 := Lib.hid (show d ≠ 1 by omega)
  replace hk : ((r.kind.toNat : Int) == 0) = false := by
    rw [beq_eq_false_iff_ne]; intro e; exact hk (UInt8.toNat_inj.1 (by show r.kind.toNat = 0; omega))
  have HD := Lib.hid hd
  have HT := Lib.hid ht
  have HI := Lib.hid hi
  have WI := Lib.hid (fun w => within_any d 1 4 w)
  rw [decide_eq_true hd] at WI
  have hH0 := Lib.hid (HwIs.init d r w)
  have l0 := txtG_le r.name 100
  have l1 := txtG_le r.link 100
  have l2 := txtG_le r.user 32
  have l3 := txtG_le r.group 32
  have l4 := txtG_le r.front 155
  have l5 := numG_le r.mode 8 (by omega) (d == 3)
  have l6 := numG_le r.uid 8 (by omega) (d == 3)
  have l7 := numG_le r.gid 8 (by omega) (d == 3)
  have l8 := numG_le r.size 12 (by omega) (d == 3)
  have l9 := numG_le r.time 12 (by omega) (d == 3)
  have l10 := numG_le r.major 8 (by omega) (d == 3)
  have l11 := numG_le r.minor 8 (by omega) (d == 3)
  have l12 := Nat.le_of_eq (magicL_length d.toNat)
  obtain ⟨SP, hSP⟩ : ∃ s : List UInt8, s = [32, 32, 32, 32, 32, 32, 32, 32] := ⟨_, rfl⟩
  obtain ⟨KL, hKL⟩ : ∃ s : List UInt8, s = [r.kind] := ⟨_, rfl⟩
  have HSP := Lib.hid hSP
  have HKL := Lib.hid hKL
  have l13 : SP.length = 8 := by rw [hSP]; rfl
  have l14 : KL.length = 1 := by rw [hKL]; rfl
  have HKC := Lib.hid (fun w => char_mkS r.kind w)
  rw [← hKL] at HKC
  clear hSP hKL
  have n1 : (d == 1) = false := by rcases hd2 with rfl | rfl <;> rfl
  have n3 : (d == 3) = false := by rcases hd2 with rfl | rfl <;> rfl
  have k1 : (0 : Int) ≤ (r.kind.toNat : Int) := by omega
  have k2 : (r.kind.toNat : Int) ≤ 255 := by have := r.kind.toNat_lt; omega
  clear hd ht hi hd2 hbr
  unfold rawV
  go_enter Tryz.func169, Tryz.ntmps169
  go_wp2_with (first
    | (go_at_call 29; (with_reducible refine (WI.out _).mono ?_); rintro e w' ⟨rfl, hw⟩; subst hw)
    | fail)
  generalize ((w.alloc (.cells #[.int .i64 d] 3)).alloc (.cells #[.string (mkS r.name), .string (mkS r.link), .string (mkS r.user), .string (mkS r.group), .string (mkS r.front), .int .u8 (r.kind.toNat : Int), .int .i64 r.mode, .int .i64 r.uid, .int .i64 r.gid, .int .i64 r.size, .int .i64 r.time, .int .i64 r.major, .int .i64 r.minor] 67)).alloc (.cells #[.bool true] 4) = W0 at *
  refine wp_region_held_drew (S := fun w' => w'.cell? ⟨w.heap.size, 0, none⟩ = some (.int .i64 d) ∧ RawAt w' (w.heap.size + 1) r) (by kernel_rfl) ⟨hH0.out.drew.dl, hH0.out.drew.row⟩ (fun hHeld => ?_)
  have hv0 := Lib.hid hH0.out.drew
  generalize W0.drew = v0 at *
  have N1 := Lib.hid n1
  have N3 := Lib.hid n3
  have kw : IntKind.i64.wrap (r.kind.toNat : Int) = (r.kind.toNat : Int) := IntWalk.i64_in _ (by omega)
  clear n1 n3
  refine take_to (i := 0) 56 (.func (.func 232) #[] #[.pointer (some ⟨w.heap.size + 1 + 1, 0, none⟩)]) rfl rfl (by kernel_rfl) (by kernel_rfl) (by kernel_rfl) (fun _ _ _ h => h) (Or.inl ⟨by rfl, fun _ _ => rfl⟩) (by assumption) ?_
  simp only [List.setIfInBounds_toArray, List.set_cons_succ, List.set_cons_zero]
  refine take_to (i := 35) 91 (.func (.func 232) #[] #[.pointer (some ⟨w.heap.size + 1 + 1, 0, none⟩)]) rfl rfl (by kernel_rfl) (by kernel_rfl) (by kernel_rfl) (fun _ _ _ h => h) (Or.inl ⟨by rfl, fun _ _ => rfl⟩) (by assumption) ?_
  simp only [List.setIfInBounds_toArray, List.set_cons_succ, List.set_cons_zero]
  refine take_to (i := 43) 99 (.func (.func 232) #[] #[.pointer (some ⟨w.heap.size + 1 + 1, 0, none⟩)]) rfl rfl (by kernel_rfl) (by kernel_rfl) (by kernel_rfl) (fun _ _ _ h => h) (Or.inl ⟨by rfl, fun _ _ => rfl⟩) (by assumption) ?_
  simp only [List.setIfInBounds_toArray, List.set_cons_succ, List.set_cons_zero]
  refine take_to (i := 48) 104 (.func (.func 232) #[] #[.pointer (some ⟨w.heap.size + 1 + 1, 0, none⟩)]) rfl rfl (by kernel_rfl) (by kernel_rfl) (by kernel_rfl) (fun _ _ _ h => h) (Or.inl ⟨by rfl, fun _ _ => rfl⟩) (by assumption) ?_
  simp only [List.setIfInBounds_toArray, List.set_cons_succ, List.set_cons_zero]
  refine take_to (i := 4) 60 (.func (.func 233) #[] #[.pointer (some ⟨w.heap.size, 0, none⟩), .pointer (some ⟨w.heap.size + 1 + 1, 0, none⟩)]) rfl rfl (by kernel_rfl) (by kernel_rfl) (by kernel_rfl) (fun _ _ _ h => h) (Or.inl ⟨by rfl, fun _ _ => rfl⟩) (by assumption) ?_
  simp only [List.setIfInBounds_toArray, List.set_cons_succ, List.set_cons_zero]
  refine take_to (i := 9) 65 (.func (.func 233) #[] #[.pointer (some ⟨w.heap.size, 0, none⟩), .pointer (some ⟨w.heap.size + 1 + 1, 0, none⟩)]) rfl rfl (by kernel_rfl) (by kernel_rfl) (by kernel_rfl) (fun _ _ _ h => h) (Or.inl ⟨by rfl, fun _ _ => rfl⟩) (by assumption) ?_
  simp only [List.setIfInBounds_toArray, List.set_cons_succ, List.set_cons_zero]
  refine take_to (i := 14) 70 (.func (.func 233) #[] #[.pointer (some ⟨w.heap.size, 0, none⟩), .pointer (some ⟨w.heap.size + 1 + 1, 0, none⟩)]) rfl rfl (by kernel_rfl) (by kernel_rfl) (by kernel_rfl) (fun _ _ _ h => h) (Or.inl ⟨by rfl, fun _ _ => rfl⟩) (by assumption) ?_
  simp only [List.setIfInBounds_toArray, List.set_cons_succ, List.set_cons_zero]
  refine take_to (i := 19) 75 (.func (.func 233) #[] #[.pointer (some ⟨w.heap.size, 0, none⟩), .pointer (some ⟨w.heap.size + 1 + 1, 0, none⟩)]) rfl rfl (by kernel_rfl) (by kernel_rfl) (by kernel_rfl) (fun _ _ _ h => h) (Or.inl ⟨by rfl, fun _ _ => rfl⟩) (by assumption) ?_
  simp only [List.setIfInBounds_toArray, List.set_cons_succ, List.set_cons_zero]
  refine take_to (i := 24) 80 (.func (.func 233) #[] #[.pointer (some ⟨w.heap.size, 0, none⟩), .pointer (some ⟨w.heap.size + 1 + 1, 0, none⟩)]) rfl rfl (by kernel_rfl) (by kernel_rfl) (by kernel_rfl) (fun _ _ _ h => h) (Or.inl ⟨by rfl, fun _ _ => rfl⟩) (by assumption) ?_
  simp only [List.setIfInBounds_toArray, List.set_cons_succ, List.set_cons_zero]
  refine take_to (i := 1) 57 (.pointer (some ⟨w.heap.size + 1, 0, none⟩)) rfl rfl (by kernel_rfl) (by kernel_rfl) (by kernel_rfl) (fun _ _ _ h => h) (Or.inl ⟨by rfl, fun _ _ => by kernel_rfl⟩) (by assumption) ?_
  simp only [List.setIfInBounds_toArray, List.set_cons_succ, List.set_cons_zero]
  refine take_to (i := 5) 61 (.pointer (some ⟨w.heap.size + 1, 6, none⟩)) rfl rfl (by kernel_rfl) (by kernel_rfl) (by kernel_rfl) (fun _ _ _ h => h) (Or.inl ⟨by rfl, fun _ _ => by kernel_rfl⟩) (by assumption) ?_
  simp only [List.setIfInBounds_toArray, List.set_cons_succ, List.set_cons_zero]
  refine take_to (i := 10) 66 (.pointer (some ⟨w.heap.size + 1, 7, none⟩)) rfl rfl (by kernel_rfl) (by kernel_rfl) (by kernel_rfl) (fun _ _ _ h => h) (Or.inl ⟨by rfl, fun _ _ => by kernel_rfl⟩) (by assumption) ?_
  simp only [List.setIfInBounds_toArray, List.set_cons_succ, List.set_cons_zero]
  refine take_to (i := 15) 71 (.pointer (some ⟨w.heap.size + 1, 8, none⟩)) rfl rfl (by kernel_rfl) (by kernel_rfl) (by kernel_rfl) (fun _ _ _ h => h) (Or.inl ⟨by rfl, fun _ _ => by kernel_rfl⟩) (by assumption) ?_
  simp only [List.setIfInBounds_toArray, List.set_cons_succ, List.set_cons_zero]
  refine take_to (i := 20) 76 (.pointer (some ⟨w.heap.size + 1, 9, none⟩)) rfl rfl (by kernel_rfl) (by kernel_rfl) (by kernel_rfl) (fun _ _ _ h => h) (Or.inl ⟨by rfl, fun _ _ => by kernel_rfl⟩) (by assumption) ?_
  simp only [List.setIfInBounds_toArray, List.set_cons_succ, List.set_cons_zero]
  refine take_to (i := 25) 81 (.pointer (some ⟨w.heap.size + 1, 10, none⟩)) rfl rfl (by kernel_rfl) (by kernel_rfl) (by kernel_rfl) (fun _ _ _ h => h) (Or.inl ⟨by rfl, fun _ _ => by kernel_rfl⟩) (by assumption) ?_
  simp only [List.setIfInBounds_toArray, List.set_cons_succ, List.set_cons_zero]
  refine take_to (i := 30) 86 (.pointer (some ⟨w.heap.size + 1, 5, none⟩)) rfl rfl (by kernel_rfl) (by kernel_rfl) (by kernel_rfl) (fun _ _ _ h => h) (Or.inl ⟨by rfl, fun _ _ => by kernel_rfl⟩) (by assumption) ?_
  simp only [List.setIfInBounds_toArray, List.set_cons_succ, List.set_cons_zero]
  refine take_to (i := 36) 92 (.pointer (some ⟨w.heap.size + 1, 1, none⟩)) rfl rfl (by kernel_rfl) (by kernel_rfl) (by kernel_rfl) (fun _ _ _ h => h) (Or.inl ⟨by rfl, fun _ _ => by kernel_rfl⟩) (by assumption) ?_
  simp only [List.setIfInBounds_toArray, List.set_cons_succ, List.set_cons_zero]
  refine take_to (i := 44) 100 (.pointer (some ⟨w.heap.size + 1, 2, none⟩)) rfl rfl (by kernel_rfl) (by kernel_rfl) (by kernel_rfl) (fun _ _ _ h => h) (Or.inl ⟨by rfl, fun _ _ => by kernel_rfl⟩) (by assumption) ?_
  simp only [List.setIfInBounds_toArray, List.set_cons_succ, List.set_cons_zero]
  refine take_to (i := 49) 105 (.pointer (some ⟨w.heap.size + 1, 3, none⟩)) rfl rfl (by kernel_rfl) (by kernel_rfl) (by kernel_rfl) (fun _ _ _ h => h) (Or.inl ⟨by rfl, fun _ _ => by kernel_rfl⟩) (by assumption) ?_
  simp only [List.setIfInBounds_toArray, List.set_cons_succ, List.set_cons_zero]
  refine take_to (i := 2) 58 (.string (mkS r.name)) rfl rfl (by kernel_rfl) (by kernel_rfl) (by kernel_rfl) (fun _ _ _ h => h) (Or.inl ⟨by rfl, ?_⟩) (by assumption) ?_
  · (intro w' hSw; obtain ⟨e0, e1, e2, e3, e4, e5, e6, e7, e8, e9, e10, e11, e12, e13⟩ := hSw; go_simp; try with_reducible rfl)
  simp only [List.setIfInBounds_toArray, List.set_cons_succ, List.set_cons_zero]
  refine take_to (i := 6) 62 (.int .i64 r.mode) rfl rfl (by kernel_rfl) (by kernel_rfl) (by kernel_rfl) (fun _ _ _ h => h) (Or.inl ⟨by rfl, ?_⟩) (by assumption) ?_
  · (intro w' hSw; obtain ⟨e0, e1, e2, e3, e4, e5, e6, e7, e8, e9, e10, e11, e12, e13⟩ := hSw; go_simp; try with_reducible rfl)
  simp only [List.setIfInBounds_toArray, List.set_cons_succ, List.set_cons_zero]
  refine take_to (i := 11) 67 (.int .i64 r.uid) rfl rfl (by kernel_rfl) (by kernel_rfl) (by kernel_rfl) (fun _ _ _ h => h) (Or.inl ⟨by rfl, ?_⟩) (by assumption) ?_
  · (intro w' hSw; obtain ⟨e0, e1, e2, e3, e4, e5, e6, e7, e8, e9, e10, e11, e12, e13⟩ := hSw; go_simp; try with_reducible rfl)
  simp only [List.setIfInBounds_toArray, List.set_cons_succ, List.set_cons_zero]
  refine take_to (i := 16) 72 (.int .i64 r.gid) rfl rfl (by kernel_rfl) (by kernel_rfl) (by kernel_rfl) (fun _ _ _ h => h) (Or.inl ⟨by rfl, ?_⟩) (by assumption) ?_
  · (intro w' hSw; obtain ⟨e0, e1, e2, e3, e4, e5, e6, e7, e8, e9, e10, e11, e12, e13⟩ := hSw; go_simp; try with_reducible rfl)
  simp only [List.setIfInBounds_toArray, List.set_cons_succ, List.set_cons_zero]
  refine take_to (i := 21) 77 (.int .i64 r.size) rfl rfl (by kernel_rfl) (by kernel_rfl) (by kernel_rfl) (fun _ _ _ h => h) (Or.inl ⟨by rfl, ?_⟩) (by assumption) ?_
  · (intro w' hSw; obtain ⟨e0, e1, e2, e3, e4, e5, e6, e7, e8, e9, e10, e11, e12, e13⟩ := hSw; go_simp; try with_reducible rfl)
  simp only [List.setIfInBounds_toArray, List.set_cons_succ, List.set_cons_zero]
  refine take_to (i := 26) 82 (.int .i64 r.time) rfl rfl (by kernel_rfl) (by kernel_rfl) (by kernel_rfl) (fun _ _ _ h => h) (Or.inl ⟨by rfl, ?_⟩) (by assumption) ?_
  · (intro w' hSw; obtain ⟨e0, e1, e2, e3, e4, e5, e6, e7, e8, e9, e10, e11, e12, e13⟩ := hSw; go_simp; try with_reducible rfl)
  simp only [List.setIfInBounds_toArray, List.set_cons_succ, List.set_cons_zero]
  refine take_to (i := 31) 87 (.int .u8 (r.kind.toNat : Int)) rfl rfl (by kernel_rfl) (by kernel_rfl) (by kernel_rfl) (fun _ _ _ h => h) (Or.inl ⟨by rfl, ?_⟩) (by assumption) ?_
  · (intro w' hSw; obtain ⟨e0, e1, e2, e3, e4, e5, e6, e7, e8, e9, e10, e11, e12, e13⟩ := hSw; go_simp; try with_reducible rfl)
  simp only [List.setIfInBounds_toArray, List.set_cons_succ, List.set_cons_zero]
  refine take_to (i := 37) 93 (.string (mkS r.link)) rfl rfl (by kernel_rfl) (by kernel_rfl) (by kernel_rfl) (fun _ _ _ h => h) (Or.inl ⟨by rfl, ?_⟩) (by assumption) ?_
  · (intro w' hSw; obtain ⟨e0, e1, e2, e3, e4, e5, e6, e7, e8, e9, e10, e11, e12, e13⟩ := hSw; go_simp; try with_reducible rfl)
  simp only [List.setIfInBounds_toArray, List.set_cons_succ, List.set_cons_zero]
  refine take_to (i := 45) 101 (.string (mkS r.user)) rfl rfl (by kernel_rfl) (by kernel_rfl) (by kernel_rfl) (fun _ _ _ h => h) (Or.inl ⟨by rfl, ?_⟩) (by assumption) ?_
  · (intro w' hSw; obtain ⟨e0, e1, e2, e3, e4, e5, e6, e7, e8, e9, e10, e11, e12, e13⟩ := hSw; go_simp; try with_reducible rfl)
  simp only [List.setIfInBounds_toArray, List.set_cons_succ, List.set_cons_zero]
  refine take_to (i := 50) 106 (.string (mkS r.group)) rfl rfl (by kernel_rfl) (by kernel_rfl) (by kernel_rfl) (fun _ _ _ h => h) (Or.inl ⟨by rfl, ?_⟩) (by assumption) ?_
  · (intro w' hSw; obtain ⟨e0, e1, e2, e3, e4, e5, e6, e7, e8, e9, e10, e11, e12, e13⟩ := hSw; go_simp; try with_reducible rfl)
  simp only [List.setIfInBounds_toArray, List.set_cons_succ, List.set_cons_zero]
  refine take_to (i := 32) 88 (.int .i64 (r.kind.toNat : Int)) rfl rfl (by kernel_rfl) (by kernel_rfl) (by kernel_rfl) (fun _ _ _ h => h) (Or.inl ⟨by rfl, ?_⟩) (by assumption) ?_
  · (intro w' hSw; go_simp; try with_reducible rfl)
  simp only [List.setIfInBounds_toArray, List.set_cons_succ, List.set_cons_zero]
  refine take_to (i := 40) 96 (.int .i64 d) rfl rfl (by kernel_rfl) (by kernel_rfl) (by kernel_rfl) (fun _ _ _ h => h) (Or.inl ⟨by rfl, ?_⟩) (by assumption) ?_
  · (intro w' hSw; obtain ⟨e0, e1, e2, e3, e4, e5, e6, e7, e8, e9, e10, e11, e12, e13⟩ := hSw; go_simp; try with_reducible rfl)
  simp only [List.setIfInBounds_toArray, List.set_cons_succ, List.set_cons_zero]
  refine wpAnyH_ready (rs := [3]) (by kernel_rfl) (by simp) ?_
  refine AllReadyH.cons rfl (fun K hK => ?_) AllReadyH.nil
  rw [if_pos (by rfl)]
  refine call_at (R := fun v V => v = .string (mkS (txtG r.name 100)) ∧ V.heap[w.heap.size + 1 + 1]? = some (.cells #[.bool (true && txtOk r.name 100)] 4 (0, 0)) ∧ But v0.heap.size (w.heap.size + 1 + 1) v0 V) 59 rfl 232 #[.string (mkS r.name), .int .i64 100, .pointer (some ⟨w.heap.size + 1 + 1, 0, none⟩)] (by kernel_rfl) ((refWt_any r.name 100 _ true HT.out.name (by omega) _ hv0.out.box).mono (by rintro e V ⟨he, hx, hb⟩; exact ⟨_, he, rfl, hx, hb⟩)) ?_
  rintro _ v1 ⟨rfl, hx4, h4⟩
  have hv1 := Lib.hid (hv0.out.but h4 hx4)
  refine hK.out _ _ ⟨hv1.out.dl, hv1.out.row⟩ (fun hHeld2 => ?_)
  clear hK h4 hv0 hHeld
  have hHeld := hHeld2
  clear hHeld2
  clear hx4
  (try simp only [Act.put]); (try simp only [List.setIfInBounds_toArray]); (try simp only [List.set_cons_succ]); (try simp only [List.set_cons_zero])
  refine wpAnyH_ready (rs := [7]) (by kernel_rfl) (by simp) ?_
  refine AllReadyH.cons rfl (fun K hK => ?_) AllReadyH.nil
  rw [if_pos (by rfl)]
  refine call_at (R := fun v V => v = .string (mkS (numG r.mode 8 (d == 3))) ∧ V.heap[w.heap.size + 1 + 1]? = some (.cells #[.bool ((true && txtOk r.name 100) && numOk r.mode 8 (d == 3))] 4 (0, 0)) ∧ But v1.heap.size (w.heap.size + 1 + 1) v1 V) 63 rfl 233 #[.int .i64 r.mode, .int .i64 8, .pointer (some ⟨w.heap.size, 0, none⟩), .pointer (some ⟨w.heap.size + 1 + 1, 0, none⟩)] (by kernel_rfl) ((refWn_any r.mode HI.out.mode 8 d _ _ (true && txtOk r.name 100) (by omega) _ hv1.out.dl hv1.out.box).mono (by rintro e V ⟨he, hx, hb⟩; exact ⟨_, he, rfl, hx, hb⟩)) ?_
  rintro _ v2 ⟨rfl, hx4, h4⟩
  have hv2 := Lib.hid (hv1.out.but h4 hx4)
  refine hK.out _ _ ⟨hv2.out.dl, hv2.out.row⟩ (fun hHeld2 => ?_)
  clear hK h4 hv1 hHeld
  have hHeld := hHeld2
  clear hHeld2
  clear hx4
  (try simp only [Act.put]); (try simp only [List.setIfInBounds_toArray]); (try simp only [List.set_cons_succ]); (try simp only [List.set_cons_zero])
  have hc : ∀ w, (Op.stringOp .add (mkS (txtG r.name 100)) (mkS (numG r.mode 8 (d == 3)))).run Tryz.prog w = .ok (.string (mkS ((txtG r.name 100) ++ (numG r.mode 8 (d == 3))))) w := fun w => by
    have h := mkS_cat2 (txtG r.name 100) (numG r.mode 8 (d == 3)) (by (try simp only [List.length_append]); omega) w
    simpa only [List.append_assoc] using h
  refine take_to (i := 8) 64 (.string (mkS ((txtG r.name 100) ++ (numG r.mode 8 (d == 3))))) rfl rfl (by kernel_rfl) (by kernel_rfl) (by kernel_rfl) (fun _ _ _ h => h) (Or.inl ⟨by rfl, ?_⟩) (by assumption) ?_
  · (intro w' hSw; go_simp; try with_reducible rfl)
  simp only [List.setIfInBounds_toArray, List.set_cons_succ, List.set_cons_zero]
  clear hc
  refine wpAnyH_ready (rs := [12]) (by kernel_rfl) (by simp) ?_
  refine AllReadyH.cons rfl (fun K hK => ?_) AllReadyH.nil
  rw [if_pos (by rfl)]
  refine call_at (R := fun v V => v = .string (mkS (numG r.uid 8 (d == 3))) ∧ V.heap[w.heap.size + 1 + 1]? = some (.cells #[.bool (((true && txtOk r.name 100) && numOk r.mode 8 (d == 3)) && numOk r.uid 8 (d == 3))] 4 (0, 0)) ∧ But v2.heap.size (w.heap.size + 1 + 1) v2 V) 68 rfl 233 #[.int .i64 r.uid, .int .i64 8, .pointer (some ⟨w.heap.size, 0, none⟩), .pointer (some ⟨w.heap.size + 1 + 1, 0, none⟩)] (by kernel_rfl) ((refWn_any r.uid HI.out.uid 8 d _ _ ((true && txtOk r.name 100) && numOk r.mode 8 (d == 3)) (by omega) _ hv2.out.dl hv2.out.box).mono (by rintro e V ⟨he, hx, hb⟩; exact ⟨_, he, rfl, hx, hb⟩)) ?_
  rintro _ v3 ⟨rfl, hx4, h4⟩
  have hv3 := Lib.hid (hv2.out.but h4 hx4)
  refine hK.out _ _ ⟨hv3.out.dl, hv3.out.row⟩ (fun hHeld2 => ?_)
  clear hK h4 hv2 hHeld
  have hHeld := hHeld2
  clear hHeld2
  clear hx4
  (try simp only [Act.put]); (try simp only [List.setIfInBounds_toArray]); (try simp only [List.set_cons_succ]); (try simp only [List.set_cons_zero])
  have hc : ∀ w, (Op.stringOp .add (mkS ((txtG r.name 100) ++ (numG r.mode 8 (d == 3)))) (mkS (numG r.uid 8 (d == 3)))).run Tryz.prog w = .ok (.string (mkS ((txtG r.name 100) ++ ((numG r.mode 8 (d == 3)) ++ (numG r.uid 8 (d == 3)))))) w := fun w => by
    have h := mkS_cat2 ((txtG r.name 100) ++ (numG r.mode 8 (d == 3))) (numG r.uid 8 (d == 3)) (by (try simp only [List.length_append]); omega) w
    simpa only [List.append_assoc] using h
  refine take_to (i := 13) 69 (.string (mkS ((txtG r.name 100) ++ ((numG r.mode 8 (d == 3)) ++ (numG r.uid 8 (d == 3)))))) rfl rfl (by kernel_rfl) (by kernel_rfl) (by kernel_rfl) (fun _ _ _ h => h) (Or.inl ⟨by rfl, ?_⟩) (by assumption) ?_
  · (intro w' hSw; go_simp; try with_reducible rfl)
  simp only [List.setIfInBounds_toArray, List.set_cons_succ, List.set_cons_zero]
  clear hc
  refine wpAnyH_ready (rs := [17]) (by kernel_rfl) (by simp) ?_
  refine AllReadyH.cons rfl (fun K hK => ?_) AllReadyH.nil
  rw [if_pos (by rfl)]
  refine call_at (R := fun v V => v = .string (mkS (numG r.gid 8 (d == 3))) ∧ V.heap[w.heap.size + 1 + 1]? = some (.cells #[.bool ((((true && txtOk r.name 100) && numOk r.mode 8 (d == 3)) && numOk r.uid 8 (d == 3)) && numOk r.gid 8 (d == 3))] 4 (0, 0)) ∧ But v3.heap.size (w.heap.size + 1 + 1) v3 V) 73 rfl 233 #[.int .i64 r.gid, .int .i64 8, .pointer (some ⟨w.heap.size, 0, none⟩), .pointer (some ⟨w.heap.size + 1 + 1, 0, none⟩)] (by kernel_rfl) ((refWn_any r.gid HI.out.gid 8 d _ _ (((true && txtOk r.name 100) && numOk r.mode 8 (d == 3)) && numOk r.uid 8 (d == 3)) (by omega) _ hv3.out.dl hv3.out.box).mono (by rintro e V ⟨he, hx, hb⟩; exact ⟨_, he, rfl, hx, hb⟩)) ?_
  rintro _ v4 ⟨rfl, hx4, h4⟩
  have hv4 := Lib.hid (hv3.out.but h4 hx4)
  refine hK.out _ _ ⟨hv4.out.dl, hv4.out.row⟩ (fun hHeld2 => ?_)
  clear hK h4 hv3 hHeld
  have hHeld := hHeld2
  clear hHeld2
  clear hx4
  (try simp only [Act.put]); (try simp only [List.setIfInBounds_toArray]); (try simp only [List.set_cons_succ]); (try simp only [List.set_cons_zero])
  have hc : ∀ w, (Op.stringOp .add (mkS ((txtG r.name 100) ++ ((numG r.mode 8 (d == 3)) ++ (numG r.uid 8 (d == 3))))) (mkS (numG r.gid 8 (d == 3)))).run Tryz.prog w = .ok (.string (mkS ((txtG r.name 100) ++ ((numG r.mode 8 (d == 3)) ++ ((numG r.uid 8 (d == 3)) ++ (numG r.gid 8 (d == 3))))))) w := fun w => by
    have h := mkS_cat2 ((txtG r.name 100) ++ ((numG r.mode 8 (d == 3)) ++ (numG r.uid 8 (d == 3)))) (numG r.gid 8 (d == 3)) (by (try simp only [List.length_append]); omega) w
    simpa only [List.append_assoc] using h
  refine take_to (i := 18) 74 (.string (mkS ((txtG r.name 100) ++ ((numG r.mode 8 (d == 3)) ++ ((numG r.uid 8 (d == 3)) ++ (numG r.gid 8 (d == 3))))))) rfl rfl (by kernel_rfl) (by kernel_rfl) (by kernel_rfl) (fun _ _ _ h => h) (Or.inl ⟨by rfl, ?_⟩) (by assumption) ?_
  · (intro w' hSw; go_simp; try with_reducible rfl)
  simp only [List.setIfInBounds_toArray, List.set_cons_succ, List.set_cons_zero]
  clear hc
  refine wpAnyH_ready (rs := [22]) (by kernel_rfl) (by simp) ?_
  refine AllReadyH.cons rfl (fun K hK => ?_) AllReadyH.nil
  rw [if_pos (by rfl)]
  refine call_at (R := fun v V => v = .string (mkS (numG r.size 12 (d == 3))) ∧ V.heap[w.heap.size + 1 + 1]? = some (.cells #[.bool (((((true && txtOk r.name 100) && numOk r.mode 8 (d == 3)) && numOk r.uid 8 (d == 3)) && numOk r.gid 8 (d == 3)) && numOk r.size 12 (d == 3))] 4 (0, 0)) ∧ But v4.heap.size (w.heap.size + 1 + 1) v4 V) 78 rfl 233 #[.int .i64 r.size, .int .i64 12, .pointer (some ⟨w.heap.size, 0, none⟩), .pointer (some ⟨w.heap.size + 1 + 1, 0, none⟩)] (by kernel_rfl) ((refWn_any r.size HI.out.size 12 d _ _ ((((true && txtOk r.name 100) && numOk r.mode 8 (d == 3)) && numOk r.uid 8 (d == 3)) && numOk r.gid 8 (d == 3)) (by omega) _ hv4.out.dl hv4.out.box).mono (by rintro e V ⟨he, hx, hb⟩; exact ⟨_, he, rfl, hx, hb⟩)) ?_
  rintro _ v5 ⟨rfl, hx4, h4⟩
  have hv5 := Lib.hid (hv4.out.but h4 hx4)
  refine hK.out _ _ ⟨hv5.out.dl, hv5.out.row⟩ (fun hHeld2 => ?_)
  clear hK h4 hv4 hHeld
  have hHeld := hHeld2
  clear hHeld2
  clear hx4
  (try simp only [Act.put]); (try simp only [List.setIfInBounds_toArray]); (try simp only [List.set_cons_succ]); (try simp only [List.set_cons_zero])
  have hc : ∀ w, (Op.stringOp .add (mkS ((txtG r.name 100) ++ ((numG r.mode 8 (d == 3)) ++ ((numG r.uid 8 (d == 3)) ++ (numG r.gid 8 (d == 3)))))) (mkS (numG r.size 12 (d == 3)))).run Tryz.prog w = .ok (.string (mkS ((txtG r.name 100) ++ ((numG r.mode 8 (d == 3)) ++ ((numG r.uid 8 (d == 3)) ++ ((numG r.gid 8 (d == 3)) ++ (numG r.size 12 (d == 3)))))))) w := fun w => by
    have h := mkS_cat2 ((txtG r.name 100) ++ ((numG r.mode 8 (d == 3)) ++ ((numG r.uid 8 (d == 3)) ++ (numG r.gid 8 (d == 3))))) (numG r.size 12 (d == 3)) (by (try simp only [List.length_append]); omega) w
    simpa only [List.append_assoc] using h
  refine take_to (i := 23) 79 (.string (mkS ((txtG r.name 100) ++ ((numG r.mode 8 (d == 3)) ++ ((numG r.uid 8 (d == 3)) ++ ((numG r.gid 8 (d == 3)) ++ (numG r.size 12 (d == 3)))))))) rfl rfl (by kernel_rfl) (by kernel_rfl) (by kernel_rfl) (fun _ _ _ h => h) (Or.inl ⟨by rfl, ?_⟩) (by assumption) ?_
  · (intro w' hSw; go_simp; try with_reducible rfl)
  simp only [List.setIfInBounds_toArray, List.set_cons_succ, List.set_cons_zero]
  clear hc
  refine wpAnyH_ready (rs := [27]) (by kernel_rfl) (by simp) ?_
  refine AllReadyH.cons rfl (fun K hK => ?_) AllReadyH.nil
  rw [if_pos (by rfl)]
  refine call_at (R := fun v V => v = .string (mkS (numG r.time 12 (d == 3))) ∧ V.heap[w.heap.size + 1 + 1]? = some (.cells #[.bool ((((((true && txtOk r.name 100) && numOk r.mode 8 (d == 3)) && numOk r.uid 8 (d == 3)) && numOk r.gid 8 (d == 3)) && numOk r.size 12 (d == 3)) && numOk r.time 12 (d == 3))] 4 (0, 0)) ∧ But v5.heap.size (w.heap.size + 1 + 1) v5 V) 83 rfl 233 #[.int .i64 r.time, .int .i64 12, .pointer (some ⟨w.heap.size, 0, none⟩), .pointer (some ⟨w.heap.size + 1 + 1, 0, none⟩)] (by kernel_rfl) ((refWn_any r.time HI.out.time 12 d _ _ (((((true && txtOk r.name 100) && numOk r.mode 8 (d == 3)) && numOk r.uid 8 (d == 3)) && numOk r.gid 8 (d == 3)) && numOk r.size 12 (d == 3)) (by omega) _ hv5.out.dl hv5.out.box).mono (by rintro e V ⟨he, hx, hb⟩; exact ⟨_, he, rfl, hx, hb⟩)) ?_
  rintro _ v6 ⟨rfl, hx4, h4⟩
  have hv6 := Lib.hid (hv5.out.but h4 hx4)
  refine hK.out _ _ ⟨hv6.out.dl, hv6.out.row⟩ (fun hHeld2 => ?_)
  clear hK h4 hv5 hHeld
  have hHeld := hHeld2
  clear hHeld2
  clear hx4
  (try simp only [Act.put]); (try simp only [List.setIfInBounds_toArray]); (try simp only [List.set_cons_succ]); (try simp only [List.set_cons_zero])
  have hc : ∀ w, (Op.stringOp .add (mkS ((txtG r.name 100) ++ ((numG r.mode 8 (d == 3)) ++ ((numG r.uid 8 (d == 3)) ++ ((numG r.gid 8 (d == 3)) ++ (numG r.size 12 (d == 3))))))) (mkS (numG r.time 12 (d == 3)))).run Tryz.prog w = .ok (.string (mkS ((txtG r.name 100) ++ ((numG r.mode 8 (d == 3)) ++ ((numG r.uid 8 (d == 3)) ++ ((numG r.gid 8 (d == 3)) ++ ((numG r.size 12 (d == 3)) ++ (numG r.time 12 (d == 3))))))))) w := fun w => by
    have h := mkS_cat2 ((txtG r.name 100) ++ ((numG r.mode 8 (d == 3)) ++ ((numG r.uid 8 (d == 3)) ++ ((numG r.gid 8 (d == 3)) ++ (numG r.size 12 (d == 3)))))) (numG r.time 12 (d == 3)) (by (try simp only [List.length_append]); omega) w
    simpa only [List.append_assoc] using h
  refine take_to (i := 28) 84 (.string (mkS ((txtG r.name 100) ++ ((numG r.mode 8 (d == 3)) ++ ((numG r.uid 8 (d == 3)) ++ ((numG r.gid 8 (d == 3)) ++ ((numG r.size 12 (d == 3)) ++ (numG r.time 12 (d == 3))))))))) rfl rfl (by kernel_rfl) (by kernel_rfl) (by kernel_rfl) (fun _ _ _ h => h) (Or.inl ⟨by rfl, ?_⟩) (by assumption) ?_
  · (intro w' hSw; go_simp; try with_reducible rfl)
  simp only [List.setIfInBounds_toArray, List.set_cons_succ, List.set_cons_zero]
  clear hc
  have hc : ∀ w, (Op.stringOp .add (mkS ((txtG r.name 100) ++ ((numG r.mode 8 (d == 3)) ++ ((numG r.uid 8 (d == 3)) ++ ((numG r.gid 8 (d == 3)) ++ ((numG r.size 12 (d == 3)) ++ (numG r.time 12 (d == 3)))))))) (mkS (SP))).run Tryz.prog w = .ok (.string (mkS ((txtG r.name 100) ++ ((numG r.mode 8 (d == 3)) ++ ((numG r.uid 8 (d == 3)) ++ ((numG r.gid 8 (d == 3)) ++ ((numG r.size 12 (d == 3)) ++ ((numG r.time 12 (d == 3)) ++ (SP))))))))) w := fun w => by
    have h := mkS_cat2 ((txtG r.name 100) ++ ((numG r.mode 8 (d == 3)) ++ ((numG r.uid 8 (d == 3)) ++ ((numG r.gid 8 (d == 3)) ++ ((numG r.size 12 (d == 3)) ++ (numG r.time 12 (d == 3))))))) (SP) (by (try simp only [List.length_append]); omega) w
    simpa only [List.append_assoc] using h
  rw [show mkS SP = ⟨#[32, 32, 32, 32, 32, 32, 32, 32]⟩ by rw [HSP.out]; rfl] at hc
  refine take_to (i := 29) 85 (.string (mkS ((txtG r.name 100) ++ ((numG r.mode 8 (d == 3)) ++ ((numG r.uid 8 (d == 3)) ++ ((numG r.gid 8 (d == 3)) ++ ((numG r.size 12 (d == 3)) ++ ((numG r.time 12 (d == 3)) ++ (SP))))))))) rfl rfl (by kernel_rfl) (by kernel_rfl) (by kernel_rfl) (fun _ _ _ h => h) (Or.inl ⟨by rfl, ?_⟩) (by assumption) ?_
  · (intro w' hSw; go_simp; try with_reducible rfl)
  simp only [List.setIfInBounds_toArray, List.set_cons_succ, List.set_cons_zero]
  clear hc
  refine wpAnyH_ready (rs := [33]) (by kernel_rfl) (by simp) ?_
  refine AllReadyH.cons rfl (fun K hK => ?_) AllReadyH.nil
  rw [if_pos (by rfl)]
  refine call_at (R := fun v V => v = .string (mkS KL) ∧ Below v6.heap.size v6 V) 89 rfl 162 #[.int .i64 (r.kind.toNat : Int)] (by kernel_rfl) ((HKC.out _).mono (by rintro e V ⟨he, hb⟩; exact ⟨_, he, rfl, hb⟩)) ?_
  rintro _ v7 ⟨rfl, h4⟩
  have hv7 := Lib.hid (hv6.out.text h4)
  refine hK.out _ _ ⟨hv7.out.dl, hv7.out.row⟩ (fun hHeld2 => ?_)
  clear hK h4 hv6 hHeld
  have hHeld := hHeld2
  clear hHeld2
  (try simp only [Act.put]); (try simp only [List.setIfInBounds_toArray]); (try simp only [List.set_cons_succ]); (try simp only [List.set_cons_zero])
  have hc : ∀ w, (Op.stringOp .add (mkS ((txtG r.name 100) ++ ((numG r.mode 8 (d == 3)) ++ ((numG r.uid 8 (d == 3)) ++ ((numG r.gid 8 (d == 3)) ++ ((numG r.size 12 (d == 3)) ++ ((numG r.time 12 (d == 3)) ++ (SP)))))))) (mkS (KL))).run Tryz.prog w = .ok (.string (mkS ((txtG r.name 100) ++ ((numG r.mode 8 (d == 3)) ++ ((numG r.uid 8 (d == 3)) ++ ((numG r.gid 8 (d == 3)) ++ ((numG r.size 12 (d == 3)) ++ ((numG r.time 12 (d == 3)) ++ ((SP) ++ (KL)))))))))) w := fun w => by
    have h := mkS_cat2 ((txtG r.name 100) ++ ((numG r.mode 8 (d == 3)) ++ ((numG r.uid 8 (d == 3)) ++ ((numG r.gid 8 (d == 3)) ++ ((numG r.size 12 (d == 3)) ++ ((numG r.time 12 (d == 3)) ++ (SP))))))) (KL) (by (try simp only [List.length_append]); omega) w
    simpa only [List.append_assoc] using h
  refine take_to (i := 34) 90 (.string (mkS ((txtG r.name 100) ++ ((numG r.mode 8 (d == 3)) ++ ((numG r.uid 8 (d == 3)) ++ ((numG r.gid 8 (d == 3)) ++ ((numG r.size 12 (d == 3)) ++ ((numG r.time 12 (d == 3)) ++ ((SP) ++ (KL)))))))))) rfl rfl (by kernel_rfl) (by kernel_rfl) (by kernel_rfl) (fun _ _ _ h => h) (Or.inl ⟨by rfl, ?_⟩) (by assumption) ?_
  · (intro w' hSw; go_simp; try with_reducible rfl)
  simp only [List.setIfInBounds_toArray, List.set_cons_succ, List.set_cons_zero]
  clear hc
  refine wpAnyH_ready (rs := [38]) (by kernel_rfl) (by simp) ?_
  refine AllReadyH.cons rfl (fun K hK => ?_) AllReadyH.nil
  rw [if_pos (by rfl)]
  refine call_at (R := fun v V => v = .string (mkS (txtG r.link 100)) ∧ V.heap[w.heap.size + 1 + 1]? = some (.cells #[.bool (((((((true && txtOk r.name 100) && numOk r.mode 8 (d == 3)) && numOk r.uid 8 (d == 3)) && numOk r.gid 8 (d == 3)) && numOk r.size 12 (d == 3)) && numOk r.time 12 (d == 3)) && txtOk r.link 100)] 4 (0, 0)) ∧ But v7.heap.size (w.heap.size + 1 + 1) v7 V) 94 rfl 232 #[.string (mkS r.link), .int .i64 100, .pointer (some ⟨w.heap.size + 1 + 1, 0, none⟩)] (by kernel_rfl) ((refWt_any r.link 100 _ ((((((true && txtOk r.name 100) && numOk r.mode 8 (d == 3)) && numOk r.uid 8 (d == 3)) && numOk r.gid 8 (d == 3)) && numOk r.size 12 (d == 3)) && numOk r.time 12 (d == 3)) HT.out.link (by omega) _ hv7.out.box).mono (by rintro e V ⟨he, hx, hb⟩; exact ⟨_, he, rfl, hx, hb⟩)) ?_
  rintro _ v8 ⟨rfl, hx4, h4⟩
  have hv8 := Lib.hid (hv7.out.but h4 hx4)
  refine hK.out _ _ ⟨hv8.out.dl, hv8.out.row⟩ (fun hHeld2 => ?_)
  clear hK h4 hv7 hHeld
  have hHeld := hHeld2
  clear hHeld2
  clear hx4
  (try simp only [Act.put]); (try simp only [List.setIfInBounds_toArray]); (try simp only [List.set_cons_succ]); (try simp only [List.set_cons_zero])
  have hc : ∀ w, (Op.stringOp .add (mkS ((txtG r.name 100) ++ ((numG r.mode 8 (d == 3)) ++ ((numG r.uid 8 (d == 3)) ++ ((numG r.gid 8 (d == 3)) ++ ((numG r.size 12 (d == 3)) ++ ((numG r.time 12 (d == 3)) ++ ((SP) ++ (KL))))))))) (mkS (txtG r.link 100))).run Tryz.prog w = .ok (.string (mkS ((txtG r.name 100) ++ ((numG r.mode 8 (d == 3)) ++ ((numG r.uid 8 (d == 3)) ++ ((numG r.gid 8 (d == 3)) ++ ((numG r.size 12 (d == 3)) ++ ((numG r.time 12 (d == 3)) ++ ((SP) ++ ((KL) ++ (txtG r.link 100))))))))))) w := fun w => by
    have h := mkS_cat2 ((txtG r.name 100) ++ ((numG r.mode 8 (d == 3)) ++ ((numG r.uid 8 (d == 3)) ++ ((numG r.gid 8 (d == 3)) ++ ((numG r.size 12 (d == 3)) ++ ((numG r.time 12 (d == 3)) ++ ((SP) ++ (KL)))))))) (txtG r.link 100) (by (try simp only [List.length_append]); omega) w
    simpa only [List.append_assoc] using h
  refine take_to (i := 39) 95 (.string (mkS ((txtG r.name 100) ++ ((numG r.mode 8 (d == 3)) ++ ((numG r.uid 8 (d == 3)) ++ ((numG r.gid 8 (d == 3)) ++ ((numG r.size 12 (d == 3)) ++ ((numG r.time 12 (d == 3)) ++ ((SP) ++ ((KL) ++ (txtG r.link 100))))))))))) rfl rfl (by kernel_rfl) (by kernel_rfl) (by kernel_rfl) (fun _ _ _ h => h) (Or.inl ⟨by rfl, ?_⟩) (by assumption) ?_
  · (intro w' hSw; go_simp; try with_reducible rfl)
  simp only [List.setIfInBounds_toArray, List.set_cons_succ, List.set_cons_zero]
  clear hc
  refine wpAnyH_ready (rs := [41]) (by kernel_rfl) (by simp) ?_
  refine AllReadyH.cons rfl (fun K hK => ?_) AllReadyH.nil
  rw [if_pos (by rfl)]
  refine call_at (R := fun v V => v = .string (mkS (magicL d.toNat)) ∧ Below v8.heap.size v8 V) 97 rfl 65 #[.int .i64 d] (by kernel_rfl) ((refMagic_any d HD.out _).mono (by rintro e V ⟨he, hb⟩; exact ⟨_, he, rfl, hb⟩)) ?_
  rintro _ v9 ⟨rfl, h4⟩
  have hv9 := Lib.hid (hv8.out.text h4)
  refine hK.out _ _ ⟨hv9.out.dl, hv9.out.row⟩ (fun hHeld2 => ?_)
  clear hK h4 hv8 hHeld
  have hHeld := hHeld2
  clear hHeld2
  (try simp only [Act.put]); (try simp only [List.setIfInBounds_toArray]); (try simp only [List.set_cons_succ]); (try simp only [List.set_cons_zero])
  have hc : ∀ w, (Op.stringOp .add (mkS ((txtG r.name 100) ++ ((numG r.mode 8 (d == 3)) ++ ((numG r.uid 8 (d == 3)) ++ ((numG r.gid 8 (d == 3)) ++ ((numG r.size 12 (d == 3)) ++ ((numG r.time 12 (d == 3)) ++ ((SP) ++ ((KL) ++ (txtG r.link 100)))))))))) (mkS (magicL d.toNat))).run Tryz.prog w = .ok (.string (mkS ((txtG r.name 100) ++ ((numG r.mode 8 (d == 3)) ++ ((numG r.uid 8 (d == 3)) ++ ((numG r.gid 8 (d == 3)) ++ ((numG r.size 12 (d == 3)) ++ ((numG r.time 12 (d == 3)) ++ ((SP) ++ ((KL) ++ ((txtG r.link 100) ++ (magicL d.toNat)))))))))))) w := fun w => by
    have h := mkS_cat2 ((txtG r.name 100) ++ ((numG r.mode 8 (d == 3)) ++ ((numG r.uid 8 (d == 3)) ++ ((numG r.gid 8 (d == 3)) ++ ((numG r.size 12 (d == 3)) ++ ((numG r.time 12 (d == 3)) ++ ((SP) ++ ((KL) ++ (txtG r.link 100))))))))) (magicL d.toNat) (by (try simp only [List.length_append]); omega) w
    simpa only [List.append_assoc] using h
  refine take_to (i := 42) 98 (.string (mkS ((txtG r.name 100) ++ ((numG r.mode 8 (d == 3)) ++ ((numG r.uid 8 (d == 3)) ++ ((numG r.gid 8 (d == 3)) ++ ((numG r.size 12 (d == 3)) ++ ((numG r.time 12 (d == 3)) ++ ((SP) ++ ((KL) ++ ((txtG r.link 100) ++ (magicL d.toNat)))))))))))) rfl rfl (by kernel_rfl) (by kernel_rfl) (by kernel_rfl) (fun _ _ _ h => h) (Or.inl ⟨by rfl, ?_⟩) (by assumption) ?_
  · (intro w' hSw; go_simp; try with_reducible rfl)
  simp only [List.setIfInBounds_toArray, List.set_cons_succ, List.set_cons_zero]
  clear hc
  refine wpAnyH_ready (rs := [46]) (by kernel_rfl) (by simp) ?_
  refine AllReadyH.cons rfl (fun K hK => ?_) AllReadyH.nil
  rw [if_pos (by rfl)]
  refine call_at (R := fun v V => v = .string (mkS (txtG r.user 32)) ∧ V.heap[w.heap.size + 1 + 1]? = some (.cells #[.bool ((((((((true && txtOk r.name 100) && numOk r.mode 8 (d == 3)) && numOk r.uid 8 (d == 3)) && numOk r.gid 8 (d == 3)) && numOk r.size 12 (d == 3)) && numOk r.time 12 (d == 3)) && txtOk r.link 100) && txtOk r.user 32)] 4 (0, 0)) ∧ But v9.heap.size (w.heap.size + 1 + 1) v9 V) 102 rfl 232 #[.string (mkS r.user), .int .i64 32, .pointer (some ⟨w.heap.size + 1 + 1, 0, none⟩)] (by kernel_rfl) ((refWt_any r.user 32 _ (((((((true && txtOk r.name 100) && numOk r.mode 8 (d == 3)) && numOk r.uid 8 (d == 3)) && numOk r.gid 8 (d == 3)) && numOk r.size 12 (d == 3)) && numOk r.time 12 (d == 3)) && txtOk r.link 100) HT.out.user (by omega) _ hv9.out.box).mono (by rintro e V ⟨he, hx, hb⟩; exact ⟨_, he, rfl, hx, hb⟩)) ?_
  rintro _ v10 ⟨rfl, hx4, h4⟩
  have hv10 := Lib.hid (hv9.out.but h4 hx4)
  refine hK.out _ _ ⟨hv10.out.dl, hv10.out.row⟩ (fun hHeld2 => ?_)
  clear hK h4 hv9 hHeld
  have hHeld := hHeld2
  clear hHeld2
  clear hx4
  (try simp only [Act.put]); (try simp only [List.setIfInBounds_toArray]); (try simp only [List.set_cons_succ]); (try simp only [List.set_cons_zero])
  have hc : ∀ w, (Op.stringOp .add (mkS ((txtG r.name 100) ++ ((numG r.mode 8 (d == 3)) ++ ((numG r.uid 8 (d == 3)) ++ ((numG r.gid 8 (d == 3)) ++ ((numG r.size 12 (d == 3)) ++ ((numG r.time 12 (d == 3)) ++ ((SP) ++ ((KL) ++ ((txtG r.link 100) ++ (magicL d.toNat))))))))))) (mkS (txtG r.user 32))).run Tryz.prog w = .ok (.string (mkS ((txtG r.name 100) ++ ((numG r.mode 8 (d == 3)) ++ ((numG r.uid 8 (d == 3)) ++ ((numG r.gid 8 (d == 3)) ++ ((numG r.size 12 (d == 3)) ++ ((numG r.time 12 (d == 3)) ++ ((SP) ++ ((KL) ++ ((txtG r.link 100) ++ ((magicL d.toNat) ++ (txtG r.user 32))))))))))))) w := fun w => by
    have h := mkS_cat2 ((txtG r.name 100) ++ ((numG r.mode 8 (d == 3)) ++ ((numG r.uid 8 (d == 3)) ++ ((numG r.gid 8 (d == 3)) ++ ((numG r.size 12 (d == 3)) ++ ((numG r.time 12 (d == 3)) ++ ((SP) ++ ((KL) ++ ((txtG r.link 100) ++ (magicL d.toNat)))))))))) (txtG r.user 32) (by (try simp only [List.length_append]); omega) w
    simpa only [List.append_assoc] using h
  refine take_to (i := 47) 103 (.string (mkS ((txtG r.name 100) ++ ((numG r.mode 8 (d == 3)) ++ ((numG r.uid 8 (d == 3)) ++ ((numG r.gid 8 (d == 3)) ++ ((numG r.size 12 (d == 3)) ++ ((numG r.time 12 (d == 3)) ++ ((SP) ++ ((KL) ++ ((txtG r.link 100) ++ ((magicL d.toNat) ++ (txtG r.user 32))))))))))))) rfl rfl (by kernel_rfl) (by kernel_rfl) (by kernel_rfl) (fun _ _ _ h => h) (Or.inl ⟨by rfl, ?_⟩) (by assumption) ?_
  · (intro w' hSw; go_simp; try with_reducible rfl)
  simp only [List.setIfInBounds_toArray, List.set_cons_succ, List.set_cons_zero]
  clear hc
  refine wpAnyH_ready (rs := [51]) (by kernel_rfl) (by simp) ?_
  refine AllReadyH.cons rfl (fun K hK => ?_) AllReadyH.nil
  rw [if_pos (by rfl)]
  refine call_at (R := fun v V => v = .string (mkS (txtG r.group 32)) ∧ V.heap[w.heap.size + 1 + 1]? = some (.cells #[.bool (((((((((true && txtOk r.name 100) && numOk r.mode 8 (d == 3)) && numOk r.uid 8 (d == 3)) && numOk r.gid 8 (d == 3)) && numOk r.size 12 (d == 3)) && numOk r.time 12 (d == 3)) && txtOk r.link 100) && txtOk r.user 32) && txtOk r.group 32)] 4 (0, 0)) ∧ But v10.heap.size (w.heap.size + 1 + 1) v10 V) 107 rfl 232 #[.string (mkS r.group), .int .i64 32, .pointer (some ⟨w.heap.size + 1 + 1, 0, none⟩)] (by kernel_rfl) ((refWt_any r.group 32 _ ((((((((true && txtOk r.name 100) && numOk r.mode 8 (d == 3)) && numOk r.uid 8 (d == 3)) && numOk r.gid 8 (d == 3)) && numOk r.size 12 (d == 3)) && numOk r.time 12 (d == 3)) && txtOk r.link 100) && txtOk r.user 32) HT.out.group (by omega) _ hv10.out.box).mono (by rintro e V ⟨he, hx, hb⟩; exact ⟨_, he, rfl, hx, hb⟩)) ?_
  rintro _ v11 ⟨rfl, hx4, h4⟩
  have hv11 := Lib.hid (hv10.out.but h4 hx4)
  refine hK.out _ _ ⟨hv11.out.dl, hv11.out.row⟩ (fun hHeld2 => ?_)
  clear hK h4 hv10 hHeld
  have hHeld := hHeld2
  clear hHeld2
  clear hx4
  (try simp only [Act.put]); (try simp only [List.setIfInBounds_toArray]); (try simp only [List.set_cons_succ]); (try simp only [List.set_cons_zero])
  have hc : ∀ w, (Op.stringOp .add (mkS ((txtG r.name 100) ++ ((numG r.mode 8 (d == 3)) ++ ((numG r.uid 8 (d == 3)) ++ ((numG r.gid 8 (d == 3)) ++ ((numG r.size 12 (d == 3)) ++ ((numG r.time 12 (d == 3)) ++ ((SP) ++ ((KL) ++ ((txtG r.link 100) ++ ((magicL d.toNat) ++ (txtG r.user 32)))))))))))) (mkS (txtG r.group 32))).run Tryz.prog w = .ok (.string (mkS ((txtG r.name 100) ++ ((numG r.mode 8 (d == 3)) ++ ((numG r.uid 8 (d == 3)) ++ ((numG r.gid 8 (d == 3)) ++ ((numG r.size 12 (d == 3)) ++ ((numG r.time 12 (d == 3)) ++ ((SP) ++ ((KL) ++ ((txtG r.link 100) ++ ((magicL d.toNat) ++ ((txtG r.user 32) ++ (txtG r.group 32)))))))))))))) w := fun w => by
    have h := mkS_cat2 ((txtG r.name 100) ++ ((numG r.mode 8 (d == 3)) ++ ((numG r.uid 8 (d == 3)) ++ ((numG r.gid 8 (d == 3)) ++ ((numG r.size 12 (d == 3)) ++ ((numG r.time 12 (d == 3)) ++ ((SP) ++ ((KL) ++ ((txtG r.link 100) ++ ((magicL d.toNat) ++ (txtG r.user 32))))))))))) (txtG r.group 32) (by (try simp only [List.length_append]); omega) w
    simpa only [List.append_assoc] using h
  refine take_to (i := 52) 108 (.string (mkS ((txtG r.name 100) ++ ((numG r.mode 8 (d == 3)) ++ ((numG r.uid 8 (d == 3)) ++ ((numG r.gid 8 (d == 3)) ++ ((numG r.size 12 (d == 3)) ++ ((numG r.time 12 (d == 3)) ++ ((SP) ++ ((KL) ++ ((txtG r.link 100) ++ ((magicL d.toNat) ++ ((txtG r.user 32) ++ (txtG r.group 32)))))))))))))) rfl rfl (by kernel_rfl) (by kernel_rfl) (by kernel_rfl) (fun _ _ _ h => h) (Or.inl ⟨by rfl, ?_⟩) (by assumption) ?_
  · (intro w' hSw; go_simp; try with_reducible rfl)
  simp only [List.setIfInBounds_toArray, List.set_cons_succ, List.set_cons_zero]
  clear hc
  refine take_to (i := 53) 9 (.string (mkS ((txtG r.name 100) ++ ((numG r.mode 8 (d == 3)) ++ ((numG r.uid 8 (d == 3)) ++ ((numG r.gid 8 (d == 3)) ++ ((numG r.size 12 (d == 3)) ++ ((numG r.time 12 (d == 3)) ++ ((SP) ++ ((KL) ++ ((txtG r.link 100) ++ ((magicL d.toNat) ++ ((txtG r.user 32) ++ (txtG r.group 32)))))))))))))) rfl rfl (by kernel_rfl) (by kernel_rfl) (by kernel_rfl) (fun _ _ _ h => h) (Or.inl ⟨by rfl, fun _ _ => rfl⟩) (by assumption) ?_
  simp only [List.setIfInBounds_toArray, List.set_cons_succ, List.set_cons_zero]
  refine wpAnyH_done (by kernel_rfl) ?_ _
  have n1 := N1.out
  have n3 := N3.out
  go_wp2_with fail
  obtain ⟨AA, hAA⟩ : ∃ s : List UInt8, s = (txtG r.name 100) ++ ((numG r.mode 8 (d == 3)) ++ ((numG r.uid 8 (d == 3)) ++ ((numG r.gid 8 (d == 3)) ++ ((numG r.size 12 (d == 3)) ++ ((numG r.time 12 (d == 3)) ++ ((SP) ++ ((KL) ++ ((txtG r.link 100) ++ ((magicL d.toNat) ++ ((txtG r.user 32) ++ (txtG r.group 32))))))))))) := ⟨_, rfl⟩
  rw [← hAA]
  have HAA := Lib.hid hAA
  have lA : AA.length ≤ 400 := by rw [hAA]; simp only [List.length_append]; omega
  clear hAA
  have N1 := Lib.hid n1
  have N3 := Lib.hid n3
  clear n1 n3
  refine wp_region_held_drew (S := fun w' => w'.cell? ⟨w.heap.size, 0, none⟩ = some (.int .i64 d) ∧ RawAt w' (w.heap.size + 1) r) (by kernel_rfl) ⟨hv11.out.drew.dl, hv11.out.drew.row⟩ (fun hHeld => ?_)
  have hv11d := Lib.hid hv11.out.drew
  generalize v11.drew = v11d at *
  refine take_to (i := 0) 114 (.string (mkS AA)) rfl rfl (by kernel_rfl) (by kernel_rfl) (by kernel_rfl) (fun _ _ _ h => h) (Or.inl ⟨by rfl, fun _ _ => rfl⟩) (by assumption) ?_
  simp only [List.setIfInBounds_toArray, List.set_cons_succ, List.set_cons_zero]
  refine take_to (i := 1) 115 (.func (.func 233) #[] #[.pointer (some ⟨w.heap.size, 0, none⟩), .pointer (some ⟨w.heap.size + 1 + 1, 0, none⟩)]) rfl rfl (by kernel_rfl) (by kernel_rfl) (by kernel_rfl) (fun _ _ _ h => h) (Or.inl ⟨by rfl, fun _ _ => rfl⟩) (by assumption) ?_
  simp only [List.setIfInBounds_toArray, List.set_cons_succ, List.set_cons_zero]
  refine take_to (i := 5) 119 (.func (.func 233) #[] #[.pointer (some ⟨w.heap.size, 0, none⟩), .pointer (some ⟨w.heap.size + 1 + 1, 0, none⟩)]) rfl rfl (by kernel_rfl) (by kernel_rfl) (by kernel_rfl) (fun _ _ _ h => h) (Or.inl ⟨by rfl, fun _ _ => rfl⟩) (by assumption) ?_
  simp only [List.setIfInBounds_toArray, List.set_cons_succ, List.set_cons_zero]
  refine take_to (i := 2) 116 (.pointer (some ⟨w.heap.size + 1, 11, none⟩)) rfl rfl (by kernel_rfl) (by kernel_rfl) (by kernel_rfl) (fun _ _ _ h => h) (Or.inl ⟨by rfl, fun _ _ => by kernel_rfl⟩) (by assumption) ?_
  simp only [List.setIfInBounds_toArray, List.set_cons_succ, List.set_cons_zero]
  refine take_to (i := 6) 120 (.pointer (some ⟨w.heap.size + 1, 12, none⟩)) rfl rfl (by kernel_rfl) (by kernel_rfl) (by kernel_rfl) (fun _ _ _ h => h) (Or.inl ⟨by rfl, fun _ _ => by kernel_rfl⟩) (by assumption) ?_
  simp only [List.setIfInBounds_toArray, List.set_cons_succ, List.set_cons_zero]
  refine take_to (i := 3) 117 (.int .i64 r.major) rfl rfl (by kernel_rfl) (by kernel_rfl) (by kernel_rfl) (fun _ _ _ h => h) (Or.inl ⟨by rfl, ?_⟩) (by assumption) ?_
  · (intro w' hSw; obtain ⟨e0, e1, e2, e3, e4, e5, e6, e7, e8, e9, e10, e11, e12, e13⟩ := hSw; go_simp; try with_reducible rfl)
  simp only [List.setIfInBounds_toArray, List.set_cons_succ, List.set_cons_zero]
  refine take_to (i := 7) 121 (.int .i64 r.minor) rfl rfl (by kernel_rfl) (by kernel_rfl) (by kernel_rfl) (fun _ _ _ h => h) (Or.inl ⟨by rfl, ?_⟩) (by assumption) ?_
  · (intro w' hSw; obtain ⟨e0, e1, e2, e3, e4, e5, e6, e7, e8, e9, e10, e11, e12, e13⟩ := hSw; go_simp; try with_reducible rfl)
  simp only [List.setIfInBounds_toArray, List.set_cons_succ, List.set_cons_zero]
  refine wpAnyH_ready (rs := [4]) (by kernel_rfl) (by simp) ?_
  refine AllReadyH.cons rfl (fun K hK => ?_) AllReadyH.nil
  rw [if_pos (by rfl)]
  refine call_at (R := fun v V => v = .string (mkS (numG r.major 8 (d == 3))) ∧ V.heap[w.heap.size + 1 + 1]? = some (.cells #[.bool ((((((((((true && txtOk r.name 100) && numOk r.mode 8 (d == 3)) && numOk r.uid 8 (d == 3)) && numOk r.gid 8 (d == 3)) && numOk r.size 12 (d == 3)) && numOk r.time 12 (d == 3)) && txtOk r.link 100) && txtOk r.user 32) && txtOk r.group 32) && numOk r.major 8 (d == 3))] 4 (0, 0)) ∧ But v11d.heap.size (w.heap.size + 1 + 1) v11d V) 118 rfl 233 #[.int .i64 r.major, .int .i64 8, .pointer (some ⟨w.heap.size, 0, none⟩), .pointer (some ⟨w.heap.size + 1 + 1, 0, none⟩)] (by kernel_rfl) ((refWn_any r.major HI.out.major 8 d _ _ (((((((((true && txtOk r.name 100) && numOk r.mode 8 (d == 3)) && numOk r.uid 8 (d == 3)) && numOk r.gid 8 (d == 3)) && numOk r.size 12 (d == 3)) && numOk r.time 12 (d == 3)) && txtOk r.link 100) && txtOk r.user 32) && txtOk r.group 32) (by omega) _ hv11d.out.dl hv11d.out.box).mono (by rintro e V ⟨he, hx, hb⟩; exact ⟨_, he, rfl, hx, hb⟩)) ?_
  rintro _ v12 ⟨rfl, hx4, h4⟩
  have hv12 := Lib.hid (hv11d.out.but h4 hx4)
  refine hK.out _ _ ⟨hv12.out.dl, hv12.out.row⟩ (fun hHeld2 => ?_)
  clear hK h4 hv11d hHeld
  have hHeld := hHeld2
  clear hHeld2
  clear hx4
  (try simp only [Act.put]); (try simp only [List.setIfInBounds_toArray]); (try simp only [List.set_cons_succ]); (try simp only [List.set_cons_zero])
  refine wpAnyH_ready (rs := [8]) (by kernel_rfl) (by simp) ?_
  refine AllReadyH.cons rfl (fun K hK => ?_) AllReadyH.nil
  rw [if_pos (by rfl)]
  refine call_at (R := fun v V => v = .string (mkS (numG r.minor 8 (d == 3))) ∧ V.heap[w.heap.size + 1 + 1]? = some (.cells #[.bool (((((((((((true && txtOk r.name 100) && numOk r.mode 8 (d == 3)) && numOk r.uid 8 (d == 3)) && numOk r.gid 8 (d == 3)) && numOk r.size 12 (d == 3)) && numOk r.time 12 (d == 3)) && txtOk r.link 100) && txtOk r.user 32) && txtOk r.group 32) && numOk r.major 8 (d == 3)) && numOk r.minor 8 (d == 3))] 4 (0, 0)) ∧ But v12.heap.size (w.heap.size + 1 + 1) v12 V) 122 rfl 233 #[.int .i64 r.minor, .int .i64 8, .pointer (some ⟨w.heap.size, 0, none⟩), .pointer (some ⟨w.heap.size + 1 + 1, 0, none⟩)] (by kernel_rfl) ((refWn_any r.minor HI.out.minor 8 d _ _ ((((((((((true && txtOk r.name 100) && numOk r.mode 8 (d == 3)) && numOk r.uid 8 (d == 3)) && numOk r.gid 8 (d == 3)) && numOk r.size 12 (d == 3)) && numOk r.time 12 (d == 3)) && txtOk r.link 100) && txtOk r.user 32) && txtOk r.group 32) && numOk r.major 8 (d == 3)) (by omega) _ hv12.out.dl hv12.out.box).mono (by rintro e V ⟨he, hx, hb⟩; exact ⟨_, he, rfl, hx, hb⟩)) ?_
  rintro _ v13 ⟨rfl, hx4, h4⟩
  have hv13 := Lib.hid (hv12.out.but h4 hx4)
  refine hK.out _ _ ⟨hv13.out.dl, hv13.out.row⟩ (fun hHeld2 => ?_)
  clear hK h4 hv12 hHeld
  have hHeld := hHeld2
  clear hHeld2
  clear hx4
  (try simp only [Act.put]); (try simp only [List.setIfInBounds_toArray]); (try simp only [List.set_cons_succ]); (try simp only [List.set_cons_zero])
  have hc : ∀ w, (Op.stringOp .add (mkS (numG r.major 8 (d == 3))) (mkS (numG r.minor 8 (d == 3)))).run Tryz.prog w = .ok (.string (mkS ((numG r.major 8 (d == 3)) ++ (numG r.minor 8 (d == 3))))) w := fun w => by
    have h := mkS_cat2 (numG r.major 8 (d == 3)) (numG r.minor 8 (d == 3)) (by (try simp only [List.length_append]); omega) w
    simpa only [List.append_assoc] using h
  refine take_to (i := 9) 123 (.string (mkS ((numG r.major 8 (d == 3)) ++ (numG r.minor 8 (d == 3))))) rfl rfl (by kernel_rfl) (by kernel_rfl) (by kernel_rfl) (fun _ _ _ h => h) (Or.inl ⟨by rfl, ?_⟩) (by assumption) ?_
  · (intro w' hSw; go_simp; try with_reducible rfl)
  simp only [List.setIfInBounds_toArray, List.set_cons_succ, List.set_cons_zero]
  clear hc
  have hc : ∀ w, (Op.stringOp .add (mkS (AA)) (mkS ((numG r.major 8 (d == 3)) ++ (numG r.minor 8 (d == 3))))).run Tryz.prog w = .ok (.string (mkS (AA ++ ((numG r.major 8 (d == 3)) ++ (numG r.minor 8 (d == 3)))))) w := fun w => by
    have h := mkS_cat2 (AA) ((numG r.major 8 (d == 3)) ++ (numG r.minor 8 (d == 3))) (by (try simp only [List.length_append]); omega) w
    simpa only [List.append_assoc] using h
  refine take_to (i := 10) 124 (.string (mkS (AA ++ ((numG r.major 8 (d == 3)) ++ (numG r.minor 8 (d == 3)))))) rfl rfl (by kernel_rfl) (by kernel_rfl) (by kernel_rfl) (fun _ _ _ h => h) (Or.inl ⟨by rfl, ?_⟩) (by assumption) ?_
  · (intro w' hSw; go_simp; try with_reducible rfl)
  simp only [List.setIfInBounds_toArray, List.set_cons_succ, List.set_cons_zero]
  clear hc
  refine take_to (i := 11) 9 (.string (mkS (AA ++ ((numG r.major 8 (d == 3)) ++ (numG r.minor 8 (d == 3)))))) rfl rfl (by kernel_rfl) (by kernel_rfl) (by kernel_rfl) (fun _ _ _ h => h) (Or.inl ⟨by rfl, fun _ _ => rfl⟩) (by assumption) ?_
  simp only [List.setIfInBounds_toArray, List.set_cons_succ, List.set_cons_zero]
  refine wpAnyH_done (by kernel_rfl) ?_ _
  have n1 := N1.out
  have n3 := N3.out
  obtain ⟨BB, hBB⟩ : ∃ s : List UInt8, s = AA ++ ((numG r.major 8 (d == 3)) ++ (numG r.minor 8 (d == 3))) := ⟨_, rfl⟩
  rw [← hBB]
  have HBB := Lib.hid hBB
  have lB : BB.length ≤ 420 := by rw [hBB]; simp only [List.length_append, List.length_replicate]; omega
  clear hBB
  have CF := Lib.hid (fun (W : World) (h : HwIs d r w (((((((((((true && txtOk r.name 100) && numOk r.mode 8 (d == 3)) && numOk r.uid 8 (d == 3)) && numOk r.gid 8 (d == 3)) && numOk r.size 12 (d == 3)) && numOk r.time 12 (d == 3)) && txtOk r.link 100) && txtOk r.user 32) && txtOk r.group 32) && numOk r.major 8 (d == 3)) && numOk r.minor 8 (d == 3)) W) => show Calls Tryz.prog 232 #[.string (mkS r.front), .int .i64 155, .pointer (some ⟨w.heap.size + 1 + 1, 0, none⟩)] W fun e w' => e = .returned (.string (mkS (txtG r.front 155))) ∧ w'.heap[w.heap.size + 1 + 1]? = some (.cells #[.bool ((((((((((((true && txtOk r.name 100) && numOk r.mode 8 (d == 3)) && numOk r.uid 8 (d == 3)) && numOk r.gid 8 (d == 3)) && numOk r.size 12 (d == 3)) && numOk r.time 12 (d == 3)) && txtOk r.link 100) && txtOk r.user 32) && txtOk r.group 32) && numOk r.major 8 (d == 3)) && numOk r.minor 8 (d == 3)) && txtOk r.front 155)] 4 (0, 0)) ∧ But W.heap.size (w.heap.size + 1 + 1) W w' from refWt_any r.front 155 _ (((((((((((true && txtOk r.name 100) && numOk r.mode 8 (d == 3)) && numOk r.uid 8 (d == 3)) && numOk r.gid 8 (d == 3)) && numOk r.size 12 (d == 3)) && numOk r.time 12 (d == 3)) && txtOk r.link 100) && txtOk r.user 32) && txtOk r.group 32) && numOk r.major 8 (d == 3)) && numOk r.minor 8 (d == 3)) HT.out.front (by omega) W h.box)
  have FG := Lib.hid (flags_two (r := r) HD.out HN1.out)
  have BI := Lib.hid (body_two (r := r) HD.out HN1.out)
  rw [← HSP.out, ← HKL.out, ← HAA.out, ← HBB.out] at BI
  generalize ((((((((((((true && txtOk r.name 100) && numOk r.mode 8 (d == 3)) && numOk r.uid 8 (d == 3)) && numOk r.gid 8 (d == 3)) && numOk r.size 12 (d == 3)) && numOk r.time 12 (d == 3)) && txtOk r.link 100) && txtOk r.user 32) && txtOk r.group 32) && numOk r.major 8 (d == 3)) && numOk r.minor 8 (d == 3)) && txtOk r.front 155) = zz at *
  obtain ⟨XF, hXF⟩ : ∃ s : List UInt8, s = txtG r.front 155 := ⟨_, rfl⟩
  obtain ⟨RP, hRP⟩ : ∃ s : List UInt8, s = List.replicate 12 (0 : UInt8) := ⟨_, rfl⟩
  have lX : XF.length ≤ 155 := by rw [hXF]; omega
  have lR : RP.length = 12 := by rw [hRP]; simp
  have CR := Lib.hid (fun w => show Calls Tryz.prog 121 #[.string ⟨#[0]⟩, .int .i64 12] w fun e w' => e = .returned (.string (mkS RP)) ∧ Below w.heap.size w w' by rw [hRP]; exact rep_zero 12 w (by omega))
  rw [← hXF] at CF BI
  rw [← hRP] at BI
  clear hXF hRP
  have hc1 := fun w => mkS_cat2 XF RP (by omega) w
  have hc2 := fun w => mkS_cat2 BB (XF ++ RP) (by simp only [List.length_append]; omega) w
  have c4 := hv13.out.row.2.2.2.2.1
  cases zz with
  | true =>
    have HG := (FG.out.1 rfl)
    have HL := Lib.hid (show (mkS (BB ++ (XF ++ RP))).size = 512 by rw [BI.out, mkS_size]; exact bodyL_length (goodL.wide HG.1 HG.2))
    have HW := Lib.hid (show WriteIs d r (sealL (BB ++ (XF ++ RP))) 0 by rw [BI.out]; exact .ok d r HD.out.1 ⟨by have := HD.out; omega, HK.out, HBR.out, HG.1, HG.2⟩)
    clear HG
    go_wp2_with (first
      | (go_at_call 232; (with_reducible refine (CF.out _ hv13.out).mono ?_); rintro e y1 ⟨rfl, hx4, h4⟩; have hy1 := Lib.hid (hv13.out.but h4 hx4); clear h4 hx4)
      | (go_at_call 121; (with_reducible refine (CR.out _).mono ?_); rintro e y2 ⟨rfl, h4⟩; have hy2 := Lib.hid (hy1.out.text h4); have bx := cell_of_one hy2.out.box; clear h4)
      | (go_at_call 160; (with_reducible refine (refSeal_ok _ _ HL.out).mono ?_); rintro e y3 ⟨rfl, h5⟩; rw [sealB_mkS])
      | fail)
    refine bodyPost_ret (v := .tuple #[.string (mkS (sealL (BB ++ (XF ++ RP)))), .int .i64 0]) (by simp [results, Tryz.results169, go_sem]) rfl ?_
    exact ⟨_, _, HW.out, rfl, hy2.out.below.trans (h5.mono hy2.out.below.size)⟩
  | false =>
    have HW := Lib.hid (show WriteIs d r [] 2 from .range d r HD.out HK.out fun g => by have := FG.out.2 ⟨g.2.2.2.1, g.2.2.2.2⟩; cases this)
    go_wp2_with (first
      | (go_at_call 232; (with_reducible refine (CF.out _ hv13.out).mono ?_); rintro e y1 ⟨rfl, hx4, h4⟩; have hy1 := Lib.hid (hv13.out.but h4 hx4); clear h4 hx4)
      | (go_at_call 121; (with_reducible refine (CR.out _).mono ?_); rintro e y2 ⟨rfl, h4⟩; have hy2 := Lib.hid (hy1.out.text h4); have bx := cell_of_one hy2.out.box; clear h4)
      | fail)
    refine bodyPost_ret (v := .tuple #[.string ⟨#[]⟩, .int .i64 2]) (by simp [results, Tryz.results169, go_sem]) rfl ?_
    exact ⟨_, _, HW.out, rfl, hy2.out.below⟩
set_option maxRecDepth 100000 in
set_option maxHeartbeats 40000000 in
theorem refW_gnu (d : Int) (hd2 : d = 3) (hd : 1 ≤ d ∧ d ≤ 4) (r : RawL) (hk : r.kind ≠ 0) (hbr : bearsL d.toNat r) (ht : TextsLe r) (hi : IntsIn r) (w : World) :
    Calls Tryz.prog 169 #[.int .i64 d, rawV r] w (RefWPost d r w) := by
  have HK := Lib.hid hk
  have HBR := Lib.hid hbr
  have HN1 := Lib.hid (show d ≠ 1 by omega)
  replace hk : ((r.kind.toNat : Int) == 0) = false := by
    rw [beq_eq_false_iff_ne]; intro e; exact hk (UInt8.toNat_inj.1 (by show r.kind.toNat = 0; omega))
  have HD := Lib.hid hd
  have HT := Lib.hid ht
  have HI := Lib.hid hi
  have WI := Lib.hid (fun w => within_any d 1 4 w)
  rw [decide_eq_true hd] at WI
  have hH0 := Lib.hid (HwIs.init d r w)
  have l0 := txtG_le r.name 100
  have l1 := txtG_le r.link 100
  have l2 := txtG_le r.user 32
  have l3 := txtG_le r.group 32
  have l4 := txtG_le r.front 155
  have l5 := numG_le r.mode 8 (by omega) (d == 3)
  have l6 := numG_le r.uid 8 (by omega) (d == 3)
  have l7 := numG_le r.gid 8 (by omega) (d == 3)
  have l8 := numG_le r.size 12 (by omega) (d == 3)
  have l9 := numG_le r.time 12 (by omega) (d == 3)
  have l10 := numG_le r.major 8 (by omega) (d == 3)
  have l11 := numG_le r.minor 8 (by omega) (d == 3)
  have l12 := Nat.le_of_eq (magicL_length d.toNat)
  obtain ⟨SP, hSP⟩ : ∃ s : List UInt8, s = [32, 32, 32, 32, 32, 32, 32, 32] := ⟨_, rfl⟩
  obtain ⟨KL, hKL⟩ : ∃ s : List UInt8, s = [r.kind] := ⟨_, rfl⟩
  have HSP := Lib.hid hSP
  have HKL := Lib.hid hKL
  have l13 : SP.length = 8 := by rw [hSP]; rfl
  have l14 : KL.length = 1 := by rw [hKL]; rfl
  have HKC := Lib.hid (fun w => char_mkS r.kind w)
  rw [← hKL] at HKC
  clear hSP hKL
  have n1 : (d == 1) = false := by rw [hd2]; rfl
  have n3 : (d == 3) = true := by rw [hd2]; rfl
  have k1 : (0 : Int) ≤ (r.kind.toNat : Int) := by omega
  have k2 : (r.kind.toNat : Int) ≤ 255 := by have := r.kind.toNat_lt; omega
  have hf : (mkS r.front).toList.isEmpty = true := by rw [emp_is, (hbr.2 (by rw [hd2]; rfl))]; rfl
  clear hd ht hi hd2 hbr
  unfold rawV
  go_enter Tryz.func169, Tryz.ntmps169
  go_wp2_with (first
    | (go_at_call 29; (with_reducible refine (WI.out _).mono ?_); rintro e w' ⟨rfl, hw⟩; subst hw)
    | fail)
  generalize ((w.alloc (.cells #[.int .i64 d] 3)).alloc (.cells #[.string (mkS r.name), .string (mkS r.link), .string (mkS r.user), .string (mkS r.group), .string (mkS r.front), .int .u8 (r.kind.toNat : Int), .int .i64 r.mode, .int .i64 r.uid, .int .i64 r.gid, .int .i64 r.size, .int .i64 r.time, .int .i64 r.major, .int .i64 r.minor] 67)).alloc (.cells #[.bool true] 4) = W0 at *
  refine wp_region_held_drew (S := fun w' => w'.cell? ⟨w.heap.size, 0, none⟩ = some (.int .i64 d) ∧ RawAt w' (w.heap.size + 1) r) (by kernel_rfl) ⟨hH0.out.drew.dl, hH0.out.drew.row⟩ (fun hHeld => ?_)
  have hv0 := Lib.hid hH0.out.drew
  generalize W0.drew = v0 at *
  have N1 := Lib.hid n1
  have N3 := Lib.hid n3
  have kw : IntKind.i64.wrap (r.kind.toNat : Int) = (r.kind.toNat : Int) := IntWalk.i64_in _ (by omega)
  clear n1 n3
  refine take_to (i := 0) 56 (.func (.func 232) #[] #[.pointer (some ⟨w.heap.size + 1 + 1, 0, none⟩)]) rfl rfl (by kernel_rfl) (by kernel_rfl) (by kernel_rfl) (fun _ _ _ h => h) (Or.inl ⟨by rfl, fun _ _ => rfl⟩) (by assumption) ?_
  simp only [List.setIfInBounds_toArray, List.set_cons_succ, List.set_cons_zero]
  refine take_to (i := 35) 91 (.func (.func 232) #[] #[.pointer (some ⟨w.heap.size + 1 + 1, 0, none⟩)]) rfl rfl (by kernel_rfl) (by kernel_rfl) (by kernel_rfl) (fun _ _ _ h => h) (Or.inl ⟨by rfl, fun _ _ => rfl⟩) (by assumption) ?_
  simp only [List.setIfInBounds_toArray, List.set_cons_succ, List.set_cons_zero]
  refine take_to (i := 43) 99 (.func (.func 232) #[] #[.pointer (some ⟨w.heap.size + 1 + 1, 0, none⟩)]) rfl rfl (by kernel_rfl) (by kernel_rfl) (by kernel_rfl) (fun _ _ _ h => h) (Or.inl ⟨by rfl, fun _ _ => rfl⟩) (by assumption) ?_
  simp only [List.setIfInBounds_toArray, List.set_cons_succ, List.set_cons_zero]
  refine take_to (i := 48) 104 (.func (.func 232) #[] #[.pointer (some ⟨w.heap.size + 1 + 1, 0, none⟩)]) rfl rfl (by kernel_rfl) (by kernel_rfl) (by kernel_rfl) (fun _ _ _ h => h) (Or.inl ⟨by rfl, fun _ _ => rfl⟩) (by assumption) ?_
  simp only [List.setIfInBounds_toArray, List.set_cons_succ, List.set_cons_zero]
  refine take_to (i := 4) 60 (.func (.func 233) #[] #[.pointer (some ⟨w.heap.size, 0, none⟩), .pointer (some ⟨w.heap.size + 1 + 1, 0, none⟩)]) rfl rfl (by kernel_rfl) (by kernel_rfl) (by kernel_rfl) (fun _ _ _ h => h) (Or.inl ⟨by rfl, fun _ _ => rfl⟩) (by assumption) ?_
  simp only [List.setIfInBounds_toArray, List.set_cons_succ, List.set_cons_zero]
  refine take_to (i := 9) 65 (.func (.func 233) #[] #[.pointer (some ⟨w.heap.size, 0, none⟩), .pointer (some ⟨w.heap.size + 1 + 1, 0, none⟩)]) rfl rfl (by kernel_rfl) (by kernel_rfl) (by kernel_rfl) (fun _ _ _ h => h) (Or.inl ⟨by rfl, fun _ _ => rfl⟩) (by assumption) ?_
  simp only [List.setIfInBounds_toArray, List.set_cons_succ, List.set_cons_zero]
  refine take_to (i := 14) 70 (.func (.func 233) #[] #[.pointer (some ⟨w.heap.size, 0, none⟩), .pointer (some ⟨w.heap.size + 1 + 1, 0, none⟩)]) rfl rfl (by kernel_rfl) (by kernel_rfl) (by kernel_rfl) (fun _ _ _ h => h) (Or.inl ⟨by rfl, fun _ _ => rfl⟩) (by assumption) ?_
  simp only [List.setIfInBounds_toArray, List.set_cons_succ, List.set_cons_zero]
  refine take_to (i := 19) 75 (.func (.func 233) #[] #[.pointer (some ⟨w.heap.size, 0, none⟩), .pointer (some ⟨w.heap.size + 1 + 1, 0, none⟩)]) rfl rfl (by kernel_rfl) (by kernel_rfl) (by kernel_rfl) (fun _ _ _ h => h) (Or.inl ⟨by rfl, fun _ _ => rfl⟩) (by assumption) ?_
  simp only [List.setIfInBounds_toArray, List.set_cons_succ, List.set_cons_zero]
  refine take_to (i := 24) 80 (.func (.func 233) #[] #[.pointer (some ⟨w.heap.size, 0, none⟩), .pointer (some ⟨w.heap.size + 1 + 1, 0, none⟩)]) rfl rfl (by kernel_rfl) (by kernel_rfl) (by kernel_rfl) (fun _ _ _ h => h) (Or.inl ⟨by rfl, fun _ _ => rfl⟩) (by assumption) ?_
  simp only [List.setIfInBounds_toArray, List.set_cons_succ, List.set_cons_zero]
  refine take_to (i := 1) 57 (.pointer (some ⟨w.heap.size + 1, 0, none⟩)) rfl rfl (by kernel_rfl) (by kernel_rfl) (by kernel_rfl) (fun _ _ _ h => h) (Or.inl ⟨by rfl, fun _ _ => by kernel_rfl⟩) (by assumption) ?_
  simp only [List.setIfInBounds_toArray, List.set_cons_succ, List.set_cons_zero]
  refine take_to (i := 5) 61 (.pointer (some ⟨w.heap.size + 1, 6, none⟩)) rfl rfl (by kernel_rfl) (by kernel_rfl) (by kernel_rfl) (fun _ _ _ h => h) (Or.inl ⟨by rfl, fun _ _ => by kernel_rfl⟩) (by assumption) ?_
  simp only [List.setIfInBounds_toArray, List.set_cons_succ, List.set_cons_zero]
  refine take_to (i := 10) 66 (.pointer (some ⟨w.heap.size + 1, 7, none⟩)) rfl rfl (by kernel_rfl) (by kernel_rfl) (by kernel_rfl) (fun _ _ _ h => h) (Or.inl ⟨by rfl, fun _ _ => by kernel_rfl⟩) (by assumption) ?_
  simp only [List.setIfInBounds_toArray, List.set_cons_succ, List.set_cons_zero]
  refine take_to (i := 15) 71 (.pointer (some ⟨w.heap.size + 1, 8, none⟩)) rfl rfl (by kernel_rfl) (by kernel_rfl) (by kernel_rfl) (fun _ _ _ h => h) (Or.inl ⟨by rfl, fun _ _ => by kernel_rfl⟩) (by assumption) ?_
  simp only [List.setIfInBounds_toArray, List.set_cons_succ, List.set_cons_zero]
  refine take_to (i := 20) 76 (.pointer (some ⟨w.heap.size + 1, 9, none⟩)) rfl rfl (by kernel_rfl) (by kernel_rfl) (by kernel_rfl) (fun _ _ _ h => h) (Or.inl ⟨by rfl, fun _ _ => by kernel_rfl⟩) (by assumption) ?_
  simp only [List.setIfInBounds_toArray, List.set_cons_succ, List.set_cons_zero]
  refine take_to (i := 25) 81 (.pointer (some ⟨w.heap.size + 1, 10, none⟩)) rfl rfl (by kernel_rfl) (by kernel_rfl) (by kernel_rfl) (fun _ _ _ h => h) (Or.inl ⟨by rfl, fun _ _ => by kernel_rfl⟩) (by assumption) ?_
  simp only [List.setIfInBounds_toArray, List.set_cons_succ, List.set_cons_zero]
  refine take_to (i := 30) 86 (.pointer (some ⟨w.heap.size + 1, 5, none⟩)) rfl rfl (by kernel_rfl) (by kernel_rfl) (by kernel_rfl) (fun _ _ _ h => h) (Or.inl ⟨by rfl, fun _ _ => by kernel_rfl⟩) (by assumption) ?_
  simp only [List.setIfInBounds_toArray, List.set_cons_succ, List.set_cons_zero]
  refine take_to (i := 36) 92 (.pointer (some ⟨w.heap.size + 1, 1, none⟩)) rfl rfl (by kernel_rfl) (by kernel_rfl) (by kernel_rfl) (fun _ _ _ h => h) (Or.inl ⟨by rfl, fun _ _ => by kernel_rfl⟩) (by assumption) ?_
  simp only [List.setIfInBounds_toArray, List.set_cons_succ, List.set_cons_zero]
  refine take_to (i := 44) 100 (.pointer (some ⟨w.heap.size + 1, 2, none⟩)) rfl rfl (by kernel_rfl) (by kernel_rfl) (by kernel_rfl) (fun _ _ _ h => h) (Or.inl ⟨by rfl, fun _ _ => by kernel_rfl⟩) (by assumption) ?_
  simp only [List.setIfInBounds_toArray, List.set_cons_succ, List.set_cons_zero]
  refine take_to (i := 49) 105 (.pointer (some ⟨w.heap.size + 1, 3, none⟩)) rfl rfl (by kernel_rfl) (by kernel_rfl) (by kernel_rfl) (fun _ _ _ h => h) (Or.inl ⟨by rfl, fun _ _ => by kernel_rfl⟩) (by assumption) ?_
  simp only [List.setIfInBounds_toArray, List.set_cons_succ, List.set_cons_zero]
  refine take_to (i := 2) 58 (.string (mkS r.name)) rfl rfl (by kernel_rfl) (by kernel_rfl) (by kernel_rfl) (fun _ _ _ h => h) (Or.inl ⟨by rfl, ?_⟩) (by assumption) ?_
  · (intro w' hSw; obtain ⟨e0, e1, e2, e3, e4, e5, e6, e7, e8, e9, e10, e11, e12, e13⟩ := hSw; go_simp; try with_reducible rfl)
  simp only [List.setIfInBounds_toArray, List.set_cons_succ, List.set_cons_zero]
  refine take_to (i := 6) 62 (.int .i64 r.mode) rfl rfl (by kernel_rfl) (by kernel_rfl) (by kernel_rfl) (fun _ _ _ h => h) (Or.inl ⟨by rfl, ?_⟩) (by assumption) ?_
  · (intro w' hSw; obtain ⟨e0, e1, e2, e3, e4, e5, e6, e7, e8, e9, e10, e11, e12, e13⟩ := hSw; go_simp; try with_reducible rfl)
  simp only [List.setIfInBounds_toArray, List.set_cons_succ, List.set_cons_zero]
  refine take_to (i := 11) 67 (.int .i64 r.uid) rfl rfl (by kernel_rfl) (by kernel_rfl) (by kernel_rfl) (fun _ _ _ h => h) (Or.inl ⟨by rfl, ?_⟩) (by assumption) ?_
  · (intro w' hSw; obtain ⟨e0, e1, e2, e3, e4, e5, e6, e7, e8, e9, e10, e11, e12, e13⟩ := hSw; go_simp; try with_reducible rfl)
  simp only [List.setIfInBounds_toArray, List.set_cons_succ, List.set_cons_zero]
  refine take_to (i := 16) 72 (.int .i64 r.gid) rfl rfl (by kernel_rfl) (by kernel_rfl) (by kernel_rfl) (fun _ _ _ h => h) (Or.inl ⟨by rfl, ?_⟩) (by assumption) ?_
  · (intro w' hSw; obtain ⟨e0, e1, e2, e3, e4, e5, e6, e7, e8, e9, e10, e11, e12, e13⟩ := hSw; go_simp; try with_reducible rfl)
  simp only [List.setIfInBounds_toArray, List.set_cons_succ, List.set_cons_zero]
  refine take_to (i := 21) 77 (.int .i64 r.size) rfl rfl (by kernel_rfl) (by kernel_rfl) (by kernel_rfl) (fun _ _ _ h => h) (Or.inl ⟨by rfl, ?_⟩) (by assumption) ?_
  · (intro w' hSw; obtain ⟨e0, e1, e2, e3, e4, e5, e6, e7, e8, e9, e10, e11, e12, e13⟩ := hSw; go_simp; try with_reducible rfl)
  simp only [List.setIfInBounds_toArray, List.set_cons_succ, List.set_cons_zero]
  refine take_to (i := 26) 82 (.int .i64 r.time) rfl rfl (by kernel_rfl) (by kernel_rfl) (by kernel_rfl) (fun _ _ _ h => h) (Or.inl ⟨by rfl, ?_⟩) (by assumption) ?_
  · (intro w' hSw; obtain ⟨e0, e1, e2, e3, e4, e5, e6, e7, e8, e9, e10, e11, e12, e13⟩ := hSw; go_simp; try with_reducible rfl)
  simp only [List.setIfInBounds_toArray, List.set_cons_succ, List.set_cons_zero]
  refine take_to (i := 31) 87 (.int .u8 (r.kind.toNat : Int)) rfl rfl (by kernel_rfl) (by kernel_rfl) (by kernel_rfl) (fun _ _ _ h => h) (Or.inl ⟨by rfl, ?_⟩) (by assumption) ?_
  · (intro w' hSw; obtain ⟨e0, e1, e2, e3, e4, e5, e6, e7, e8, e9, e10, e11, e12, e13⟩ := hSw; go_simp; try with_reducible rfl)
  simp only [List.setIfInBounds_toArray, List.set_cons_succ, List.set_cons_zero]
  refine take_to (i := 37) 93 (.string (mkS r.link)) rfl rfl (by kernel_rfl) (by kernel_rfl) (by kernel_rfl) (fun _ _ _ h => h) (Or.inl ⟨by rfl, ?_⟩) (by assumption) ?_
  · (intro w' hSw; obtain ⟨e0, e1, e2, e3, e4, e5, e6, e7, e8, e9, e10, e11, e12, e13⟩ := hSw; go_simp; try with_reducible rfl)
  simp only [List.setIfInBounds_toArray, List.set_cons_succ, List.set_cons_zero]
  refine take_to (i := 45) 101 (.string (mkS r.user)) rfl rfl (by kernel_rfl) (by kernel_rfl) (by kernel_rfl) (fun _ _ _ h => h) (Or.inl ⟨by rfl, ?_⟩) (by assumption) ?_
  · (intro w' hSw; obtain ⟨e0, e1, e2, e3, e4, e5, e6, e7, e8, e9, e10, e11, e12, e13⟩ := hSw; go_simp; try with_reducible rfl)
  simp only [List.setIfInBounds_toArray, List.set_cons_succ, List.set_cons_zero]
  refine take_to (i := 50) 106 (.string (mkS r.group)) rfl rfl (by kernel_rfl) (by kernel_rfl) (by kernel_rfl) (fun _ _ _ h => h) (Or.inl ⟨by rfl, ?_⟩) (by assumption) ?_
  · (intro w' hSw; obtain ⟨e0, e1, e2, e3, e4, e5, e6, e7, e8, e9, e10, e11, e12, e13⟩ := hSw; go_simp; try with_reducible rfl)
  simp only [List.setIfInBounds_toArray, List.set_cons_succ, List.set_cons_zero]
  refine take_to (i := 32) 88 (.int .i64 (r.kind.toNat : Int)) rfl rfl (by kernel_rfl) (by kernel_rfl) (by kernel_rfl) (fun _ _ _ h => h) (Or.inl ⟨by rfl, ?_⟩) (by assumption) ?_
  · (intro w' hSw; go_simp; try with_reducible rfl)
  simp only [List.setIfInBounds_toArray, List.set_cons_succ, List.set_cons_zero]
  refine take_to (i := 40) 96 (.int .i64 d) rfl rfl (by kernel_rfl) (by kernel_rfl) (by kernel_rfl) (fun _ _ _ h => h) (Or.inl ⟨by rfl, ?_⟩) (by assumption) ?_
  · (intro w' hSw; obtain ⟨e0, e1, e2, e3, e4, e5, e6, e7, e8, e9, e10, e11, e12, e13⟩ := hSw; go_simp; try with_reducible rfl)
  simp only [List.setIfInBounds_toArray, List.set_cons_succ, List.set_cons_zero]
  refine wpAnyH_ready (rs := [3]) (by kernel_rfl) (by simp) ?_
  refine AllReadyH.cons rfl (fun K hK => ?_) AllReadyH.nil
  rw [if_pos (by rfl)]
  refine call_at (R := fun v V => v = .string (mkS (txtG r.name 100)) ∧ V.heap[w.heap.size + 1 + 1]? = some (.cells #[.bool (true && txtOk r.name 100)] 4 (0, 0)) ∧ But v0.heap.size (w.heap.size + 1 + 1) v0 V) 59 rfl 232 #[.string (mkS r.name), .int .i64 100, .pointer (some ⟨w.heap.size + 1 + 1, 0, none⟩)] (by kernel_rfl) ((refWt_any r.name 100 _ true HT.out.name (by omega) _ hv0.out.box).mono (by rintro e V ⟨he, hx, hb⟩; exact ⟨_, he, rfl, hx, hb⟩)) ?_
  rintro _ v1 ⟨rfl, hx4, h4⟩
  have hv1 := Lib.hid (hv0.out.but h4 hx4)
  refine hK.out _ _ ⟨hv1.out.dl, hv1.out.row⟩ (fun hHeld2 => ?_)
  clear hK h4 hv0 hHeld
  have hHeld := hHeld2
  clear hHeld2
  clear hx4
  (try simp only [Act.put]); (try simp only [List.setIfInBounds_toArray]); (try simp only [List.set_cons_succ]); (try simp only [List.set_cons_zero])
  refine wpAnyH_ready (rs := [7]) (by kernel_rfl) (by simp) ?_
  refine AllReadyH.cons rfl (fun K hK => ?_) AllReadyH.nil
  rw [if_pos (by rfl)]
  refine call_at (R := fun v V => v = .string (mkS (numG r.mode 8 (d == 3))) ∧ V.heap[w.heap.size + 1 + 1]? = some (.cells #[.bool ((true && txtOk r.name 100) && numOk r.mode 8 (d == 3))] 4 (0, 0)) ∧ But v1.heap.size (w.heap.size + 1 + 1) v1 V) 63 rfl 233 #[.int .i64 r.mode, .int .i64 8, .pointer (some ⟨w.heap.size, 0, none⟩), .pointer (some ⟨w.heap.size + 1 + 1, 0, none⟩)] (by kernel_rfl) ((refWn_any r.mode HI.out.mode 8 d _ _ (true && txtOk r.name 100) (by omega) _ hv1.out.dl hv1.out.box).mono (by rintro e V ⟨he, hx, hb⟩; exact ⟨_, he, rfl, hx, hb⟩)) ?_
  rintro _ v2 ⟨rfl, hx4, h4⟩
  have hv2 := Lib.hid (hv1.out.but h4 hx4)
  refine hK.out _ _ ⟨hv2.out.dl, hv2.out.row⟩ (fun hHeld2 => ?_)
  clear hK h4 hv1 hHeld
  have hHeld := hHeld2
  clear hHeld2
  clear hx4
  (try simp only [Act.put]); (try simp only [List.setIfInBounds_toArray]); (try simp only [List.set_cons_succ]); (try simp only [List.set_cons_zero])
  have hc : ∀ w, (Op.stringOp .add (mkS (txtG r.name 100)) (mkS (numG r.mode 8 (d == 3)))).run Tryz.prog w = .ok (.string (mkS ((txtG r.name 100) ++ (numG r.mode 8 (d == 3))))) w := fun w => by
    have h := mkS_cat2 (txtG r.name 100) (numG r.mode 8 (d == 3)) (by (try simp only [List.length_append]); omega) w
    simpa only [List.append_assoc] using h
  refine take_to (i := 8) 64 (.string (mkS ((txtG r.name 100) ++ (numG r.mode 8 (d == 3))))) rfl rfl (by kernel_rfl) (by kernel_rfl) (by kernel_rfl) (fun _ _ _ h => h) (Or.inl ⟨by rfl, ?_⟩) (by assumption) ?_
  · (intro w' hSw; go_simp; try with_reducible rfl)
  simp only [List.setIfInBounds_toArray, List.set_cons_succ, List.set_cons_zero]
  clear hc
  refine wpAnyH_ready (rs := [12]) (by kernel_rfl) (by simp) ?_
  refine AllReadyH.cons rfl (fun K hK => ?_) AllReadyH.nil
  rw [if_pos (by rfl)]
  refine call_at (R := fun v V => v = .string (mkS (numG r.uid 8 (d == 3))) ∧ V.heap[w.heap.size + 1 + 1]? = some (.cells #[.bool (((true && txtOk r.name 100) && numOk r.mode 8 (d == 3)) && numOk r.uid 8 (d == 3))] 4 (0, 0)) ∧ But v2.heap.size (w.heap.size + 1 + 1) v2 V) 68 rfl 233 #[.int .i64 r.uid, .int .i64 8, .pointer (some ⟨w.heap.size, 0, none⟩), .pointer (some ⟨w.heap.size + 1 + 1, 0, none⟩)] (by kernel_rfl) ((refWn_any r.uid HI.out.uid 8 d _ _ ((true && txtOk r.name 100) && numOk r.mode 8 (d == 3)) (by omega) _ hv2.out.dl hv2.out.box).mono (by rintro e V ⟨he, hx, hb⟩; exact ⟨_, he, rfl, hx, hb⟩)) ?_
  rintro _ v3 ⟨rfl, hx4, h4⟩
  have hv3 := Lib.hid (hv2.out.but h4 hx4)
  refine hK.out _ _ ⟨hv3.out.dl, hv3.out.row⟩ (fun hHeld2 => ?_)
  clear hK h4 hv2 hHeld
  have hHeld := hHeld2
  clear hHeld2
  clear hx4
  (try simp only [Act.put]); (try simp only [List.setIfInBounds_toArray]); (try simp only [List.set_cons_succ]); (try simp only [List.set_cons_zero])
  have hc : ∀ w, (Op.stringOp .add (mkS ((txtG r.name 100) ++ (numG r.mode 8 (d == 3)))) (mkS (numG r.uid 8 (d == 3)))).run Tryz.prog w = .ok (.string (mkS ((txtG r.name 100) ++ ((numG r.mode 8 (d == 3)) ++ (numG r.uid 8 (d == 3)))))) w := fun w => by
    have h := mkS_cat2 ((txtG r.name 100) ++ (numG r.mode 8 (d == 3))) (numG r.uid 8 (d == 3)) (by (try simp only [List.length_append]); omega) w
    simpa only [List.append_assoc] using h
  refine take_to (i := 13) 69 (.string (mkS ((txtG r.name 100) ++ ((numG r.mode 8 (d == 3)) ++ (numG r.uid 8 (d == 3)))))) rfl rfl (by kernel_rfl) (by kernel_rfl) (by kernel_rfl) (fun _ _ _ h => h) (Or.inl ⟨by rfl, ?_⟩) (by assumption) ?_
  · (intro w' hSw; go_simp; try with_reducible rfl)
  simp only [List.setIfInBounds_toArray, List.set_cons_succ, List.set_cons_zero]
  clear hc
  refine wpAnyH_ready (rs := [17]) (by kernel_rfl) (by simp) ?_
  refine AllReadyH.cons rfl (fun K hK => ?_) AllReadyH.nil
  rw [if_pos (by rfl)]
  refine call_at (R := fun v V => v = .string (mkS (numG r.gid 8 (d == 3))) ∧ V.heap[w.heap.size + 1 + 1]? = some (.cells #[.bool ((((true && txtOk r.name 100) && numOk r.mode 8 (d == 3)) && numOk r.uid 8 (d == 3)) && numOk r.gid 8 (d == 3))] 4 (0, 0)) ∧ But v3.heap.size (w.heap.size + 1 + 1) v3 V) 73 rfl 233 #[.int .i64 r.gid, .int .i64 8, .pointer (some ⟨w.heap.size, 0, none⟩), .pointer (some ⟨w.heap.size + 1 + 1, 0, none⟩)] (by kernel_rfl) ((refWn_any r.gid HI.out.gid 8 d _ _ (((true && txtOk r.name 100) && numOk r.mode 8 (d == 3)) && numOk r.uid 8 (d == 3)) (by omega) _ hv3.out.dl hv3.out.box).mono (by rintro e V ⟨he, hx, hb⟩; exact ⟨_, he, rfl, hx, hb⟩)) ?_
  rintro _ v4 ⟨rfl, hx4, h4⟩
  have hv4 := Lib.hid (hv3.out.but h4 hx4)
  refine hK.out _ _ ⟨hv4.out.dl, hv4.out.row⟩ (fun hHeld2 => ?_)
  clear hK h4 hv3 hHeld
  have hHeld := hHeld2
  clear hHeld2
  clear hx4
  (try simp only [Act.put]); (try simp only [List.setIfInBounds_toArray]); (try simp only [List.set_cons_succ]); (try simp only [List.set_cons_zero])
  have hc : ∀ w, (Op.stringOp .add (mkS ((txtG r.name 100) ++ ((numG r.mode 8 (d == 3)) ++ (numG r.uid 8 (d == 3))))) (mkS (numG r.gid 8 (d == 3)))).run Tryz.prog w = .ok (.string (mkS ((txtG r.name 100) ++ ((numG r.mode 8 (d == 3)) ++ ((numG r.uid 8 (d == 3)) ++ (numG r.gid 8 (d == 3))))))) w := fun w => by
    have h := mkS_cat2 ((txtG r.name 100) ++ ((numG r.mode 8 (d == 3)) ++ (numG r.uid 8 (d == 3)))) (numG r.gid 8 (d == 3)) (by (try simp only [List.length_append]); omega) w
    simpa only [List.append_assoc] using h
  refine take_to (i := 18) 74 (.string (mkS ((txtG r.name 100) ++ ((numG r.mode 8 (d == 3)) ++ ((numG r.uid 8 (d == 3)) ++ (numG r.gid 8 (d == 3))))))) rfl rfl (by kernel_rfl) (by kernel_rfl) (by kernel_rfl) (fun _ _ _ h => h) (Or.inl ⟨by rfl, ?_⟩) (by assumption) ?_
  · (intro w' hSw; go_simp; try with_reducible rfl)
  simp only [List.setIfInBounds_toArray, List.set_cons_succ, List.set_cons_zero]
  clear hc
  refine wpAnyH_ready (rs := [22]) (by kernel_rfl) (by simp) ?_
  refine AllReadyH.cons rfl (fun K hK => ?_) AllReadyH.nil
  rw [if_pos (by rfl)]
  refine call_at (R := fun v V => v = .string (mkS (numG r.size 12 (d == 3))) ∧ V.heap[w.heap.size + 1 + 1]? = some (.cells #[.bool (((((true && txtOk r.name 100) && numOk r.mode 8 (d == 3)) && numOk r.uid 8 (d == 3)) && numOk r.gid 8 (d == 3)) && numOk r.size 12 (d == 3))] 4 (0, 0)) ∧ But v4.heap.size (w.heap.size + 1 + 1) v4 V) 78 rfl 233 #[.int .i64 r.size, .int .i64 12, .pointer (some ⟨w.heap.size, 0, none⟩), .pointer (some ⟨w.heap.size + 1 + 1, 0, none⟩)] (by kernel_rfl) ((refWn_any r.size HI.out.size 12 d _ _ ((((true && txtOk r.name 100) && numOk r.mode 8 (d == 3)) && numOk r.uid 8 (d == 3)) && numOk r.gid 8 (d == 3)) (by omega) _ hv4.out.dl hv4.out.box).mono (by rintro e V ⟨he, hx, hb⟩; exact ⟨_, he, rfl, hx, hb⟩)) ?_
  rintro _ v5 ⟨rfl, hx4, h4⟩
  have hv5 := Lib.hid (hv4.out.but h4 hx4)
  refine hK.out _ _ ⟨hv5.out.dl, hv5.out.row⟩ (fun hHeld2 => ?_)
  clear hK h4 hv4 hHeld
  have hHeld := hHeld2
  clear hHeld2
  clear hx4
  (try simp only [Act.put]); (try simp only [List.setIfInBounds_toArray]); (try simp only [List.set_cons_succ]); (try simp only [List.set_cons_zero])
  have hc : ∀ w, (Op.stringOp .add (mkS ((txtG r.name 100) ++ ((numG r.mode 8 (d == 3)) ++ ((numG r.uid 8 (d == 3)) ++ (numG r.gid 8 (d == 3)))))) (mkS (numG r.size 12 (d == 3)))).run Tryz.prog w = .ok (.string (mkS ((txtG r.name 100) ++ ((numG r.mode 8 (d == 3)) ++ ((numG r.uid 8 (d == 3)) ++ ((numG r.gid 8 (d == 3)) ++ (numG r.size 12 (d == 3)))))))) w := fun w => by
    have h := mkS_cat2 ((txtG r.name 100) ++ ((numG r.mode 8 (d == 3)) ++ ((numG r.uid 8 (d == 3)) ++ (numG r.gid 8 (d == 3))))) (numG r.size 12 (d == 3)) (by (try simp only [List.length_append]); omega) w
    simpa only [List.append_assoc] using h
  refine take_to (i := 23) 79 (.string (mkS ((txtG r.name 100) ++ ((numG r.mode 8 (d == 3)) ++ ((numG r.uid 8 (d == 3)) ++ ((numG r.gid 8 (d == 3)) ++ (numG r.size 12 (d == 3)))))))) rfl rfl (by kernel_rfl) (by kernel_rfl) (by kernel_rfl) (fun _ _ _ h => h) (Or.inl ⟨by rfl, ?_⟩) (by assumption) ?_
  · (intro w' hSw; go_simp; try with_reducible rfl)
  simp only [List.setIfInBounds_toArray, List.set_cons_succ, List.set_cons_zero]
  clear hc
  refine wpAnyH_ready (rs := [27]) (by kernel_rfl) (by simp) ?_
  refine AllReadyH.cons rfl (fun K hK => ?_) AllReadyH.nil
  rw [if_pos (by rfl)]
  refine call_at (R := fun v V => v = .string (mkS (numG r.time 12 (d == 3))) ∧ V.heap[w.heap.size + 1 + 1]? = some (.cells #[.bool ((((((true && txtOk r.name 100) && numOk r.mode 8 (d == 3)) && numOk r.uid 8 (d == 3)) && numOk r.gid 8 (d == 3)) && numOk r.size 12 (d == 3)) && numOk r.time 12 (d == 3))] 4 (0, 0)) ∧ But v5.heap.size (w.heap.size + 1 + 1) v5 V) 83 rfl 233 #[.int .i64 r.time, .int .i64 12, .pointer (some ⟨w.heap.size, 0, none⟩), .pointer (some ⟨w.heap.size + 1 + 1, 0, none⟩)] (by kernel_rfl) ((refWn_any r.time HI.out.time 12 d _ _ (((((true && txtOk r.name 100) && numOk r.mode 8 (d == 3)) && numOk r.uid 8 (d == 3)) && numOk r.gid 8 (d == 3)) && numOk r.size 12 (d == 3)) (by omega) _ hv5.out.dl hv5.out.box).mono (by rintro e V ⟨he, hx, hb⟩; exact ⟨_, he, rfl, hx, hb⟩)) ?_
  rintro _ v6 ⟨rfl, hx4, h4⟩
  have hv6 := Lib.hid (hv5.out.but h4 hx4)
  refine hK.out _ _ ⟨hv6.out.dl, hv6.out.row⟩ (fun hHeld2 => ?_)
  clear hK h4 hv5 hHeld
  have hHeld := hHeld2
  clear hHeld2
  clear hx4
  (try simp only [Act.put]); (try simp only [List.setIfInBounds_toArray]); (try simp only [List.set_cons_succ]); (try simp only [List.set_cons_zero])
  have hc : ∀ w, (Op.stringOp .add (mkS ((txtG r.name 100) ++ ((numG r.mode 8 (d == 3)) ++ ((numG r.uid 8 (d == 3)) ++ ((numG r.gid 8 (d == 3)) ++ (numG r.size 12 (d == 3))))))) (mkS (numG r.time 12 (d == 3)))).run Tryz.prog w = .ok (.string (mkS ((txtG r.name 100) ++ ((numG r.mode 8 (d == 3)) ++ ((numG r.uid 8 (d == 3)) ++ ((numG r.gid 8 (d == 3)) ++ ((numG r.size 12 (d == 3)) ++ (numG r.time 12 (d == 3))))))))) w := fun w => by
    have h := mkS_cat2 ((txtG r.name 100) ++ ((numG r.mode 8 (d == 3)) ++ ((numG r.uid 8 (d == 3)) ++ ((numG r.gid 8 (d == 3)) ++ (numG r.size 12 (d == 3)))))) (numG r.time 12 (d == 3)) (by (try simp only [List.length_append]); omega) w
    simpa only [List.append_assoc] using h
  refine take_to (i := 28) 84 (.string (mkS ((txtG r.name 100) ++ ((numG r.mode 8 (d == 3)) ++ ((numG r.uid 8 (d == 3)) ++ ((numG r.gid 8 (d == 3)) ++ ((numG r.size 12 (d == 3)) ++ (numG r.time 12 (d == 3))))))))) rfl rfl (by kernel_rfl) (by kernel_rfl) (by kernel_rfl) (fun _ _ _ h => h) (Or.inl ⟨by rfl, ?_⟩) (by assumption) ?_
  · (intro w' hSw; go_simp; try with_reducible rfl)
  simp only [List.setIfInBounds_toArray, List.set_cons_succ, List.set_cons_zero]
  clear hc
  have hc : ∀ w, (Op.stringOp .add (mkS ((txtG r.name 100) ++ ((numG r.mode 8 (d == 3)) ++ ((numG r.uid 8 (d == 3)) ++ ((numG r.gid 8 (d == 3)) ++ ((numG r.size 12 (d == 3)) ++ (numG r.time 12 (d == 3)))))))) (mkS (SP))).run Tryz.prog w = .ok (.string (mkS ((txtG r.name 100) ++ ((numG r.mode 8 (d == 3)) ++ ((numG r.uid 8 (d == 3)) ++ ((numG r.gid 8 (d == 3)) ++ ((numG r.size 12 (d == 3)) ++ ((numG r.time 12 (d == 3)) ++ (SP))))))))) w := fun w => by
    have h := mkS_cat2 ((txtG r.name 100) ++ ((numG r.mode 8 (d == 3)) ++ ((numG r.uid 8 (d == 3)) ++ ((numG r.gid 8 (d == 3)) ++ ((numG r.size 12 (d == 3)) ++ (numG r.time 12 (d == 3))))))) (SP) (by (try simp only [List.length_append]); omega) w
    simpa only [List.append_assoc] using h
  rw [show mkS SP = ⟨#[32, 32, 32, 32, 32, 32, 32, 32]⟩ by rw [HSP.out]; rfl] at hc
  refine take_to (i := 29) 85 (.string (mkS ((txtG r.name 100) ++ ((numG r.mode 8 (d == 3)) ++ ((numG r.uid 8 (d == 3)) ++ ((numG r.gid 8 (d == 3)) ++ ((numG r.size 12 (d == 3)) ++ ((numG r.time 12 (d == 3)) ++ (SP))))))))) rfl rfl (by kernel_rfl) (by kernel_rfl) (by kernel_rfl) (fun _ _ _ h => h) (Or.inl ⟨by rfl, ?_⟩) (by assumption) ?_
  · (intro w' hSw; go_simp; try with_reducible rfl)
  simp only [List.setIfInBounds_toArray, List.set_cons_succ, List.set_cons_zero]
  clear hc
  refine wpAnyH_ready (rs := [33]) (by kernel_rfl) (by simp) ?_
  refine AllReadyH.cons rfl (fun K hK => ?_) AllReadyH.nil
  rw [if_pos (by rfl)]
  refine call_at (R := fun v V => v = .string (mkS KL) ∧ Below v6.heap.size v6 V) 89 rfl 162 #[.int .i64 (r.kind.toNat : Int)] (by kernel_rfl) ((HKC.out _).mono (by rintro e V ⟨he, hb⟩; exact ⟨_, he, rfl, hb⟩)) ?_
  rintro _ v7 ⟨rfl, h4⟩
  have hv7 := Lib.hid (hv6.out.text h4)
  refine hK.out _ _ ⟨hv7.out.dl, hv7.out.row⟩ (fun hHeld2 => ?_)
  clear hK h4 hv6 hHeld
  have hHeld := hHeld2
  clear hHeld2
  (try simp only [Act.put]); (try simp only [List.setIfInBounds_toArray]); (try simp only [List.set_cons_succ]); (try simp only [List.set_cons_zero])
  have hc : ∀ w, (Op.stringOp .add (mkS ((txtG r.name 100) ++ ((numG r.mode 8 (d == 3)) ++ ((numG r.uid 8 (d == 3)) ++ ((numG r.gid 8 (d == 3)) ++ ((numG r.size 12 (d == 3)) ++ ((numG r.time 12 (d == 3)) ++ (SP)))))))) (mkS (KL))).run Tryz.prog w = .ok (.string (mkS ((txtG r.name 100) ++ ((numG r.mode 8 (d == 3)) ++ ((numG r.uid 8 (d == 3)) ++ ((numG r.gid 8 (d == 3)) ++ ((numG r.size 12 (d == 3)) ++ ((numG r.time 12 (d == 3)) ++ ((SP) ++ (KL)))))))))) w := fun w => by
    have h := mkS_cat2 ((txtG r.name 100) ++ ((numG r.mode 8 (d == 3)) ++ ((numG r.uid 8 (d == 3)) ++ ((numG r.gid 8 (d == 3)) ++ ((numG r.size 12 (d == 3)) ++ ((numG r.time 12 (d == 3)) ++ (SP))))))) (KL) (by (try simp only [List.length_append]); omega) w
    simpa only [List.append_assoc] using h
  refine take_to (i := 34) 90 (.string (mkS ((txtG r.name 100) ++ ((numG r.mode 8 (d == 3)) ++ ((numG r.uid 8 (d == 3)) ++ ((numG r.gid 8 (d == 3)) ++ ((numG r.size 12 (d == 3)) ++ ((numG r.time 12 (d == 3)) ++ ((SP) ++ (KL)))))))))) rfl rfl (by kernel_rfl) (by kernel_rfl) (by kernel_rfl) (fun _ _ _ h => h) (Or.inl ⟨by rfl, ?_⟩) (by assumption) ?_
  · (intro w' hSw; go_simp; try with_reducible rfl)
  simp only [List.setIfInBounds_toArray, List.set_cons_succ, List.set_cons_zero]
  clear hc
  refine wpAnyH_ready (rs := [38]) (by kernel_rfl) (by simp) ?_
  refine AllReadyH.cons rfl (fun K hK => ?_) AllReadyH.nil
  rw [if_pos (by rfl)]
  refine call_at (R := fun v V => v = .string (mkS (txtG r.link 100)) ∧ V.heap[w.heap.size + 1 + 1]? = some (.cells #[.bool (((((((true && txtOk r.name 100) && numOk r.mode 8 (d == 3)) && numOk r.uid 8 (d == 3)) && numOk r.gid 8 (d == 3)) && numOk r.size 12 (d == 3)) && numOk r.time 12 (d == 3)) && txtOk r.link 100)] 4 (0, 0)) ∧ But v7.heap.size (w.heap.size + 1 + 1) v7 V) 94 rfl 232 #[.string (mkS r.link), .int .i64 100, .pointer (some ⟨w.heap.size + 1 + 1, 0, none⟩)] (by kernel_rfl) ((refWt_any r.link 100 _ ((((((true && txtOk r.name 100) && numOk r.mode 8 (d == 3)) && numOk r.uid 8 (d == 3)) && numOk r.gid 8 (d == 3)) && numOk r.size 12 (d == 3)) && numOk r.time 12 (d == 3)) HT.out.link (by omega) _ hv7.out.box).mono (by rintro e V ⟨he, hx, hb⟩; exact ⟨_, he, rfl, hx, hb⟩)) ?_
  rintro _ v8 ⟨rfl, hx4, h4⟩
  have hv8 := Lib.hid (hv7.out.but h4 hx4)
  refine hK.out _ _ ⟨hv8.out.dl, hv8.out.row⟩ (fun hHeld2 => ?_)
  clear hK h4 hv7 hHeld
  have hHeld := hHeld2
  clear hHeld2
  clear hx4
  (try simp only [Act.put]); (try simp only [List.setIfInBounds_toArray]); (try simp only [List.set_cons_succ]); (try simp only [List.set_cons_zero])
  have hc : ∀ w, (Op.stringOp .add (mkS ((txtG r.name 100) ++ ((numG r.mode 8 (d == 3)) ++ ((numG r.uid 8 (d == 3)) ++ ((numG r.gid 8 (d == 3)) ++ ((numG r.size 12 (d == 3)) ++ ((numG r.time 12 (d == 3)) ++ ((SP) ++ (KL))))))))) (mkS (txtG r.link 100))).run Tryz.prog w = .ok (.string (mkS ((txtG r.name 100) ++ ((numG r.mode 8 (d == 3)) ++ ((numG r.uid 8 (d == 3)) ++ ((numG r.gid 8 (d == 3)) ++ ((numG r.size 12 (d == 3)) ++ ((numG r.time 12 (d == 3)) ++ ((SP) ++ ((KL) ++ (txtG r.link 100))))))))))) w := fun w => by
    have h := mkS_cat2 ((txtG r.name 100) ++ ((numG r.mode 8 (d == 3)) ++ ((numG r.uid 8 (d == 3)) ++ ((numG r.gid 8 (d == 3)) ++ ((numG r.size 12 (d == 3)) ++ ((numG r.time 12 (d == 3)) ++ ((SP) ++ (KL)))))))) (txtG r.link 100) (by (try simp only [List.length_append]); omega) w
    simpa only [List.append_assoc] using h
  refine take_to (i := 39) 95 (.string (mkS ((txtG r.name 100) ++ ((numG r.mode 8 (d == 3)) ++ ((numG r.uid 8 (d == 3)) ++ ((numG r.gid 8 (d == 3)) ++ ((numG r.size 12 (d == 3)) ++ ((numG r.time 12 (d == 3)) ++ ((SP) ++ ((KL) ++ (txtG r.link 100))))))))))) rfl rfl (by kernel_rfl) (by kernel_rfl) (by kernel_rfl) (fun _ _ _ h => h) (Or.inl ⟨by rfl, ?_⟩) (by assumption) ?_
  · (intro w' hSw; go_simp; try with_reducible rfl)
  simp only [List.setIfInBounds_toArray, List.set_cons_succ, List.set_cons_zero]
  clear hc
  refine wpAnyH_ready (rs := [41]) (by kernel_rfl) (by simp) ?_
  refine AllReadyH.cons rfl (fun K hK => ?_) AllReadyH.nil
  rw [if_pos (by rfl)]
  refine call_at (R := fun v V => v = .string (mkS (magicL d.toNat)) ∧ Below v8.heap.size v8 V) 97 rfl 65 #[.int .i64 d] (by kernel_rfl) ((refMagic_any d HD.out _).mono (by rintro e V ⟨he, hb⟩; exact ⟨_, he, rfl, hb⟩)) ?_
  rintro _ v9 ⟨rfl, h4⟩
  have hv9 := Lib.hid (hv8.out.text h4)
  refine hK.out _ _ ⟨hv9.out.dl, hv9.out.row⟩ (fun hHeld2 => ?_)
  clear hK h4 hv8 hHeld
  have hHeld := hHeld2
  clear hHeld2
  (try simp only [Act.put]); (try simp only [List.setIfInBounds_toArray]); (try simp only [List.set_cons_succ]); (try simp only [List.set_cons_zero])
  have hc : ∀ w, (Op.stringOp .add (mkS ((txtG r.name 100) ++ ((numG r.mode 8 (d == 3)) ++ ((numG r.uid 8 (d == 3)) ++ ((numG r.gid 8 (d == 3)) ++ ((numG r.size 12 (d == 3)) ++ ((numG r.time 12 (d == 3)) ++ ((SP) ++ ((KL) ++ (txtG r.link 100)))))))))) (mkS (magicL d.toNat))).run Tryz.prog w = .ok (.string (mkS ((txtG r.name 100) ++ ((numG r.mode 8 (d == 3)) ++ ((numG r.uid 8 (d == 3)) ++ ((numG r.gid 8 (d == 3)) ++ ((numG r.size 12 (d == 3)) ++ ((numG r.time 12 (d == 3)) ++ ((SP) ++ ((KL) ++ ((txtG r.link 100) ++ (magicL d.toNat)))))))))))) w := fun w => by
    have h := mkS_cat2 ((txtG r.name 100) ++ ((numG r.mode 8 (d == 3)) ++ ((numG r.uid 8 (d == 3)) ++ ((numG r.gid 8 (d == 3)) ++ ((numG r.size 12 (d == 3)) ++ ((numG r.time 12 (d == 3)) ++ ((SP) ++ ((KL) ++ (txtG r.link 100))))))))) (magicL d.toNat) (by (try simp only [List.length_append]); omega) w
    simpa only [List.append_assoc] using h
  refine take_to (i := 42) 98 (.string (mkS ((txtG r.name 100) ++ ((numG r.mode 8 (d == 3)) ++ ((numG r.uid 8 (d == 3)) ++ ((numG r.gid 8 (d == 3)) ++ ((numG r.size 12 (d == 3)) ++ ((numG r.time 12 (d == 3)) ++ ((SP) ++ ((KL) ++ ((txtG r.link 100) ++ (magicL d.toNat)))))))))))) rfl rfl (by kernel_rfl) (by kernel_rfl) (by kernel_rfl) (fun _ _ _ h => h) (Or.inl ⟨by rfl, ?_⟩) (by assumption) ?_
  · (intro w' hSw; go_simp; try with_reducible rfl)
  simp only [List.setIfInBounds_toArray, List.set_cons_succ, List.set_cons_zero]
  clear hc
  refine wpAnyH_ready (rs := [46]) (by kernel_rfl) (by simp) ?_
  refine AllReadyH.cons rfl (fun K hK => ?_) AllReadyH.nil
  rw [if_pos (by rfl)]
  refine call_at (R := fun v V => v = .string (mkS (txtG r.user 32)) ∧ V.heap[w.heap.size + 1 + 1]? = some (.cells #[.bool ((((((((true && txtOk r.name 100) && numOk r.mode 8 (d == 3)) && numOk r.uid 8 (d == 3)) && numOk r.gid 8 (d == 3)) && numOk r.size 12 (d == 3)) && numOk r.time 12 (d == 3)) && txtOk r.link 100) && txtOk r.user 32)] 4 (0, 0)) ∧ But v9.heap.size (w.heap.size + 1 + 1) v9 V) 102 rfl 232 #[.string (mkS r.user), .int .i64 32, .pointer (some ⟨w.heap.size + 1 + 1, 0, none⟩)] (by kernel_rfl) ((refWt_any r.user 32 _ (((((((true && txtOk r.name 100) && numOk r.mode 8 (d == 3)) && numOk r.uid 8 (d == 3)) && numOk r.gid 8 (d == 3)) && numOk r.size 12 (d == 3)) && numOk r.time 12 (d == 3)) && txtOk r.link 100) HT.out.user (by omega) _ hv9.out.box).mono (by rintro e V ⟨he, hx, hb⟩; exact ⟨_, he, rfl, hx, hb⟩)) ?_
  rintro _ v10 ⟨rfl, hx4, h4⟩
  have hv10 := Lib.hid (hv9.out.but h4 hx4)
  refine hK.out _ _ ⟨hv10.out.dl, hv10.out.row⟩ (fun hHeld2 => ?_)
  clear hK h4 hv9 hHeld
  have hHeld := hHeld2
  clear hHeld2
  clear hx4
  (try simp only [Act.put]); (try simp only [List.setIfInBounds_toArray]); (try simp only [List.set_cons_succ]); (try simp only [List.set_cons_zero])
  have hc : ∀ w, (Op.stringOp .add (mkS ((txtG r.name 100) ++ ((numG r.mode 8 (d == 3)) ++ ((numG r.uid 8 (d == 3)) ++ ((numG r.gid 8 (d == 3)) ++ ((numG r.size 12 (d == 3)) ++ ((numG r.time 12 (d == 3)) ++ ((SP) ++ ((KL) ++ ((txtG r.link 100) ++ (magicL d.toNat))))))))))) (mkS (txtG r.user 32))).run Tryz.prog w = .ok (.string (mkS ((txtG r.name 100) ++ ((numG r.mode 8 (d == 3)) ++ ((numG r.uid 8 (d == 3)) ++ ((numG r.gid 8 (d == 3)) ++ ((numG r.size 12 (d == 3)) ++ ((numG r.time 12 (d == 3)) ++ ((SP) ++ ((KL) ++ ((txtG r.link 100) ++ ((magicL d.toNat) ++ (txtG r.user 32))))))))))))) w := fun w => by
    have h := mkS_cat2 ((txtG r.name 100) ++ ((numG r.mode 8 (d == 3)) ++ ((numG r.uid 8 (d == 3)) ++ ((numG r.gid 8 (d == 3)) ++ ((numG r.size 12 (d == 3)) ++ ((numG r.time 12 (d == 3)) ++ ((SP) ++ ((KL) ++ ((txtG r.link 100) ++ (magicL d.toNat)))))))))) (txtG r.user 32) (by (try simp only [List.length_append]); omega) w
    simpa only [List.append_assoc] using h
  refine take_to (i := 47) 103 (.string (mkS ((txtG r.name 100) ++ ((numG r.mode 8 (d == 3)) ++ ((numG r.uid 8 (d == 3)) ++ ((numG r.gid 8 (d == 3)) ++ ((numG r.size 12 (d == 3)) ++ ((numG r.time 12 (d == 3)) ++ ((SP) ++ ((KL) ++ ((txtG r.link 100) ++ ((magicL d.toNat) ++ (txtG r.user 32))))))))))))) rfl rfl (by kernel_rfl) (by kernel_rfl) (by kernel_rfl) (fun _ _ _ h => h) (Or.inl ⟨by rfl, ?_⟩) (by assumption) ?_
  · (intro w' hSw; go_simp; try with_reducible rfl)
  simp only [List.setIfInBounds_toArray, List.set_cons_succ, List.set_cons_zero]
  clear hc
  refine wpAnyH_ready (rs := [51]) (by kernel_rfl) (by simp) ?_
  refine AllReadyH.cons rfl (fun K hK => ?_) AllReadyH.nil
  rw [if_pos (by rfl)]
  refine call_at (R := fun v V => v = .string (mkS (txtG r.group 32)) ∧ V.heap[w.heap.size + 1 + 1]? = some (.cells #[.bool (((((((((true && txtOk r.name 100) && numOk r.mode 8 (d == 3)) && numOk r.uid 8 (d == 3)) && numOk r.gid 8 (d == 3)) && numOk r.size 12 (d == 3)) && numOk r.time 12 (d == 3)) && txtOk r.link 100) && txtOk r.user 32) && txtOk r.group 32)] 4 (0, 0)) ∧ But v10.heap.size (w.heap.size + 1 + 1) v10 V) 107 rfl 232 #[.string (mkS r.group), .int .i64 32, .pointer (some ⟨w.heap.size + 1 + 1, 0, none⟩)] (by kernel_rfl) ((refWt_any r.group 32 _ ((((((((true && txtOk r.name 100) && numOk r.mode 8 (d == 3)) && numOk r.uid 8 (d == 3)) && numOk r.gid 8 (d == 3)) && numOk r.size 12 (d == 3)) && numOk r.time 12 (d == 3)) && txtOk r.link 100) && txtOk r.user 32) HT.out.group (by omega) _ hv10.out.box).mono (by rintro e V ⟨he, hx, hb⟩; exact ⟨_, he, rfl, hx, hb⟩)) ?_
  rintro _ v11 ⟨rfl, hx4, h4⟩
  have hv11 := Lib.hid (hv10.out.but h4 hx4)
  refine hK.out _ _ ⟨hv11.out.dl, hv11.out.row⟩ (fun hHeld2 => ?_)
  clear hK h4 hv10 hHeld
  have hHeld := hHeld2
  clear hHeld2
  clear hx4
  (try simp only [Act.put]); (try simp only [List.setIfInBounds_toArray]); (try simp only [List.set_cons_succ]); (try simp only [List.set_cons_zero])
  have hc : ∀ w, (Op.stringOp .add (mkS ((txtG r.name 100) ++ ((numG r.mode 8 (d == 3)) ++ ((numG r.uid 8 (d == 3)) ++ ((numG r.gid 8 (d == 3)) ++ ((numG r.size 12 (d == 3)) ++ ((numG r.time 12 (d == 3)) ++ ((SP) ++ ((KL) ++ ((txtG r.link 100) ++ ((magicL d.toNat) ++ (txtG r.user 32)))))))))))) (mkS (txtG r.group 32))).run Tryz.prog w = .ok (.string (mkS ((txtG r.name 100) ++ ((numG r.mode 8 (d == 3)) ++ ((numG r.uid 8 (d == 3)) ++ ((numG r.gid 8 (d == 3)) ++ ((numG r.size 12 (d == 3)) ++ ((numG r.time 12 (d == 3)) ++ ((SP) ++ ((KL) ++ ((txtG r.link 100) ++ ((magicL d.toNat) ++ ((txtG r.user 32) ++ (txtG r.group 32)))))))))))))) w := fun w => by
    have h := mkS_cat2 ((txtG r.name 100) ++ ((numG r.mode 8 (d == 3)) ++ ((numG r.uid 8 (d == 3)) ++ ((numG r.gid 8 (d == 3)) ++ ((numG r.size 12 (d == 3)) ++ ((numG r.time 12 (d == 3)) ++ ((SP) ++ ((KL) ++ ((txtG r.link 100) ++ ((magicL d.toNat) ++ (txtG r.user 32))))))))))) (txtG r.group 32) (by (try simp only [List.length_append]); omega) w
    simpa only [List.append_assoc] using h
  refine take_to (i := 52) 108 (.string (mkS ((txtG r.name 100) ++ ((numG r.mode 8 (d == 3)) ++ ((numG r.uid 8 (d == 3)) ++ ((numG r.gid 8 (d == 3)) ++ ((numG r.size 12 (d == 3)) ++ ((numG r.time 12 (d == 3)) ++ ((SP) ++ ((KL) ++ ((txtG r.link 100) ++ ((magicL d.toNat) ++ ((txtG r.user 32) ++ (txtG r.group 32)))))))))))))) rfl rfl (by kernel_rfl) (by kernel_rfl) (by kernel_rfl) (fun _ _ _ h => h) (Or.inl ⟨by rfl, ?_⟩) (by assumption) ?_
  · (intro w' hSw; go_simp; try with_reducible rfl)
  simp only [List.setIfInBounds_toArray, List.set_cons_succ, List.set_cons_zero]
  clear hc
  refine take_to (i := 53) 9 (.string (mkS ((txtG r.name 100) ++ ((numG r.mode 8 (d == 3)) ++ ((numG r.uid 8 (d == 3)) ++ ((numG r.gid 8 (d == 3)) ++ ((numG r.size 12 (d == 3)) ++ ((numG r.time 12 (d == 3)) ++ ((SP) ++ ((KL) ++ ((txtG r.link 100) ++ ((magicL d.toNat) ++ ((txtG r.user 32) ++ (txtG r.group 32)))))))))))))) rfl rfl (by kernel_rfl) (by kernel_rfl) (by kernel_rfl) (fun _ _ _ h => h) (Or.inl ⟨by rfl, fun _ _ => rfl⟩) (by assumption) ?_
  simp only [List.setIfInBounds_toArray, List.set_cons_succ, List.set_cons_zero]
  refine wpAnyH_done (by kernel_rfl) ?_ _
  have n1 := N1.out
  have n3 := N3.out
  go_wp2_with fail
  obtain ⟨AA, hAA⟩ : ∃ s : List UInt8, s = (txtG r.name 100) ++ ((numG r.mode 8 (d == 3)) ++ ((numG r.uid 8 (d == 3)) ++ ((numG r.gid 8 (d == 3)) ++ ((numG r.size 12 (d == 3)) ++ ((numG r.time 12 (d == 3)) ++ ((SP) ++ ((KL) ++ ((txtG r.link 100) ++ ((magicL d.toNat) ++ ((txtG r.user 32) ++ (txtG r.group 32))))))))))) := ⟨_, rfl⟩
  rw [← hAA]
  have HAA := Lib.hid hAA
  have lA : AA.length ≤ 400 := by rw [hAA]; simp only [List.length_append]; omega
  clear hAA
  have N1 := Lib.hid n1
  have N3 := Lib.hid n3
  clear n1 n3
  refine wp_region_held_drew (S := fun w' => w'.cell? ⟨w.heap.size, 0, none⟩ = some (.int .i64 d) ∧ RawAt w' (w.heap.size + 1) r) (by kernel_rfl) ⟨hv11.out.drew.dl, hv11.out.drew.row⟩ (fun hHeld => ?_)
  have hv11d := Lib.hid hv11.out.drew
  generalize v11.drew = v11d at *
  refine take_to (i := 0) 114 (.string (mkS AA)) rfl rfl (by kernel_rfl) (by kernel_rfl) (by kernel_rfl) (fun _ _ _ h => h) (Or.inl ⟨by rfl, fun _ _ => rfl⟩) (by assumption) ?_
  simp only [List.setIfInBounds_toArray, List.set_cons_succ, List.set_cons_zero]
  refine take_to (i := 1) 115 (.func (.func 233) #[] #[.pointer (some ⟨w.heap.size, 0, none⟩), .pointer (some ⟨w.heap.size + 1 + 1, 0, none⟩)]) rfl rfl (by kernel_rfl) (by kernel_rfl) (by kernel_rfl) (fun _ _ _ h => h) (Or.inl ⟨by rfl, fun _ _ => rfl⟩) (by assumption) ?_
  simp only [List.setIfInBounds_toArray, List.set_cons_succ, List.set_cons_zero]
  refine take_to (i := 5) 119 (.func (.func 233) #[] #[.pointer (some ⟨w.heap.size, 0, none⟩), .pointer (some ⟨w.heap.size + 1 + 1, 0, none⟩)]) rfl rfl (by kernel_rfl) (by kernel_rfl) (by kernel_rfl) (fun _ _ _ h => h) (Or.inl ⟨by rfl, fun _ _ => rfl⟩) (by assumption) ?_
  simp only [List.setIfInBounds_toArray, List.set_cons_succ, List.set_cons_zero]
  refine take_to (i := 2) 116 (.pointer (some ⟨w.heap.size + 1, 11, none⟩)) rfl rfl (by kernel_rfl) (by kernel_rfl) (by kernel_rfl) (fun _ _ _ h => h) (Or.inl ⟨by rfl, fun _ _ => by kernel_rfl⟩) (by assumption) ?_
  simp only [List.setIfInBounds_toArray, List.set_cons_succ, List.set_cons_zero]
  refine take_to (i := 6) 120 (.pointer (some ⟨w.heap.size + 1, 12, none⟩)) rfl rfl (by kernel_rfl) (by kernel_rfl) (by kernel_rfl) (fun _ _ _ h => h) (Or.inl ⟨by rfl, fun _ _ => by kernel_rfl⟩) (by assumption) ?_
  simp only [List.setIfInBounds_toArray, List.set_cons_succ, List.set_cons_zero]
  refine take_to (i := 3) 117 (.int .i64 r.major) rfl rfl (by kernel_rfl) (by kernel_rfl) (by kernel_rfl) (fun _ _ _ h => h) (Or.inl ⟨by rfl, ?_⟩) (by assumption) ?_
  · (intro w' hSw; obtain ⟨e0, e1, e2, e3, e4, e5, e6, e7, e8, e9, e10, e11, e12, e13⟩ := hSw; go_simp; try with_reducible rfl)
  simp only [List.setIfInBounds_toArray, List.set_cons_succ, List.set_cons_zero]
  refine take_to (i := 7) 121 (.int .i64 r.minor) rfl rfl (by kernel_rfl) (by kernel_rfl) (by kernel_rfl) (fun _ _ _ h => h) (Or.inl ⟨by rfl, ?_⟩) (by assumption) ?_
  · (intro w' hSw; obtain ⟨e0, e1, e2, e3, e4, e5, e6, e7, e8, e9, e10, e11, e12, e13⟩ := hSw; go_simp; try with_reducible rfl)
  simp only [List.setIfInBounds_toArray, List.set_cons_succ, List.set_cons_zero]
  refine wpAnyH_ready (rs := [4]) (by kernel_rfl) (by simp) ?_
  refine AllReadyH.cons rfl (fun K hK => ?_) AllReadyH.nil
  rw [if_pos (by rfl)]
  refine call_at (R := fun v V => v = .string (mkS (numG r.major 8 (d == 3))) ∧ V.heap[w.heap.size + 1 + 1]? = some (.cells #[.bool ((((((((((true && txtOk r.name 100) && numOk r.mode 8 (d == 3)) && numOk r.uid 8 (d == 3)) && numOk r.gid 8 (d == 3)) && numOk r.size 12 (d == 3)) && numOk r.time 12 (d == 3)) && txtOk r.link 100) && txtOk r.user 32) && txtOk r.group 32) && numOk r.major 8 (d == 3))] 4 (0, 0)) ∧ But v11d.heap.size (w.heap.size + 1 + 1) v11d V) 118 rfl 233 #[.int .i64 r.major, .int .i64 8, .pointer (some ⟨w.heap.size, 0, none⟩), .pointer (some ⟨w.heap.size + 1 + 1, 0, none⟩)] (by kernel_rfl) ((refWn_any r.major HI.out.major 8 d _ _ (((((((((true && txtOk r.name 100) && numOk r.mode 8 (d == 3)) && numOk r.uid 8 (d == 3)) && numOk r.gid 8 (d == 3)) && numOk r.size 12 (d == 3)) && numOk r.time 12 (d == 3)) && txtOk r.link 100) && txtOk r.user 32) && txtOk r.group 32) (by omega) _ hv11d.out.dl hv11d.out.box).mono (by rintro e V ⟨he, hx, hb⟩; exact ⟨_, he, rfl, hx, hb⟩)) ?_
  rintro _ v12 ⟨rfl, hx4, h4⟩
  have hv12 := Lib.hid (hv11d.out.but h4 hx4)
  refine hK.out _ _ ⟨hv12.out.dl, hv12.out.row⟩ (fun hHeld2 => ?_)
  clear hK h4 hv11d hHeld
  have hHeld := hHeld2
  clear hHeld2
  clear hx4
  (try simp only [Act.put]); (try simp only [List.setIfInBounds_toArray]); (try simp only [List.set_cons_succ]); (try simp only [List.set_cons_zero])
  refine wpAnyH_ready (rs := [8]) (by kernel_rfl) (by simp) ?_
  refine AllReadyH.cons rfl (fun K hK => ?_) AllReadyH.nil
  rw [if_pos (by rfl)]
  refine call_at (R := fun v V => v = .string (mkS (numG r.minor 8 (d == 3))) ∧ V.heap[w.heap.size + 1 + 1]? = some (.cells #[.bool (((((((((((true && txtOk r.name 100) && numOk r.mode 8 (d == 3)) && numOk r.uid 8 (d == 3)) && numOk r.gid 8 (d == 3)) && numOk r.size 12 (d == 3)) && numOk r.time 12 (d == 3)) && txtOk r.link 100) && txtOk r.user 32) && txtOk r.group 32) && numOk r.major 8 (d == 3)) && numOk r.minor 8 (d == 3))] 4 (0, 0)) ∧ But v12.heap.size (w.heap.size + 1 + 1) v12 V) 122 rfl 233 #[.int .i64 r.minor, .int .i64 8, .pointer (some ⟨w.heap.size, 0, none⟩), .pointer (some ⟨w.heap.size + 1 + 1, 0, none⟩)] (by kernel_rfl) ((refWn_any r.minor HI.out.minor 8 d _ _ ((((((((((true && txtOk r.name 100) && numOk r.mode 8 (d == 3)) && numOk r.uid 8 (d == 3)) && numOk r.gid 8 (d == 3)) && numOk r.size 12 (d == 3)) && numOk r.time 12 (d == 3)) && txtOk r.link 100) && txtOk r.user 32) && txtOk r.group 32) && numOk r.major 8 (d == 3)) (by omega) _ hv12.out.dl hv12.out.box).mono (by rintro e V ⟨he, hx, hb⟩; exact ⟨_, he, rfl, hx, hb⟩)) ?_
  rintro _ v13 ⟨rfl, hx4, h4⟩
  have hv13 := Lib.hid (hv12.out.but h4 hx4)
  refine hK.out _ _ ⟨hv13.out.dl, hv13.out.row⟩ (fun hHeld2 => ?_)
  clear hK h4 hv12 hHeld
  have hHeld := hHeld2
  clear hHeld2
  clear hx4
  (try simp only [Act.put]); (try simp only [List.setIfInBounds_toArray]); (try simp only [List.set_cons_succ]); (try simp only [List.set_cons_zero])
  have hc : ∀ w, (Op.stringOp .add (mkS (numG r.major 8 (d == 3))) (mkS (numG r.minor 8 (d == 3)))).run Tryz.prog w = .ok (.string (mkS ((numG r.major 8 (d == 3)) ++ (numG r.minor 8 (d == 3))))) w := fun w => by
    have h := mkS_cat2 (numG r.major 8 (d == 3)) (numG r.minor 8 (d == 3)) (by (try simp only [List.length_append]); omega) w
    simpa only [List.append_assoc] using h
  refine take_to (i := 9) 123 (.string (mkS ((numG r.major 8 (d == 3)) ++ (numG r.minor 8 (d == 3))))) rfl rfl (by kernel_rfl) (by kernel_rfl) (by kernel_rfl) (fun _ _ _ h => h) (Or.inl ⟨by rfl, ?_⟩) (by assumption) ?_
  · (intro w' hSw; go_simp; try with_reducible rfl)
  simp only [List.setIfInBounds_toArray, List.set_cons_succ, List.set_cons_zero]
  clear hc
  have hc : ∀ w, (Op.stringOp .add (mkS (AA)) (mkS ((numG r.major 8 (d == 3)) ++ (numG r.minor 8 (d == 3))))).run Tryz.prog w = .ok (.string (mkS (AA ++ ((numG r.major 8 (d == 3)) ++ (numG r.minor 8 (d == 3)))))) w := fun w => by
    have h := mkS_cat2 (AA) ((numG r.major 8 (d == 3)) ++ (numG r.minor 8 (d == 3))) (by (try simp only [List.length_append]); omega) w
    simpa only [List.append_assoc] using h
  refine take_to (i := 10) 124 (.string (mkS (AA ++ ((numG r.major 8 (d == 3)) ++ (numG r.minor 8 (d == 3)))))) rfl rfl (by kernel_rfl) (by kernel_rfl) (by kernel_rfl) (fun _ _ _ h => h) (Or.inl ⟨by rfl, ?_⟩) (by assumption) ?_
  · (intro w' hSw; go_simp; try with_reducible rfl)
  simp only [List.setIfInBounds_toArray, List.set_cons_succ, List.set_cons_zero]
  clear hc
  refine take_to (i := 11) 9 (.string (mkS (AA ++ ((numG r.major 8 (d == 3)) ++ (numG r.minor 8 (d == 3)))))) rfl rfl (by kernel_rfl) (by kernel_rfl) (by kernel_rfl) (fun _ _ _ h => h) (Or.inl ⟨by rfl, fun _ _ => rfl⟩) (by assumption) ?_
  simp only [List.setIfInBounds_toArray, List.set_cons_succ, List.set_cons_zero]
  refine wpAnyH_done (by kernel_rfl) ?_ _
  have n1 := N1.out
  have n3 := N3.out
  obtain ⟨BB, hBB⟩ : ∃ s : List UInt8, s = AA ++ ((numG r.major 8 (d == 3)) ++ (numG r.minor 8 (d == 3))) := ⟨_, rfl⟩
  rw [← hBB]
  have HBB := Lib.hid hBB
  have lB : BB.length ≤ 420 := by rw [hBB]; simp only [List.length_append, List.length_replicate]; omega
  clear hBB
  have CF := Lib.hid (fun (W : World) (h : HwIs d r w (((((((((((true && txtOk r.name 100) && numOk r.mode 8 (d == 3)) && numOk r.uid 8 (d == 3)) && numOk r.gid 8 (d == 3)) && numOk r.size 12 (d == 3)) && numOk r.time 12 (d == 3)) && txtOk r.link 100) && txtOk r.user 32) && txtOk r.group 32) && numOk r.major 8 (d == 3)) && numOk r.minor 8 (d == 3)) W) => show Calls Tryz.prog 232 #[.string (mkS r.front), .int .i64 155, .pointer (some ⟨w.heap.size + 1 + 1, 0, none⟩)] W fun e w' => e = .returned (.string (mkS (txtG r.front 155))) ∧ w'.heap[w.heap.size + 1 + 1]? = some (.cells #[.bool ((((((((((((true && txtOk r.name 100) && numOk r.mode 8 (d == 3)) && numOk r.uid 8 (d == 3)) && numOk r.gid 8 (d == 3)) && numOk r.size 12 (d == 3)) && numOk r.time 12 (d == 3)) && txtOk r.link 100) && txtOk r.user 32) && txtOk r.group 32) && numOk r.major 8 (d == 3)) && numOk r.minor 8 (d == 3)) && txtOk r.front 155)] 4 (0, 0)) ∧ But W.heap.size (w.heap.size + 1 + 1) W w' from refWt_any r.front 155 _ (((((((((((true && txtOk r.name 100) && numOk r.mode 8 (d == 3)) && numOk r.uid 8 (d == 3)) && numOk r.gid 8 (d == 3)) && numOk r.size 12 (d == 3)) && numOk r.time 12 (d == 3)) && txtOk r.link 100) && txtOk r.user 32) && txtOk r.group 32) && numOk r.major 8 (d == 3)) && numOk r.minor 8 (d == 3)) HT.out.front (by omega) W h.box)
  have FG := Lib.hid (flags_two (r := r) HD.out HN1.out)
  have BI := Lib.hid (body_two (r := r) HD.out HN1.out)
  rw [← HSP.out, ← HKL.out, ← HAA.out, ← HBB.out] at BI
  generalize ((((((((((((true && txtOk r.name 100) && numOk r.mode 8 (d == 3)) && numOk r.uid 8 (d == 3)) && numOk r.gid 8 (d == 3)) && numOk r.size 12 (d == 3)) && numOk r.time 12 (d == 3)) && txtOk r.link 100) && txtOk r.user 32) && txtOk r.group 32) && numOk r.major 8 (d == 3)) && numOk r.minor 8 (d == 3)) && txtOk r.front 155) = zz at *
  obtain ⟨XF, hXF⟩ : ∃ s : List UInt8, s = txtG r.front 155 := ⟨_, rfl⟩
  obtain ⟨RP, hRP⟩ : ∃ s : List UInt8, s = List.replicate 12 (0 : UInt8) := ⟨_, rfl⟩
  have lX : XF.length ≤ 155 := by rw [hXF]; omega
  have lR : RP.length = 12 := by rw [hRP]; simp
  have CR := Lib.hid (fun w => show Calls Tryz.prog 121 #[.string ⟨#[0]⟩, .int .i64 12] w fun e w' => e = .returned (.string (mkS RP)) ∧ Below w.heap.size w w' by rw [hRP]; exact rep_zero 12 w (by omega))
  rw [← hXF] at CF BI
  rw [← hRP] at BI
  clear hXF hRP
  have hc1 := fun w => mkS_cat2 XF RP (by omega) w
  have hc2 := fun w => mkS_cat2 BB (XF ++ RP) (by simp only [List.length_append]; omega) w
  have c4 := hv13.out.row.2.2.2.2.1
  cases zz with
  | true =>
    have HG := (FG.out.1 rfl)
    have HL := Lib.hid (show (mkS (BB ++ (XF ++ RP))).size = 512 by rw [BI.out, mkS_size]; exact bodyL_length (goodL.wide HG.1 HG.2))
    have HW := Lib.hid (show WriteIs d r (sealL (BB ++ (XF ++ RP))) 0 by rw [BI.out]; exact .ok d r HD.out.1 ⟨by have := HD.out; omega, HK.out, HBR.out, HG.1, HG.2⟩)
    clear HG
    go_wp2_with (first
      | (go_at_call 232; (with_reducible refine (CF.out _ hv13.out).mono ?_); rintro e y1 ⟨rfl, hx4, h4⟩; have hy1 := Lib.hid (hv13.out.but h4 hx4); clear h4 hx4)
      | (go_at_call 121; (with_reducible refine (CR.out _).mono ?_); rintro e y2 ⟨rfl, h4⟩; have hy2 := Lib.hid (hy1.out.text h4); have bx := cell_of_one hy2.out.box; clear h4)
      | (go_at_call 160; (with_reducible refine (refSeal_ok _ _ HL.out).mono ?_); rintro e y3 ⟨rfl, h5⟩; rw [sealB_mkS])
      | fail)
    refine bodyPost_ret (v := .tuple #[.string (mkS (sealL (BB ++ (XF ++ RP)))), .int .i64 0]) (by simp [results, Tryz.results169, go_sem]) rfl ?_
    exact ⟨_, _, HW.out, rfl, hy2.out.below.trans (h5.mono hy2.out.below.size)⟩
  | false =>
    have HW := Lib.hid (show WriteIs d r [] 2 from .range d r HD.out HK.out fun g => by have := FG.out.2 ⟨g.2.2.2.1, g.2.2.2.2⟩; cases this)
    go_wp2_with (first
      | (go_at_call 232; (with_reducible refine (CF.out _ hv13.out).mono ?_); rintro e y1 ⟨rfl, hx4, h4⟩; have hy1 := Lib.hid (hv13.out.but h4 hx4); clear h4 hx4)
      | (go_at_call 121; (with_reducible refine (CR.out _).mono ?_); rintro e y2 ⟨rfl, h4⟩; have hy2 := Lib.hid (hy1.out.text h4); have bx := cell_of_one hy2.out.box; clear h4)
      | fail)
    refine bodyPost_ret (v := .tuple #[.string ⟨#[]⟩, .int .i64 2]) (by simp [results, Tryz.results169, go_sem]) rfl ?_
    exact ⟨_, _, HW.out, rfl, hy2.out.below⟩
set_option maxRecDepth 100000 in
set_option maxHeartbeats 40000000 in
theorem refW_one (d : Int) (hd2 : d = 1) (hd : 1 ≤ d ∧ d ≤ 4) (r : RawL) (hk : r.kind ≠ 0) (hbr : bearsL d.toNat r) (ht : TextsLe r) (hi : IntsIn r) (w : World) :
    Calls Tryz.prog 169 #[.int .i64 d, rawV r] w (RefWPost d r w) := by
  have HK := Lib.hid hk
  have HBR := Lib.hid hbr
  have HN1 := Lib.hid (show d = 1 by omega)
  replace hk : ((r.kind.toNat : Int) == 0) = false := by
    rw [beq_eq_false_iff_ne]; intro e; exact hk (UInt8.toNat_inj.1 (by show r.kind.toNat = 0; omega))
  have HD := Lib.hid hd
  have HT := Lib.hid ht
  have HI := Lib.hid hi
  have WI := Lib.hid (fun w => within_any d 1 4 w)
  rw [decide_eq_true hd] at WI
  have hH0 := Lib.hid (HwIs.init d r w)
  have l0 := txtG_le r.name 100
  have l1 := txtG_le r.link 100
  have l2 := txtG_le r.user 32
  have l3 := txtG_le r.group 32
  have l4 := txtG_le r.front 155
  have l5 := numG_le r.mode 8 (by omega) (d == 3)
  have l6 := numG_le r.uid 8 (by omega) (d == 3)
  have l7 := numG_le r.gid 8 (by omega) (d == 3)
  have l8 := numG_le r.size 12 (by omega) (d == 3)
  have l9 := numG_le r.time 12 (by omega) (d == 3)
  have l10 := numG_le r.major 8 (by omega) (d == 3)
  have l11 := numG_le r.minor 8 (by omega) (d == 3)
  have l12 := Nat.le_of_eq (magicL_length d.toNat)
  obtain ⟨SP, hSP⟩ : ∃ s : List UInt8, s = [32, 32, 32, 32, 32, 32, 32, 32] := ⟨_, rfl⟩
  obtain ⟨KL, hKL⟩ : ∃ s : List UInt8, s = [r.kind] := ⟨_, rfl⟩
  have HSP := Lib.hid hSP
  have HKL := Lib.hid hKL
  have l13 : SP.length = 8 := by rw [hSP]; rfl
  have l14 : KL.length = 1 := by rw [hKL]; rfl
  have HKC := Lib.hid (fun w => char_mkS r.kind w)
  rw [← hKL] at HKC
  clear hSP hKL
  have n1 : (d == 1) = true := by rw [hd2]; rfl
  have n3 : (d == 3) = false := by rw [hd2]; rfl
  have k1 : (0 : Int) ≤ (r.kind.toNat : Int) := by omega
  have k2 : (r.kind.toNat : Int) ≤ 255 := by have := r.kind.toNat_lt; omega
  have hb5 := hbr.1 (by rw [hd2]; rfl)
  have hf : (mkS (r.user ++ (r.group ++ r.front))).toList.isEmpty = true := by rw [emp_is, hb5.1, hb5.2.1, hb5.2.2.1]; rfl
  have hg1 := ht.user
  have hg2 := ht.group
  have hg3 := ht.front
  have hcA := fun w => mkS_cat2 r.user r.group (by omega) w
  have hcB : ∀ w, (Op.stringOp .add (mkS (r.user ++ r.group)) (mkS r.front)).run Tryz.prog w = .ok (.string (mkS (r.user ++ (r.group ++ r.front)))) w := fun w => by
    have h := mkS_cat2 (r.user ++ r.group) r.front (by simp only [List.length_append]; omega) w
    simpa only [List.append_assoc] using h
  have hm1 : r.major = 0 := hb5.2.2.2.1
  have hm2 : r.minor = 0 := hb5.2.2.2.2
  replace hH0 := Lib.hid (show HwIs d r w true (((w.alloc (.cells #[.int .i64 d] 3)).alloc (.cells #[.string (mkS r.name), .string (mkS r.link), .string (mkS r.user), .string (mkS r.group), .string (mkS r.front), .int .u8 (r.kind.toNat : Int), .int .i64 r.mode, .int .i64 r.uid, .int .i64 r.gid, .int .i64 r.size, .int .i64 r.time, .int .i64 0, .int .i64 0] 67)).alloc (.cells #[.bool true] 4)) by
    have h := hH0.out
    rw [hb5.2.2.2.1, hb5.2.2.2.2] at h
    exact h)
  clear hb5 hg1 hg2 hg3
  clear hd ht hi hd2 hbr
  unfold rawV
  go_enter Tryz.func169, Tryz.ntmps169
  go_wp2_with (first
    | (go_at_call 29; (with_reducible refine (WI.out _).mono ?_); rintro e w' ⟨rfl, hw⟩; subst hw)
    | fail)
  generalize ((w.alloc (.cells #[.int .i64 d] 3)).alloc (.cells #[.string (mkS r.name), .string (mkS r.link), .string (mkS r.user), .string (mkS r.group), .string (mkS r.front), .int .u8 (r.kind.toNat : Int), .int .i64 r.mode, .int .i64 r.uid, .int .i64 r.gid, .int .i64 r.size, .int .i64 r.time, .int .i64 0, .int .i64 0] 67)).alloc (.cells #[.bool true] 4) = W0 at *
  refine wp_region_held_drew (S := fun w' => w'.cell? ⟨w.heap.size, 0, none⟩ = some (.int .i64 d) ∧ RawAt w' (w.heap.size + 1) r) (by kernel_rfl) ⟨hH0.out.drew.dl, hH0.out.drew.row⟩ (fun hHeld => ?_)
  have hv0 := Lib.hid hH0.out.drew
  generalize W0.drew = v0 at *
  have N1 := Lib.hid n1
  have N3 := Lib.hid n3
  have kw : IntKind.i64.wrap (r.kind.toNat : Int) = (r.kind.toNat : Int) := IntWalk.i64_in _ (by omega)
  clear n1 n3
  refine take_to (i := 0) 56 (.func (.func 232) #[] #[.pointer (some ⟨w.heap.size + 1 + 1, 0, none⟩)]) rfl rfl (by kernel_rfl) (by kernel_rfl) (by kernel_rfl) (fun _ _ _ h => h) (Or.inl ⟨by rfl, fun _ _ => rfl⟩) (by assumption) ?_
  simp only [List.setIfInBounds_toArray, List.set_cons_succ, List.set_cons_zero]
  refine take_to (i := 35) 91 (.func (.func 232) #[] #[.pointer (some ⟨w.heap.size + 1 + 1, 0, none⟩)]) rfl rfl (by kernel_rfl) (by kernel_rfl) (by kernel_rfl) (fun _ _ _ h => h) (Or.inl ⟨by rfl, fun _ _ => rfl⟩) (by assumption) ?_
  simp only [List.setIfInBounds_toArray, List.set_cons_succ, List.set_cons_zero]
  refine take_to (i := 43) 99 (.func (.func 232) #[] #[.pointer (some ⟨w.heap.size + 1 + 1, 0, none⟩)]) rfl rfl (by kernel_rfl) (by kernel_rfl) (by kernel_rfl) (fun _ _ _ h => h) (Or.inl ⟨by rfl, fun _ _ => rfl⟩) (by assumption) ?_
  simp only [List.setIfInBounds_toArray, List.set_cons_succ, List.set_cons_zero]
  refine take_to (i := 48) 104 (.func (.func 232) #[] #[.pointer (some ⟨w.heap.size + 1 + 1, 0, none⟩)]) rfl rfl (by kernel_rfl) (by kernel_rfl) (by kernel_rfl) (fun _ _ _ h => h) (Or.inl ⟨by rfl, fun _ _ => rfl⟩) (by assumption) ?_
  simp only [List.setIfInBounds_toArray, List.set_cons_succ, List.set_cons_zero]
  refine take_to (i := 4) 60 (.func (.func 233) #[] #[.pointer (some ⟨w.heap.size, 0, none⟩), .pointer (some ⟨w.heap.size + 1 + 1, 0, none⟩)]) rfl rfl (by kernel_rfl) (by kernel_rfl) (by kernel_rfl) (fun _ _ _ h => h) (Or.inl ⟨by rfl, fun _ _ => rfl⟩) (by assumption) ?_
  simp only [List.setIfInBounds_toArray, List.set_cons_succ, List.set_cons_zero]
  refine take_to (i := 9) 65 (.func (.func 233) #[] #[.pointer (some ⟨w.heap.size, 0, none⟩), .pointer (some ⟨w.heap.size + 1 + 1, 0, none⟩)]) rfl rfl (by kernel_rfl) (by kernel_rfl) (by kernel_rfl) (fun _ _ _ h => h) (Or.inl ⟨by rfl, fun _ _ => rfl⟩) (by assumption) ?_
  simp only [List.setIfInBounds_toArray, List.set_cons_succ, List.set_cons_zero]
  refine take_to (i := 14) 70 (.func (.func 233) #[] #[.pointer (some ⟨w.heap.size, 0, none⟩), .pointer (some ⟨w.heap.size + 1 + 1, 0, none⟩)]) rfl rfl (by kernel_rfl) (by kernel_rfl) (by kernel_rfl) (fun _ _ _ h => h) (Or.inl ⟨by rfl, fun _ _ => rfl⟩) (by assumption) ?_
  simp only [List.setIfInBounds_toArray, List.set_cons_succ, List.set_cons_zero]
  refine take_to (i := 19) 75 (.func (.func 233) #[] #[.pointer (some ⟨w.heap.size, 0, none⟩), .pointer (some ⟨w.heap.size + 1 + 1, 0, none⟩)]) rfl rfl (by kernel_rfl) (by kernel_rfl) (by kernel_rfl) (fun _ _ _ h => h) (Or.inl ⟨by rfl, fun _ _ => rfl⟩) (by assumption) ?_
  simp only [List.setIfInBounds_toArray, List.set_cons_succ, List.set_cons_zero]
  refine take_to (i := 24) 80 (.func (.func 233) #[] #[.pointer (some ⟨w.heap.size, 0, none⟩), .pointer (some ⟨w.heap.size + 1 + 1, 0, none⟩)]) rfl rfl (by kernel_rfl) (by kernel_rfl) (by kernel_rfl) (fun _ _ _ h => h) (Or.inl ⟨by rfl, fun _ _ => rfl⟩) (by assumption) ?_
  simp only [List.setIfInBounds_toArray, List.set_cons_succ, List.set_cons_zero]
  refine take_to (i := 1) 57 (.pointer (some ⟨w.heap.size + 1, 0, none⟩)) rfl rfl (by kernel_rfl) (by kernel_rfl) (by kernel_rfl) (fun _ _ _ h => h) (Or.inl ⟨by rfl, fun _ _ => by kernel_rfl⟩) (by assumption) ?_
  simp only [List.setIfInBounds_toArray, List.set_cons_succ, List.set_cons_zero]
  refine take_to (i := 5) 61 (.pointer (some ⟨w.heap.size + 1, 6, none⟩)) rfl rfl (by kernel_rfl) (by kernel_rfl) (by kernel_rfl) (fun _ _ _ h => h) (Or.inl ⟨by rfl, fun _ _ => by kernel_rfl⟩) (by assumption) ?_
  simp only [List.setIfInBounds_toArray, List.set_cons_succ, List.set_cons_zero]
  refine take_to (i := 10) 66 (.pointer (some ⟨w.heap.size + 1, 7, none⟩)) rfl rfl (by kernel_rfl) (by kernel_rfl) (by kernel_rfl) (fun _ _ _ h => h) (Or.inl ⟨by rfl, fun _ _ => by kernel_rfl⟩) (by assumption) ?_
  simp only [List.setIfInBounds_toArray, List.set_cons_succ, List.set_cons_zero]
  refine take_to (i := 15) 71 (.pointer (some ⟨w.heap.size + 1, 8, none⟩)) rfl rfl (by kernel_rfl) (by kernel_rfl) (by kernel_rfl) (fun _ _ _ h => h) (Or.inl ⟨by rfl, fun _ _ => by kernel_rfl⟩) (by assumption) ?_
  simp only [List.setIfInBounds_toArray, List.set_cons_succ, List.set_cons_zero]
  refine take_to (i := 20) 76 (.pointer (some ⟨w.heap.size + 1, 9, none⟩)) rfl rfl (by kernel_rfl) (by kernel_rfl) (by kernel_rfl) (fun _ _ _ h => h) (Or.inl ⟨by rfl, fun _ _ => by kernel_rfl⟩) (by assumption) ?_
  simp only [List.setIfInBounds_toArray, List.set_cons_succ, List.set_cons_zero]
  refine take_to (i := 25) 81 (.pointer (some ⟨w.heap.size + 1, 10, none⟩)) rfl rfl (by kernel_rfl) (by kernel_rfl) (by kernel_rfl) (fun _ _ _ h => h) (Or.inl ⟨by rfl, fun _ _ => by kernel_rfl⟩) (by assumption) ?_
  simp only [List.setIfInBounds_toArray, List.set_cons_succ, List.set_cons_zero]
  refine take_to (i := 30) 86 (.pointer (some ⟨w.heap.size + 1, 5, none⟩)) rfl rfl (by kernel_rfl) (by kernel_rfl) (by kernel_rfl) (fun _ _ _ h => h) (Or.inl ⟨by rfl, fun _ _ => by kernel_rfl⟩) (by assumption) ?_
  simp only [List.setIfInBounds_toArray, List.set_cons_succ, List.set_cons_zero]
  refine take_to (i := 36) 92 (.pointer (some ⟨w.heap.size + 1, 1, none⟩)) rfl rfl (by kernel_rfl) (by kernel_rfl) (by kernel_rfl) (fun _ _ _ h => h) (Or.inl ⟨by rfl, fun _ _ => by kernel_rfl⟩) (by assumption) ?_
  simp only [List.setIfInBounds_toArray, List.set_cons_succ, List.set_cons_zero]
  refine take_to (i := 44) 100 (.pointer (some ⟨w.heap.size + 1, 2, none⟩)) rfl rfl (by kernel_rfl) (by kernel_rfl) (by kernel_rfl) (fun _ _ _ h => h) (Or.inl ⟨by rfl, fun _ _ => by kernel_rfl⟩) (by assumption) ?_
  simp only [List.setIfInBounds_toArray, List.set_cons_succ, List.set_cons_zero]
  refine take_to (i := 49) 105 (.pointer (some ⟨w.heap.size + 1, 3, none⟩)) rfl rfl (by kernel_rfl) (by kernel_rfl) (by kernel_rfl) (fun _ _ _ h => h) (Or.inl ⟨by rfl, fun _ _ => by kernel_rfl⟩) (by assumption) ?_
  simp only [List.setIfInBounds_toArray, List.set_cons_succ, List.set_cons_zero]
  refine take_to (i := 2) 58 (.string (mkS r.name)) rfl rfl (by kernel_rfl) (by kernel_rfl) (by kernel_rfl) (fun _ _ _ h => h) (Or.inl ⟨by rfl, ?_⟩) (by assumption) ?_
  · (intro w' hSw; obtain ⟨e0, e1, e2, e3, e4, e5, e6, e7, e8, e9, e10, e11, e12, e13⟩ := hSw; go_simp; try with_reducible rfl)
  simp only [List.setIfInBounds_toArray, List.set_cons_succ, List.set_cons_zero]
  refine take_to (i := 6) 62 (.int .i64 r.mode) rfl rfl (by kernel_rfl) (by kernel_rfl) (by kernel_rfl) (fun _ _ _ h => h) (Or.inl ⟨by rfl, ?_⟩) (by assumption) ?_
  · (intro w' hSw; obtain ⟨e0, e1, e2, e3, e4, e5, e6, e7, e8, e9, e10, e11, e12, e13⟩ := hSw; go_simp; try with_reducible rfl)
  simp only [List.setIfInBounds_toArray, List.set_cons_succ, List.set_cons_zero]
  refine take_to (i := 11) 67 (.int .i64 r.uid) rfl rfl (by kernel_rfl) (by kernel_rfl) (by kernel_rfl) (fun _ _ _ h => h) (Or.inl ⟨by rfl, ?_⟩) (by assumption) ?_
  · (intro w' hSw; obtain ⟨e0, e1, e2, e3, e4, e5, e6, e7, e8, e9, e10, e11, e12, e13⟩ := hSw; go_simp; try with_reducible rfl)
  simp only [List.setIfInBounds_toArray, List.set_cons_succ, List.set_cons_zero]
  refine take_to (i := 16) 72 (.int .i64 r.gid) rfl rfl (by kernel_rfl) (by kernel_rfl) (by kernel_rfl) (fun _ _ _ h => h) (Or.inl ⟨by rfl, ?_⟩) (by assumption) ?_
  · (intro w' hSw; obtain ⟨e0, e1, e2, e3, e4, e5, e6, e7, e8, e9, e10, e11, e12, e13⟩ := hSw; go_simp; try with_reducible rfl)
  simp only [List.setIfInBounds_toArray, List.set_cons_succ, List.set_cons_zero]
  refine take_to (i := 21) 77 (.int .i64 r.size) rfl rfl (by kernel_rfl) (by kernel_rfl) (by kernel_rfl) (fun _ _ _ h => h) (Or.inl ⟨by rfl, ?_⟩) (by assumption) ?_
  · (intro w' hSw; obtain ⟨e0, e1, e2, e3, e4, e5, e6, e7, e8, e9, e10, e11, e12, e13⟩ := hSw; go_simp; try with_reducible rfl)
  simp only [List.setIfInBounds_toArray, List.set_cons_succ, List.set_cons_zero]
  refine take_to (i := 26) 82 (.int .i64 r.time) rfl rfl (by kernel_rfl) (by kernel_rfl) (by kernel_rfl) (fun _ _ _ h => h) (Or.inl ⟨by rfl, ?_⟩) (by assumption) ?_
  · (intro w' hSw; obtain ⟨e0, e1, e2, e3, e4, e5, e6, e7, e8, e9, e10, e11, e12, e13⟩ := hSw; go_simp; try with_reducible rfl)
  simp only [List.setIfInBounds_toArray, List.set_cons_succ, List.set_cons_zero]
  refine take_to (i := 31) 87 (.int .u8 (r.kind.toNat : Int)) rfl rfl (by kernel_rfl) (by kernel_rfl) (by kernel_rfl) (fun _ _ _ h => h) (Or.inl ⟨by rfl, ?_⟩) (by assumption) ?_
  · (intro w' hSw; obtain ⟨e0, e1, e2, e3, e4, e5, e6, e7, e8, e9, e10, e11, e12, e13⟩ := hSw; go_simp; try with_reducible rfl)
  simp only [List.setIfInBounds_toArray, List.set_cons_succ, List.set_cons_zero]
  refine take_to (i := 37) 93 (.string (mkS r.link)) rfl rfl (by kernel_rfl) (by kernel_rfl) (by kernel_rfl) (fun _ _ _ h => h) (Or.inl ⟨by rfl, ?_⟩) (by assumption) ?_
  · (intro w' hSw; obtain ⟨e0, e1, e2, e3, e4, e5, e6, e7, e8, e9, e10, e11, e12, e13⟩ := hSw; go_simp; try with_reducible rfl)
  simp only [List.setIfInBounds_toArray, List.set_cons_succ, List.set_cons_zero]
  refine take_to (i := 45) 101 (.string (mkS r.user)) rfl rfl (by kernel_rfl) (by kernel_rfl) (by kernel_rfl) (fun _ _ _ h => h) (Or.inl ⟨by rfl, ?_⟩) (by assumption) ?_
  · (intro w' hSw; obtain ⟨e0, e1, e2, e3, e4, e5, e6, e7, e8, e9, e10, e11, e12, e13⟩ := hSw; go_simp; try with_reducible rfl)
  simp only [List.setIfInBounds_toArray, List.set_cons_succ, List.set_cons_zero]
  refine take_to (i := 50) 106 (.string (mkS r.group)) rfl rfl (by kernel_rfl) (by kernel_rfl) (by kernel_rfl) (fun _ _ _ h => h) (Or.inl ⟨by rfl, ?_⟩) (by assumption) ?_
  · (intro w' hSw; obtain ⟨e0, e1, e2, e3, e4, e5, e6, e7, e8, e9, e10, e11, e12, e13⟩ := hSw; go_simp; try with_reducible rfl)
  simp only [List.setIfInBounds_toArray, List.set_cons_succ, List.set_cons_zero]
  refine take_to (i := 32) 88 (.int .i64 (r.kind.toNat : Int)) rfl rfl (by kernel_rfl) (by kernel_rfl) (by kernel_rfl) (fun _ _ _ h => h) (Or.inl ⟨by rfl, ?_⟩) (by assumption) ?_
  · (intro w' hSw; go_simp; try with_reducible rfl)
  simp only [List.setIfInBounds_toArray, List.set_cons_succ, List.set_cons_zero]
  refine take_to (i := 40) 96 (.int .i64 d) rfl rfl (by kernel_rfl) (by kernel_rfl) (by kernel_rfl) (fun _ _ _ h => h) (Or.inl ⟨by rfl, ?_⟩) (by assumption) ?_
  · (intro w' hSw; obtain ⟨e0, e1, e2, e3, e4, e5, e6, e7, e8, e9, e10, e11, e12, e13⟩ := hSw; go_simp; try with_reducible rfl)
  simp only [List.setIfInBounds_toArray, List.set_cons_succ, List.set_cons_zero]
  refine wpAnyH_ready (rs := [3]) (by kernel_rfl) (by simp) ?_
  refine AllReadyH.cons rfl (fun K hK => ?_) AllReadyH.nil
  rw [if_pos (by rfl)]
  refine call_at (R := fun v V => v = .string (mkS (txtG r.name 100)) ∧ V.heap[w.heap.size + 1 + 1]? = some (.cells #[.bool (true && txtOk r.name 100)] 4 (0, 0)) ∧ But v0.heap.size (w.heap.size + 1 + 1) v0 V) 59 rfl 232 #[.string (mkS r.name), .int .i64 100, .pointer (some ⟨w.heap.size + 1 + 1, 0, none⟩)] (by kernel_rfl) ((refWt_any r.name 100 _ true HT.out.name (by omega) _ hv0.out.box).mono (by rintro e V ⟨he, hx, hb⟩; exact ⟨_, he, rfl, hx, hb⟩)) ?_
  rintro _ v1 ⟨rfl, hx4, h4⟩
  have hv1 := Lib.hid (hv0.out.but h4 hx4)
  refine hK.out _ _ ⟨hv1.out.dl, hv1.out.row⟩ (fun hHeld2 => ?_)
  clear hK h4 hv0 hHeld
  have hHeld := hHeld2
  clear hHeld2
  clear hx4
  (try simp only [Act.put]); (try simp only [List.setIfInBounds_toArray]); (try simp only [List.set_cons_succ]); (try simp only [List.set_cons_zero])
  refine wpAnyH_ready (rs := [7]) (by kernel_rfl) (by simp) ?_
  refine AllReadyH.cons rfl (fun K hK => ?_) AllReadyH.nil
  rw [if_pos (by rfl)]
  refine call_at (R := fun v V => v = .string (mkS (numG r.mode 8 (d == 3))) ∧ V.heap[w.heap.size + 1 + 1]? = some (.cells #[.bool ((true && txtOk r.name 100) && numOk r.mode 8 (d == 3))] 4 (0, 0)) ∧ But v1.heap.size (w.heap.size + 1 + 1) v1 V) 63 rfl 233 #[.int .i64 r.mode, .int .i64 8, .pointer (some ⟨w.heap.size, 0, none⟩), .pointer (some ⟨w.heap.size + 1 + 1, 0, none⟩)] (by kernel_rfl) ((refWn_any r.mode HI.out.mode 8 d _ _ (true && txtOk r.name 100) (by omega) _ hv1.out.dl hv1.out.box).mono (by rintro e V ⟨he, hx, hb⟩; exact ⟨_, he, rfl, hx, hb⟩)) ?_
  rintro _ v2 ⟨rfl, hx4, h4⟩
  have hv2 := Lib.hid (hv1.out.but h4 hx4)
  refine hK.out _ _ ⟨hv2.out.dl, hv2.out.row⟩ (fun hHeld2 => ?_)
  clear hK h4 hv1 hHeld
  have hHeld := hHeld2
  clear hHeld2
  clear hx4
  (try simp only [Act.put]); (try simp only [List.setIfInBounds_toArray]); (try simp only [List.set_cons_succ]); (try simp only [List.set_cons_zero])
  have hc : ∀ w, (Op.stringOp .add (mkS (txtG r.name 100)) (mkS (numG r.mode 8 (d == 3)))).run Tryz.prog w = .ok (.string (mkS ((txtG r.name 100) ++ (numG r.mode 8 (d == 3))))) w := fun w => by
    have h := mkS_cat2 (txtG r.name 100) (numG r.mode 8 (d == 3)) (by (try simp only [List.length_append]); omega) w
    simpa only [List.append_assoc] using h
  refine take_to (i := 8) 64 (.string (mkS ((txtG r.name 100) ++ (numG r.mode 8 (d == 3))))) rfl rfl (by kernel_rfl) (by kernel_rfl) (by kernel_rfl) (fun _ _ _ h => h) (Or.inl ⟨by rfl, ?_⟩) (by assumption) ?_
  · (intro w' hSw; go_simp; try with_reducible rfl)
  simp only [List.setIfInBounds_toArray, List.set_cons_succ, List.set_cons_zero]
  clear hc
  refine wpAnyH_ready (rs := [12]) (by kernel_rfl) (by simp) ?_
  refine AllReadyH.cons rfl (fun K hK => ?_) AllReadyH.nil
  rw [if_pos (by rfl)]
  refine call_at (R := fun v V => v = .string (mkS (numG r.uid 8 (d == 3))) ∧ V.heap[w.heap.size + 1 + 1]? = some (.cells #[.bool (((true && txtOk r.name 100) && numOk r.mode 8 (d == 3)) && numOk r.uid 8 (d == 3))] 4 (0, 0)) ∧ But v2.heap.size (w.heap.size + 1 + 1) v2 V) 68 rfl 233 #[.int .i64 r.uid, .int .i64 8, .pointer (some ⟨w.heap.size, 0, none⟩), .pointer (some ⟨w.heap.size + 1 + 1, 0, none⟩)] (by kernel_rfl) ((refWn_any r.uid HI.out.uid 8 d _ _ ((true && txtOk r.name 100) && numOk r.mode 8 (d == 3)) (by omega) _ hv2.out.dl hv2.out.box).mono (by rintro e V ⟨he, hx, hb⟩; exact ⟨_, he, rfl, hx, hb⟩)) ?_
  rintro _ v3 ⟨rfl, hx4, h4⟩
  have hv3 := Lib.hid (hv2.out.but h4 hx4)
  refine hK.out _ _ ⟨hv3.out.dl, hv3.out.row⟩ (fun hHeld2 => ?_)
  clear hK h4 hv2 hHeld
  have hHeld := hHeld2
  clear hHeld2
  clear hx4
  (try simp only [Act.put]); (try simp only [List.setIfInBounds_toArray]); (try simp only [List.set_cons_succ]); (try simp only [List.set_cons_zero])
  have hc : ∀ w, (Op.stringOp .add (mkS ((txtG r.name 100) ++ (numG r.mode 8 (d == 3)))) (mkS (numG r.uid 8 (d == 3)))).run Tryz.prog w = .ok (.string (mkS ((txtG r.name 100) ++ ((numG r.mode 8 (d == 3)) ++ (numG r.uid 8 (d == 3)))))) w := fun w => by
    have h := mkS_cat2 ((txtG r.name 100) ++ (numG r.mode 8 (d == 3))) (numG r.uid 8 (d == 3)) (by (try simp only [List.length_append]); omega) w
    simpa only [List.append_assoc] using h
  refine take_to (i := 13) 69 (.string (mkS ((txtG r.name 100) ++ ((numG r.mode 8 (d == 3)) ++ (numG r.uid 8 (d == 3)))))) rfl rfl (by kernel_rfl) (by kernel_rfl) (by kernel_rfl) (fun _ _ _ h => h) (Or.inl ⟨by rfl, ?_⟩) (by assumption) ?_
  · (intro w' hSw; go_simp; try with_reducible rfl)
  simp only [List.setIfInBounds_toArray, List.set_cons_succ, List.set_cons_zero]
  clear hc
  refine wpAnyH_ready (rs := [17]) (by kernel_rfl) (by simp) ?_
  refine AllReadyH.cons rfl (fun K hK => ?_) AllReadyH.nil
  rw [if_pos (by rfl)]
  refine call_at (R := fun v V => v = .string (mkS (numG r.gid 8 (d == 3))) ∧ V.heap[w.heap.size + 1 + 1]? = some (.cells #[.bool ((((true && txtOk r.name 100) && numOk r.mode 8 (d == 3)) && numOk r.uid 8 (d == 3)) && numOk r.gid 8 (d == 3))] 4 (0, 0)) ∧ But v3.heap.size (w.heap.size + 1 + 1) v3 V) 73 rfl 233 #[.int .i64 r.gid, .int .i64 8, .pointer (some ⟨w.heap.size, 0, none⟩), .pointer (some ⟨w.heap.size + 1 + 1, 0, none⟩)] (by kernel_rfl) ((refWn_any r.gid HI.out.gid 8 d _ _ (((true && txtOk r.name 100) && numOk r.mode 8 (d == 3)) && numOk r.uid 8 (d == 3)) (by omega) _ hv3.out.dl hv3.out.box).mono (by rintro e V ⟨he, hx, hb⟩; exact ⟨_, he, rfl, hx, hb⟩)) ?_
  rintro _ v4 ⟨rfl, hx4, h4⟩
  have hv4 := Lib.hid (hv3.out.but h4 hx4)
  refine hK.out _ _ ⟨hv4.out.dl, hv4.out.row⟩ (fun hHeld2 => ?_)
  clear hK h4 hv3 hHeld
  have hHeld := hHeld2
  clear hHeld2
  clear hx4
  (try simp only [Act.put]); (try simp only [List.setIfInBounds_toArray]); (try simp only [List.set_cons_succ]); (try simp only [List.set_cons_zero])
  have hc : ∀ w, (Op.stringOp .add (mkS ((txtG r.name 100) ++ ((numG r.mode 8 (d == 3)) ++ (numG r.uid 8 (d == 3))))) (mkS (numG r.gid 8 (d == 3)))).run Tryz.prog w = .ok (.string (mkS ((txtG r.name 100) ++ ((numG r.mode 8 (d == 3)) ++ ((numG r.uid 8 (d == 3)) ++ (numG r.gid 8 (d == 3))))))) w := fun w => by
    have h := mkS_cat2 ((txtG r.name 100) ++ ((numG r.mode 8 (d == 3)) ++ (numG r.uid 8 (d == 3)))) (numG r.gid 8 (d == 3)) (by (try simp only [List.length_append]); omega) w
    simpa only [List.append_assoc] using h
  refine take_to (i := 18) 74 (.string (mkS ((txtG r.name 100) ++ ((numG r.mode 8 (d == 3)) ++ ((numG r.uid 8 (d == 3)) ++ (numG r.gid 8 (d == 3))))))) rfl rfl (by kernel_rfl) (by kernel_rfl) (by kernel_rfl) (fun _ _ _ h => h) (Or.inl ⟨by rfl, ?_⟩) (by assumption) ?_
  · (intro w' hSw; go_simp; try with_reducible rfl)
  simp only [List.setIfInBounds_toArray, List.set_cons_succ, List.set_cons_zero]
  clear hc
  refine wpAnyH_ready (rs := [22]) (by kernel_rfl) (by simp) ?_
  refine AllReadyH.cons rfl (fun K hK => ?_) AllReadyH.nil
  rw [if_pos (by rfl)]
  refine call_at (R := fun v V => v = .string (mkS (numG r.size 12 (d == 3))) ∧ V.heap[w.heap.size + 1 + 1]? = some (.cells #[.bool (((((true && txtOk r.name 100) && numOk r.mode 8 (d == 3)) && numOk r.uid 8 (d == 3)) && numOk r.gid 8 (d == 3)) && numOk r.size 12 (d == 3))] 4 (0, 0)) ∧ But v4.heap.size (w.heap.size + 1 + 1) v4 V) 78 rfl 233 #[.int .i64 r.size, .int .i64 12, .pointer (some ⟨w.heap.size, 0, none⟩), .pointer (some ⟨w.heap.size + 1 + 1, 0, none⟩)] (by kernel_rfl) ((refWn_any r.size HI.out.size 12 d _ _ ((((true && txtOk r.name 100) && numOk r.mode 8 (d == 3)) && numOk r.uid 8 (d == 3)) && numOk r.gid 8 (d == 3)) (by omega) _ hv4.out.dl hv4.out.box).mono (by rintro e V ⟨he, hx, hb⟩; exact ⟨_, he, rfl, hx, hb⟩)) ?_
  rintro _ v5 ⟨rfl, hx4, h4⟩
  have hv5 := Lib.hid (hv4.out.but h4 hx4)
  refine hK.out _ _ ⟨hv5.out.dl, hv5.out.row⟩ (fun hHeld2 => ?_)
  clear hK h4 hv4 hHeld
  have hHeld := hHeld2
  clear hHeld2
  clear hx4
  (try simp only [Act.put]); (try simp only [List.setIfInBounds_toArray]); (try simp only [List.set_cons_succ]); (try simp only [List.set_cons_zero])
  have hc : ∀ w, (Op.stringOp .add (mkS ((txtG r.name 100) ++ ((numG r.mode 8 (d == 3)) ++ ((numG r.uid 8 (d == 3)) ++ (numG r.gid 8 (d == 3)))))) (mkS (numG r.size 12 (d == 3)))).run Tryz.prog w = .ok (.string (mkS ((txtG r.name 100) ++ ((numG r.mode 8 (d == 3)) ++ ((numG r.uid 8 (d == 3)) ++ ((numG r.gid 8 (d == 3)) ++ (numG r.size 12 (d == 3)))))))) w := fun w => by
    have h := mkS_cat2 ((txtG r.name 100) ++ ((numG r.mode 8 (d == 3)) ++ ((numG r.uid 8 (d == 3)) ++ (numG r.gid 8 (d == 3))))) (numG r.size 12 (d == 3)) (by (try simp only [List.length_append]); omega) w
    simpa only [List.append_assoc] using h
  refine take_to (i := 23) 79 (.string (mkS ((txtG r.name 100) ++ ((numG r.mode 8 (d == 3)) ++ ((numG r.uid 8 (d == 3)) ++ ((numG r.gid 8 (d == 3)) ++ (numG r.size 12 (d == 3)))))))) rfl rfl (by kernel_rfl) (by kernel_rfl) (by kernel_rfl) (fun _ _ _ h => h) (Or.inl ⟨by rfl, ?_⟩) (by assumption) ?_
  · (intro w' hSw; go_simp; try with_reducible rfl)
  simp only [List.setIfInBounds_toArray, List.set_cons_succ, List.set_cons_zero]
  clear hc
  refine wpAnyH_ready (rs := [27]) (by kernel_rfl) (by simp) ?_
  refine AllReadyH.cons rfl (fun K hK => ?_) AllReadyH.nil
  rw [if_pos (by rfl)]
  refine call_at (R := fun v V => v = .string (mkS (numG r.time 12 (d == 3))) ∧ V.heap[w.heap.size + 1 + 1]? = some (.cells #[.bool ((((((true && txtOk r.name 100) && numOk r.mode 8 (d == 3)) && numOk r.uid 8 (d == 3)) && numOk r.gid 8 (d == 3)) && numOk r.size 12 (d == 3)) && numOk r.time 12 (d == 3))] 4 (0, 0)) ∧ But v5.heap.size (w.heap.size + 1 + 1) v5 V) 83 rfl 233 #[.int .i64 r.time, .int .i64 12, .pointer (some ⟨w.heap.size, 0, none⟩), .pointer (some ⟨w.heap.size + 1 + 1, 0, none⟩)] (by kernel_rfl) ((refWn_any r.time HI.out.time 12 d _ _ (((((true && txtOk r.name 100) && numOk r.mode 8 (d == 3)) && numOk r.uid 8 (d == 3)) && numOk r.gid 8 (d == 3)) && numOk r.size 12 (d == 3)) (by omega) _ hv5.out.dl hv5.out.box).mono (by rintro e V ⟨he, hx, hb⟩; exact ⟨_, he, rfl, hx, hb⟩)) ?_
  rintro _ v6 ⟨rfl, hx4, h4⟩
  have hv6 := Lib.hid (hv5.out.but h4 hx4)
  refine hK.out _ _ ⟨hv6.out.dl, hv6.out.row⟩ (fun hHeld2 => ?_)
  clear hK h4 hv5 hHeld
  have hHeld := hHeld2
  clear hHeld2
  clear hx4
  (try simp only [Act.put]); (try simp only [List.setIfInBounds_toArray]); (try simp only [List.set_cons_succ]); (try simp only [List.set_cons_zero])
  have hc : ∀ w, (Op.stringOp .add (mkS ((txtG r.name 100) ++ ((numG r.mode 8 (d == 3)) ++ ((numG r.uid 8 (d == 3)) ++ ((numG r.gid 8 (d == 3)) ++ (numG r.size 12 (d == 3))))))) (mkS (numG r.time 12 (d == 3)))).run Tryz.prog w = .ok (.string (mkS ((txtG r.name 100) ++ ((numG r.mode 8 (d == 3)) ++ ((numG r.uid 8 (d == 3)) ++ ((numG r.gid 8 (d == 3)) ++ ((numG r.size 12 (d == 3)) ++ (numG r.time 12 (d == 3))))))))) w := fun w => by
    have h := mkS_cat2 ((txtG r.name 100) ++ ((numG r.mode 8 (d == 3)) ++ ((numG r.uid 8 (d == 3)) ++ ((numG r.gid 8 (d == 3)) ++ (numG r.size 12 (d == 3)))))) (numG r.time 12 (d == 3)) (by (try simp only [List.length_append]); omega) w
    simpa only [List.append_assoc] using h
  refine take_to (i := 28) 84 (.string (mkS ((txtG r.name 100) ++ ((numG r.mode 8 (d == 3)) ++ ((numG r.uid 8 (d == 3)) ++ ((numG r.gid 8 (d == 3)) ++ ((numG r.size 12 (d == 3)) ++ (numG r.time 12 (d == 3))))))))) rfl rfl (by kernel_rfl) (by kernel_rfl) (by kernel_rfl) (fun _ _ _ h => h) (Or.inl ⟨by rfl, ?_⟩) (by assumption) ?_
  · (intro w' hSw; go_simp; try with_reducible rfl)
  simp only [List.setIfInBounds_toArray, List.set_cons_succ, List.set_cons_zero]
  clear hc
  have hc : ∀ w, (Op.stringOp .add (mkS ((txtG r.name 100) ++ ((numG r.mode 8 (d == 3)) ++ ((numG r.uid 8 (d == 3)) ++ ((numG r.gid 8 (d == 3)) ++ ((numG r.size 12 (d == 3)) ++ (numG r.time 12 (d == 3)))))))) (mkS (SP))).run Tryz.prog w = .ok (.string (mkS ((txtG r.name 100) ++ ((numG r.mode 8 (d == 3)) ++ ((numG r.uid 8 (d == 3)) ++ ((numG r.gid 8 (d == 3)) ++ ((numG r.size 12 (d == 3)) ++ ((numG r.time 12 (d == 3)) ++ (SP))))))))) w := fun w => by
    have h := mkS_cat2 ((txtG r.name 100) ++ ((numG r.mode 8 (d == 3)) ++ ((numG r.uid 8 (d == 3)) ++ ((numG r.gid 8 (d == 3)) ++ ((numG r.size 12 (d == 3)) ++ (numG r.time 12 (d == 3))))))) (SP) (by (try simp only [List.length_append]); omega) w
    simpa only [List.append_assoc] using h
  rw [show mkS SP = ⟨#[32, 32, 32, 32, 32, 32, 32, 32]⟩ by rw [HSP.out]; rfl] at hc
  refine take_to (i := 29) 85 (.string (mkS ((txtG r.name 100) ++ ((numG r.mode 8 (d == 3)) ++ ((numG r.uid 8 (d == 3)) ++ ((numG r.gid 8 (d == 3)) ++ ((numG r.size 12 (d == 3)) ++ ((numG r.time 12 (d == 3)) ++ (SP))))))))) rfl rfl (by kernel_rfl) (by kernel_rfl) (by kernel_rfl) (fun _ _ _ h => h) (Or.inl ⟨by rfl, ?_⟩) (by assumption) ?_
  · (intro w' hSw; go_simp; try with_reducible rfl)
  simp only [List.setIfInBounds_toArray, List.set_cons_succ, List.set_cons_zero]
  clear hc
  refine wpAnyH_ready (rs := [33]) (by kernel_rfl) (by simp) ?_
  refine AllReadyH.cons rfl (fun K hK => ?_) AllReadyH.nil
  rw [if_pos (by rfl)]
  refine call_at (R := fun v V => v = .string (mkS KL) ∧ Below v6.heap.size v6 V) 89 rfl 162 #[.int .i64 (r.kind.toNat : Int)] (by kernel_rfl) ((HKC.out _).mono (by rintro e V ⟨he, hb⟩; exact ⟨_, he, rfl, hb⟩)) ?_
  rintro _ v7 ⟨rfl, h4⟩
  have hv7 := Lib.hid (hv6.out.text h4)
  refine hK.out _ _ ⟨hv7.out.dl, hv7.out.row⟩ (fun hHeld2 => ?_)
  clear hK h4 hv6 hHeld
  have hHeld := hHeld2
  clear hHeld2
  (try simp only [Act.put]); (try simp only [List.setIfInBounds_toArray]); (try simp only [List.set_cons_succ]); (try simp only [List.set_cons_zero])
  have hc : ∀ w, (Op.stringOp .add (mkS ((txtG r.name 100) ++ ((numG r.mode 8 (d == 3)) ++ ((numG r.uid 8 (d == 3)) ++ ((numG r.gid 8 (d == 3)) ++ ((numG r.size 12 (d == 3)) ++ ((numG r.time 12 (d == 3)) ++ (SP)))))))) (mkS (KL))).run Tryz.prog w = .ok (.string (mkS ((txtG r.name 100) ++ ((numG r.mode 8 (d == 3)) ++ ((numG r.uid 8 (d == 3)) ++ ((numG r.gid 8 (d == 3)) ++ ((numG r.size 12 (d == 3)) ++ ((numG r.time 12 (d == 3)) ++ ((SP) ++ (KL)))))))))) w := fun w => by
    have h := mkS_cat2 ((txtG r.name 100) ++ ((numG r.mode 8 (d == 3)) ++ ((numG r.uid 8 (d == 3)) ++ ((numG r.gid 8 (d == 3)) ++ ((numG r.size 12 (d == 3)) ++ ((numG r.time 12 (d == 3)) ++ (SP))))))) (KL) (by (try simp only [List.length_append]); omega) w
    simpa only [List.append_assoc] using h
  refine take_to (i := 34) 90 (.string (mkS ((txtG r.name 100) ++ ((numG r.mode 8 (d == 3)) ++ ((numG r.uid 8 (d == 3)) ++ ((numG r.gid 8 (d == 3)) ++ ((numG r.size 12 (d == 3)) ++ ((numG r.time 12 (d == 3)) ++ ((SP) ++ (KL)))))))))) rfl rfl (by kernel_rfl) (by kernel_rfl) (by kernel_rfl) (fun _ _ _ h => h) (Or.inl ⟨by rfl, ?_⟩) (by assumption) ?_
  · (intro w' hSw; go_simp; try with_reducible rfl)
  simp only [List.setIfInBounds_toArray, List.set_cons_succ, List.set_cons_zero]
  clear hc
  refine wpAnyH_ready (rs := [38]) (by kernel_rfl) (by simp) ?_
  refine AllReadyH.cons rfl (fun K hK => ?_) AllReadyH.nil
  rw [if_pos (by rfl)]
  refine call_at (R := fun v V => v = .string (mkS (txtG r.link 100)) ∧ V.heap[w.heap.size + 1 + 1]? = some (.cells #[.bool (((((((true && txtOk r.name 100) && numOk r.mode 8 (d == 3)) && numOk r.uid 8 (d == 3)) && numOk r.gid 8 (d == 3)) && numOk r.size 12 (d == 3)) && numOk r.time 12 (d == 3)) && txtOk r.link 100)] 4 (0, 0)) ∧ But v7.heap.size (w.heap.size + 1 + 1) v7 V) 94 rfl 232 #[.string (mkS r.link), .int .i64 100, .pointer (some ⟨w.heap.size + 1 + 1, 0, none⟩)] (by kernel_rfl) ((refWt_any r.link 100 _ ((((((true && txtOk r.name 100) && numOk r.mode 8 (d == 3)) && numOk r.uid 8 (d == 3)) && numOk r.gid 8 (d == 3)) && numOk r.size 12 (d == 3)) && numOk r.time 12 (d == 3)) HT.out.link (by omega) _ hv7.out.box).mono (by rintro e V ⟨he, hx, hb⟩; exact ⟨_, he, rfl, hx, hb⟩)) ?_
  rintro _ v8 ⟨rfl, hx4, h4⟩
  have hv8 := Lib.hid (hv7.out.but h4 hx4)
  refine hK.out _ _ ⟨hv8.out.dl, hv8.out.row⟩ (fun hHeld2 => ?_)
  clear hK h4 hv7 hHeld
  have hHeld := hHeld2
  clear hHeld2
  clear hx4
  (try simp only [Act.put]); (try simp only [List.setIfInBounds_toArray]); (try simp only [List.set_cons_succ]); (try simp only [List.set_cons_zero])
  have hc : ∀ w, (Op.stringOp .add (mkS ((txtG r.name 100) ++ ((numG r.mode 8 (d == 3)) ++ ((numG r.uid 8 (d == 3)) ++ ((numG r.gid 8 (d == 3)) ++ ((numG r.size 12 (d == 3)) ++ ((numG r.time 12 (d == 3)) ++ ((SP) ++ (KL))))))))) (mkS (txtG r.link 100))).run Tryz.prog w = .ok (.string (mkS ((txtG r.name 100) ++ ((numG r.mode 8 (d == 3)) ++ ((numG r.uid 8 (d == 3)) ++ ((numG r.gid 8 (d == 3)) ++ ((numG r.size 12 (d == 3)) ++ ((numG r.time 12 (d == 3)) ++ ((SP) ++ ((KL) ++ (txtG r.link 100))))))))))) w := fun w => by
    have h := mkS_cat2 ((txtG r.name 100) ++ ((numG r.mode 8 (d == 3)) ++ ((numG r.uid 8 (d == 3)) ++ ((numG r.gid 8 (d == 3)) ++ ((numG r.size 12 (d == 3)) ++ ((numG r.time 12 (d == 3)) ++ ((SP) ++ (KL)))))))) (txtG r.link 100) (by (try simp only [List.length_append]); omega) w
    simpa only [List.append_assoc] using h
  refine take_to (i := 39) 95 (.string (mkS ((txtG r.name 100) ++ ((numG r.mode 8 (d == 3)) ++ ((numG r.uid 8 (d == 3)) ++ ((numG r.gid 8 (d == 3)) ++ ((numG r.size 12 (d == 3)) ++ ((numG r.time 12 (d == 3)) ++ ((SP) ++ ((KL) ++ (txtG r.link 100))))))))))) rfl rfl (by kernel_rfl) (by kernel_rfl) (by kernel_rfl) (fun _ _ _ h => h) (Or.inl ⟨by rfl, ?_⟩) (by assumption) ?_
  · (intro w' hSw; go_simp; try with_reducible rfl)
  simp only [List.setIfInBounds_toArray, List.set_cons_succ, List.set_cons_zero]
  clear hc
  refine wpAnyH_ready (rs := [41]) (by kernel_rfl) (by simp) ?_
  refine AllReadyH.cons rfl (fun K hK => ?_) AllReadyH.nil
  rw [if_pos (by rfl)]
  refine call_at (R := fun v V => v = .string (mkS (magicL d.toNat)) ∧ Below v8.heap.size v8 V) 97 rfl 65 #[.int .i64 d] (by kernel_rfl) ((refMagic_any d HD.out _).mono (by rintro e V ⟨he, hb⟩; exact ⟨_, he, rfl, hb⟩)) ?_
  rintro _ v9 ⟨rfl, h4⟩
  have hv9 := Lib.hid (hv8.out.text h4)
  refine hK.out _ _ ⟨hv9.out.dl, hv9.out.row⟩ (fun hHeld2 => ?_)
  clear hK h4 hv8 hHeld
  have hHeld := hHeld2
  clear hHeld2
  (try simp only [Act.put]); (try simp only [List.setIfInBounds_toArray]); (try simp only [List.set_cons_succ]); (try simp only [List.set_cons_zero])
  have hc : ∀ w, (Op.stringOp .add (mkS ((txtG r.name 100) ++ ((numG r.mode 8 (d == 3)) ++ ((numG r.uid 8 (d == 3)) ++ ((numG r.gid 8 (d == 3)) ++ ((numG r.size 12 (d == 3)) ++ ((numG r.time 12 (d == 3)) ++ ((SP) ++ ((KL) ++ (txtG r.link 100)))))))))) (mkS (magicL d.toNat))).run Tryz.prog w = .ok (.string (mkS ((txtG r.name 100) ++ ((numG r.mode 8 (d == 3)) ++ ((numG r.uid 8 (d == 3)) ++ ((numG r.gid 8 (d == 3)) ++ ((numG r.size 12 (d == 3)) ++ ((numG r.time 12 (d == 3)) ++ ((SP) ++ ((KL) ++ ((txtG r.link 100) ++ (magicL d.toNat)))))))))))) w := fun w => by
    have h := mkS_cat2 ((txtG r.name 100) ++ ((numG r.mode 8 (d == 3)) ++ ((numG r.uid 8 (d == 3)) ++ ((numG r.gid 8 (d == 3)) ++ ((numG r.size 12 (d == 3)) ++ ((numG r.time 12 (d == 3)) ++ ((SP) ++ ((KL) ++ (txtG r.link 100))))))))) (magicL d.toNat) (by (try simp only [List.length_append]); omega) w
    simpa only [List.append_assoc] using h
  refine take_to (i := 42) 98 (.string (mkS ((txtG r.name 100) ++ ((numG r.mode 8 (d == 3)) ++ ((numG r.uid 8 (d == 3)) ++ ((numG r.gid 8 (d == 3)) ++ ((numG r.size 12 (d == 3)) ++ ((numG r.time 12 (d == 3)) ++ ((SP) ++ ((KL) ++ ((txtG r.link 100) ++ (magicL d.toNat)))))))))))) rfl rfl (by kernel_rfl) (by kernel_rfl) (by kernel_rfl) (fun _ _ _ h => h) (Or.inl ⟨by rfl, ?_⟩) (by assumption) ?_
  · (intro w' hSw; go_simp; try with_reducible rfl)
  simp only [List.setIfInBounds_toArray, List.set_cons_succ, List.set_cons_zero]
  clear hc
  refine wpAnyH_ready (rs := [46]) (by kernel_rfl) (by simp) ?_
  refine AllReadyH.cons rfl (fun K hK => ?_) AllReadyH.nil
  rw [if_pos (by rfl)]
  refine call_at (R := fun v V => v = .string (mkS (txtG r.user 32)) ∧ V.heap[w.heap.size + 1 + 1]? = some (.cells #[.bool ((((((((true && txtOk r.name 100) && numOk r.mode 8 (d == 3)) && numOk r.uid 8 (d == 3)) && numOk r.gid 8 (d == 3)) && numOk r.size 12 (d == 3)) && numOk r.time 12 (d == 3)) && txtOk r.link 100) && txtOk r.user 32)] 4 (0, 0)) ∧ But v9.heap.size (w.heap.size + 1 + 1) v9 V) 102 rfl 232 #[.string (mkS r.user), .int .i64 32, .pointer (some ⟨w.heap.size + 1 + 1, 0, none⟩)] (by kernel_rfl) ((refWt_any r.user 32 _ (((((((true && txtOk r.name 100) && numOk r.mode 8 (d == 3)) && numOk r.uid 8 (d == 3)) && numOk r.gid 8 (d == 3)) && numOk r.size 12 (d == 3)) && numOk r.time 12 (d == 3)) && txtOk r.link 100) HT.out.user (by omega) _ hv9.out.box).mono (by rintro e V ⟨he, hx, hb⟩; exact ⟨_, he, rfl, hx, hb⟩)) ?_
  rintro _ v10 ⟨rfl, hx4, h4⟩
  have hv10 := Lib.hid (hv9.out.but h4 hx4)
  refine hK.out _ _ ⟨hv10.out.dl, hv10.out.row⟩ (fun hHeld2 => ?_)
  clear hK h4 hv9 hHeld
  have hHeld := hHeld2
  clear hHeld2
  clear hx4
  (try simp only [Act.put]); (try simp only [List.setIfInBounds_toArray]); (try simp only [List.set_cons_succ]); (try simp only [List.set_cons_zero])
  have hc : ∀ w, (Op.stringOp .add (mkS ((txtG r.name 100) ++ ((numG r.mode 8 (d == 3)) ++ ((numG r.uid 8 (d == 3)) ++ ((numG r.gid 8 (d == 3)) ++ ((numG r.size 12 (d == 3)) ++ ((numG r.time 12 (d == 3)) ++ ((SP) ++ ((KL) ++ ((txtG r.link 100) ++ (magicL d.toNat))))))))))) (mkS (txtG r.user 32))).run Tryz.prog w = .ok (.string (mkS ((txtG r.name 100) ++ ((numG r.mode 8 (d == 3)) ++ ((numG r.uid 8 (d == 3)) ++ ((numG r.gid 8 (d == 3)) ++ ((numG r.size 12 (d == 3)) ++ ((numG r.time 12 (d == 3)) ++ ((SP) ++ ((KL) ++ ((txtG r.link 100) ++ ((magicL d.toNat) ++ (txtG r.user 32))))))))))))) w := fun w => by
    have h := mkS_cat2 ((txtG r.name 100) ++ ((numG r.mode 8 (d == 3)) ++ ((numG r.uid 8 (d == 3)) ++ ((numG r.gid 8 (d == 3)) ++ ((numG r.size 12 (d == 3)) ++ ((numG r.time 12 (d == 3)) ++ ((SP) ++ ((KL) ++ ((txtG r.link 100) ++ (magicL d.toNat)))))))))) (txtG r.user 32) (by (try simp only [List.length_append]); omega) w
    simpa only [List.append_assoc] using h
  refine take_to (i := 47) 103 (.string (mkS ((txtG r.name 100) ++ ((numG r.mode 8 (d == 3)) ++ ((numG r.uid 8 (d == 3)) ++ ((numG r.gid 8 (d == 3)) ++ ((numG r.size 12 (d == 3)) ++ ((numG r.time 12 (d == 3)) ++ ((SP) ++ ((KL) ++ ((txtG r.link 100) ++ ((magicL d.toNat) ++ (txtG r.user 32))))))))))))) rfl rfl (by kernel_rfl) (by kernel_rfl) (by kernel_rfl) (fun _ _ _ h => h) (Or.inl ⟨by rfl, ?_⟩) (by assumption) ?_
  · (intro w' hSw; go_simp; try with_reducible rfl)
  simp only [List.setIfInBounds_toArray, List.set_cons_succ, List.set_cons_zero]
  clear hc
  refine wpAnyH_ready (rs := [51]) (by kernel_rfl) (by simp) ?_
  refine AllReadyH.cons rfl (fun K hK => ?_) AllReadyH.nil
  rw [if_pos (by rfl)]
  refine call_at (R := fun v V => v = .string (mkS (txtG r.group 32)) ∧ V.heap[w.heap.size + 1 + 1]? = some (.cells #[.bool (((((((((true && txtOk r.name 100) && numOk r.mode 8 (d == 3)) && numOk r.uid 8 (d == 3)) && numOk r.gid 8 (d == 3)) && numOk r.size 12 (d == 3)) && numOk r.time 12 (d == 3)) && txtOk r.link 100) && txtOk r.user 32) && txtOk r.group 32)] 4 (0, 0)) ∧ But v10.heap.size (w.heap.size + 1 + 1) v10 V) 107 rfl 232 #[.string (mkS r.group), .int .i64 32, .pointer (some ⟨w.heap.size + 1 + 1, 0, none⟩)] (by kernel_rfl) ((refWt_any r.group 32 _ ((((((((true && txtOk r.name 100) && numOk r.mode 8 (d == 3)) && numOk r.uid 8 (d == 3)) && numOk r.gid 8 (d == 3)) && numOk r.size 12 (d == 3)) && numOk r.time 12 (d == 3)) && txtOk r.link 100) && txtOk r.user 32) HT.out.group (by omega) _ hv10.out.box).mono (by rintro e V ⟨he, hx, hb⟩; exact ⟨_, he, rfl, hx, hb⟩)) ?_
  rintro _ v11 ⟨rfl, hx4, h4⟩
  have hv11 := Lib.hid (hv10.out.but h4 hx4)
  refine hK.out _ _ ⟨hv11.out.dl, hv11.out.row⟩ (fun hHeld2 => ?_)
  clear hK h4 hv10 hHeld
  have hHeld := hHeld2
  clear hHeld2
  clear hx4
  (try simp only [Act.put]); (try simp only [List.setIfInBounds_toArray]); (try simp only [List.set_cons_succ]); (try simp only [List.set_cons_zero])
  have hc : ∀ w, (Op.stringOp .add (mkS ((txtG r.name 100) ++ ((numG r.mode 8 (d == 3)) ++ ((numG r.uid 8 (d == 3)) ++ ((numG r.gid 8 (d == 3)) ++ ((numG r.size 12 (d == 3)) ++ ((numG r.time 12 (d == 3)) ++ ((SP) ++ ((KL) ++ ((txtG r.link 100) ++ ((magicL d.toNat) ++ (txtG r.user 32)))))))))))) (mkS (txtG r.group 32))).run Tryz.prog w = .ok (.string (mkS ((txtG r.name 100) ++ ((numG r.mode 8 (d == 3)) ++ ((numG r.uid 8 (d == 3)) ++ ((numG r.gid 8 (d == 3)) ++ ((numG r.size 12 (d == 3)) ++ ((numG r.time 12 (d == 3)) ++ ((SP) ++ ((KL) ++ ((txtG r.link 100) ++ ((magicL d.toNat) ++ ((txtG r.user 32) ++ (txtG r.group 32)))))))))))))) w := fun w => by
    have h := mkS_cat2 ((txtG r.name 100) ++ ((numG r.mode 8 (d == 3)) ++ ((numG r.uid 8 (d == 3)) ++ ((numG r.gid 8 (d == 3)) ++ ((numG r.size 12 (d == 3)) ++ ((numG r.time 12 (d == 3)) ++ ((SP) ++ ((KL) ++ ((txtG r.link 100) ++ ((magicL d.toNat) ++ (txtG r.user 32))))))))))) (txtG r.group 32) (by (try simp only [List.length_append]); omega) w
    simpa only [List.append_assoc] using h
  refine take_to (i := 52) 108 (.string (mkS ((txtG r.name 100) ++ ((numG r.mode 8 (d == 3)) ++ ((numG r.uid 8 (d == 3)) ++ ((numG r.gid 8 (d == 3)) ++ ((numG r.size 12 (d == 3)) ++ ((numG r.time 12 (d == 3)) ++ ((SP) ++ ((KL) ++ ((txtG r.link 100) ++ ((magicL d.toNat) ++ ((txtG r.user 32) ++ (txtG r.group 32)))))))))))))) rfl rfl (by kernel_rfl) (by kernel_rfl) (by kernel_rfl) (fun _ _ _ h => h) (Or.inl ⟨by rfl, ?_⟩) (by assumption) ?_
  · (intro w' hSw; go_simp; try with_reducible rfl)
  simp only [List.setIfInBounds_toArray, List.set_cons_succ, List.set_cons_zero]
  clear hc
  refine take_to (i := 53) 9 (.string (mkS ((txtG r.name 100) ++ ((numG r.mode 8 (d == 3)) ++ ((numG r.uid 8 (d == 3)) ++ ((numG r.gid 8 (d == 3)) ++ ((numG r.size 12 (d == 3)) ++ ((numG r.time 12 (d == 3)) ++ ((SP) ++ ((KL) ++ ((txtG r.link 100) ++ ((magicL d.toNat) ++ ((txtG r.user 32) ++ (txtG r.group 32)))))))))))))) rfl rfl (by kernel_rfl) (by kernel_rfl) (by kernel_rfl) (fun _ _ _ h => h) (Or.inl ⟨by rfl, fun _ _ => rfl⟩) (by assumption) ?_
  simp only [List.setIfInBounds_toArray, List.set_cons_succ, List.set_cons_zero]
  refine wpAnyH_done (by kernel_rfl) ?_ _
  have n1 := N1.out
  have n3 := N3.out
  obtain ⟨AA, hAA⟩ : ∃ s : List UInt8, s = (txtG r.name 100) ++ ((numG r.mode 8 (d == 3)) ++ ((numG r.uid 8 (d == 3)) ++ ((numG r.gid 8 (d == 3)) ++ ((numG r.size 12 (d == 3)) ++ ((numG r.time 12 (d == 3)) ++ ((SP) ++ ((KL) ++ ((txtG r.link 100) ++ ((magicL d.toNat) ++ ((txtG r.user 32) ++ (txtG r.group 32))))))))))) := ⟨_, rfl⟩
  rw [← hAA]
  have HAA := Lib.hid hAA
  have lA : AA.length ≤ 400 := by rw [hAA]; simp only [List.length_append]; omega
  clear hAA

  obtain ⟨BB, hBB⟩ : ∃ s : List UInt8, s = AA ++ List.replicate 16 (0 : UInt8) := ⟨_, rfl⟩
  have HBB := Lib.hid hBB
  have lB : BB.length ≤ 420 := by rw [hBB]; simp only [List.length_append, List.length_replicate]; omega
  clear hBB
  obtain ⟨RS, hRS⟩ : ∃ s : List UInt8, s = List.replicate 16 (0 : UInt8) := ⟨_, rfl⟩
  have CS := Lib.hid (fun w => show Calls Tryz.prog 121 #[.string ⟨#[0]⟩, .int .i64 16] w fun e w' => e = .returned (.string (mkS RS)) ∧ Below w.heap.size w w' by rw [hRS]; exact rep_zero 16 w (by omega))
  rw [← hRS] at HBB
  have lS : RS.length = 16 := by rw [hRS]; simp
  have HRS := Lib.hid hRS
  clear hRS
  have hc0 : ∀ w, (Op.stringOp .add (mkS AA) (mkS RS)).run Tryz.prog w = .ok (.string (mkS BB)) w := fun w => by rw [HBB.out]; exact mkS_cat2 AA RS (by omega) w
  have CF := Lib.hid (fun (W : World) (h : HwIs d r w (((((((((true && txtOk r.name 100) && numOk r.mode 8 (d == 3)) && numOk r.uid 8 (d == 3)) && numOk r.gid 8 (d == 3)) && numOk r.size 12 (d == 3)) && numOk r.time 12 (d == 3)) && txtOk r.link 100) && txtOk r.user 32) && txtOk r.group 32) W) => show Calls Tryz.prog 232 #[.string (mkS r.front), .int .i64 155, .pointer (some ⟨w.heap.size + 1 + 1, 0, none⟩)] W fun e w' => e = .returned (.string (mkS (txtG r.front 155))) ∧ w'.heap[w.heap.size + 1 + 1]? = some (.cells #[.bool ((((((((((true && txtOk r.name 100) && numOk r.mode 8 (d == 3)) && numOk r.uid 8 (d == 3)) && numOk r.gid 8 (d == 3)) && numOk r.size 12 (d == 3)) && numOk r.time 12 (d == 3)) && txtOk r.link 100) && txtOk r.user 32) && txtOk r.group 32) && txtOk r.front 155)] 4 (0, 0)) ∧ But W.heap.size (w.heap.size + 1 + 1) W w' from refWt_any r.front 155 _ (((((((((true && txtOk r.name 100) && numOk r.mode 8 (d == 3)) && numOk r.uid 8 (d == 3)) && numOk r.gid 8 (d == 3)) && numOk r.size 12 (d == 3)) && numOk r.time 12 (d == 3)) && txtOk r.link 100) && txtOk r.user 32) && txtOk r.group 32) HT.out.front (by omega) W h.box)
  have FG := Lib.hid (flags_one (r := r) HN1.out)
  have BI := Lib.hid (body_one (r := r) HN1.out)
  rw [← HSP.out, ← HKL.out, ← HAA.out, ← HRS.out, ← HBB.out] at BI
  generalize ((((((((((true && txtOk r.name 100) && numOk r.mode 8 (d == 3)) && numOk r.uid 8 (d == 3)) && numOk r.gid 8 (d == 3)) && numOk r.size 12 (d == 3)) && numOk r.time 12 (d == 3)) && txtOk r.link 100) && txtOk r.user 32) && txtOk r.group 32) && txtOk r.front 155) = zz at *
  obtain ⟨XF, hXF⟩ : ∃ s : List UInt8, s = txtG r.front 155 := ⟨_, rfl⟩
  obtain ⟨RP, hRP⟩ : ∃ s : List UInt8, s = List.replicate 12 (0 : UInt8) := ⟨_, rfl⟩
  have lX : XF.length ≤ 155 := by rw [hXF]; omega
  have lR : RP.length = 12 := by rw [hRP]; simp
  have CR := Lib.hid (fun w => show Calls Tryz.prog 121 #[.string ⟨#[0]⟩, .int .i64 12] w fun e w' => e = .returned (.string (mkS RP)) ∧ Below w.heap.size w w' by rw [hRP]; exact rep_zero 12 w (by omega))
  rw [← hXF] at CF BI
  rw [← hRP] at BI
  clear hXF hRP
  have hc1 := fun w => mkS_cat2 XF RP (by omega) w
  have hc2 := fun w => mkS_cat2 BB (XF ++ RP) (by simp only [List.length_append]; omega) w
  cases zz with
  | true =>
    have HG := (FG.out.1 rfl)
    have HL := Lib.hid (show (mkS (BB ++ (XF ++ RP))).size = 512 by rw [BI.out, mkS_size]; exact bodyL_length (goodL.wide HG.1 HG.2))
    have HW := Lib.hid (show WriteIs d r (sealL (BB ++ (XF ++ RP))) 0 by rw [BI.out]; exact .ok d r HD.out.1 ⟨by have := HD.out; omega, HK.out, HBR.out, HG.1, HG.2⟩)
    clear HG
    go_wp2_with (first
      | (go_at_call 121; (with_reducible refine (CS.out _).mono ?_); rintro e y0 ⟨rfl, h4⟩; have hy0 := Lib.hid (hv11.out.text h4); have c4 := hy0.out.row.2.2.2.2.1; clear h4)
      | (go_at_call 232; (with_reducible refine (CF.out _ hy0.out).mono ?_); rintro e y1 ⟨rfl, hx4, h4⟩; have hy1 := Lib.hid (hy0.out.but h4 hx4); clear h4 hx4)
      | (go_at_call 121; (with_reducible refine (CR.out _).mono ?_); rintro e y2 ⟨rfl, h4⟩; have hy2 := Lib.hid (hy1.out.text h4); have bx := cell_of_one hy2.out.box; clear h4)
      | (go_at_call 160; (with_reducible refine (refSeal_ok _ _ HL.out).mono ?_); rintro e y3 ⟨rfl, h5⟩; rw [sealB_mkS])
      | fail)
    refine bodyPost_ret (v := .tuple #[.string (mkS (sealL (BB ++ (XF ++ RP)))), .int .i64 0]) (by simp [results, Tryz.results169, go_sem]) rfl ?_
    exact ⟨_, _, HW.out, rfl, hy2.out.below.trans (h5.mono hy2.out.below.size)⟩
  | false =>
    have HW := Lib.hid (show WriteIs d r [] 2 from .range d r HD.out HK.out fun g => by have := FG.out.2 ⟨g.2.2.2.1, g.2.2.2.2⟩; cases this)
    go_wp2_with (first
      | (go_at_call 121; (with_reducible refine (CS.out _).mono ?_); rintro e y0 ⟨rfl, h4⟩; have hy0 := Lib.hid (hv11.out.text h4); have c4 := hy0.out.row.2.2.2.2.1; clear h4)
      | (go_at_call 232; (with_reducible refine (CF.out _ hy0.out).mono ?_); rintro e y1 ⟨rfl, hx4, h4⟩; have hy1 := Lib.hid (hy0.out.but h4 hx4); clear h4 hx4)
      | (go_at_call 121; (with_reducible refine (CR.out _).mono ?_); rintro e y2 ⟨rfl, h4⟩; have hy2 := Lib.hid (hy1.out.text h4); have bx := cell_of_one hy2.out.box; clear h4)
      | fail)
    refine bodyPost_ret (v := .tuple #[.string ⟨#[]⟩, .int .i64 2]) (by simp [results, Tryz.results169, go_sem]) rfl ?_
    exact ⟨_, _, HW.out, rfl, hy2.out.below⟩
set_option maxHeartbeats 4000000 in
theorem refW_far (d : Int) (hd : ¬ (1 ≤ d ∧ d ≤ 4)) (r : RawL) (w : World) :
    Calls Tryz.prog 169 #[.int .i64 d, rawV r] w (RefWPost d r w) := by
  have WI := Lib.hid (fun w => within_any d 1 4 w)
  rw [decide_eq_false hd] at WI
  have HW := Lib.hid (show WriteIs d r [] 1 from .arg d r (by omega))
  clear hd
  unfold rawV
  go_enter Tryz.func169, Tryz.ntmps169
  go_wp2_with (first
    | (go_at_call 29; (with_reducible refine (WI.out _).mono ?_); rintro e w' ⟨rfl, hw⟩; subst hw)
    | fail)
  refine bodyPost_ret (v := .tuple #[.string ⟨#[]⟩, .int .i64 1]) (by simp [results, Tryz.results169, go_sem]) rfl ?_
  exact ⟨_, _, HW.out, rfl, below_alloc2 _ _ _⟩
set_option maxHeartbeats 4000000 in
theorem refW_none (d : Int) (hd : 1 ≤ d ∧ d ≤ 4) (r : RawL) (hk : r.kind = 0) (w : World) :
    Calls Tryz.prog 169 #[.int .i64 d, rawV r] w (RefWPost d r w) := by
  have WI := Lib.hid (fun w => within_any d 1 4 w)
  rw [decide_eq_true hd] at WI
  have HW := Lib.hid (show WriteIs d r [] 1 from .arg d r (Or.inr (Or.inr hk)))
  have hk' : ((r.kind.toNat : Int) == 0) = true := by rw [hk]; rfl
  clear hd hk
  unfold rawV
  go_enter Tryz.func169, Tryz.ntmps169
  go_wp2_with (first
    | (go_at_call 29; (with_reducible refine (WI.out _).mono ?_); rintro e w' ⟨rfl, hw⟩; subst hw)
    | fail)
  refine bodyPost_ret (v := .tuple #[.string ⟨#[]⟩, .int .i64 1]) (by simp [results, Tryz.results169, go_sem]) rfl ?_
  exact ⟨_, _, HW.out, rfl, below_alloc2 _ _ _⟩
set_option maxHeartbeats 4000000 in
theorem refW_bad3 (d : Int) (hd : 1 ≤ d ∧ d ≤ 4) (r : RawL) (hk : r.kind ≠ 0) (h3 : d = 3) (hx : r.front ≠ []) (w : World) :
    Calls Tryz.prog 169 #[.int .i64 d, rawV r] w (RefWPost d r w) := by
  have WI := Lib.hid (fun w => within_any d 1 4 w)
  rw [decide_eq_true hd] at WI
  have hk' : ((r.kind.toNat : Int) == 0) = false := by
    rw [beq_eq_false_iff_ne]; intro e; exact hk (UInt8.toNat_inj.1 (by show r.kind.toNat = 0; omega))
  have HW := Lib.hid (show WriteIs d r [] 2 from .range d r hd hk fun g => hx (g.2.2.1.2 (by rw [h3]; rfl)))
  have n1 : (d == 1) = false := by rw [h3]; rfl
  have n3 : (d == 3) = true := by rw [h3]; rfl
  have hf : (mkS r.front).toList.isEmpty = false := by rw [emp_is, decide_eq_false hx]
  clear hd hk h3 hx
  unfold rawV
  go_enter Tryz.func169, Tryz.ntmps169
  go_wp2_with (first
    | (go_at_call 29; (with_reducible refine (WI.out _).mono ?_); rintro e w' ⟨rfl, hw⟩; subst hw)
    | fail)
  refine bodyPost_ret (v := .tuple #[.string ⟨#[]⟩, .int .i64 2]) (by simp [results, Tryz.results169, go_sem]) rfl ?_
  exact ⟨_, _, HW.out, rfl, below_alloc2 _ _ _⟩
set_option maxHeartbeats 4000000 in
theorem refW_bad1 (d : Int) (hd : 1 ≤ d ∧ d ≤ 4) (r : RawL) (hk : r.kind ≠ 0) (ht : TextsLe r) (h1 : d = 1) (hx : r.user ++ (r.group ++ r.front) ≠ []) (w : World) :
    Calls Tryz.prog 169 #[.int .i64 d, rawV r] w (RefWPost d r w) := by
  have WI := Lib.hid (fun w => within_any d 1 4 w)
  rw [decide_eq_true hd] at WI
  have hk' : ((r.kind.toNat : Int) == 0) = false := by
    rw [beq_eq_false_iff_ne]; intro e; exact hk (UInt8.toNat_inj.1 (by show r.kind.toNat = 0; omega))
  have HW := Lib.hid (show WriteIs d r [] 2 from .range d r hd hk fun g => hx (by have h := g.2.2.1.1 (by rw [h1]; rfl); rw [h.1, h.2.1, h.2.2.1]; rfl))
  have n1 : (d == 1) = true := by rw [h1]; rfl
  have n3 : (d == 3) = false := by rw [h1]; rfl
  have hg1 := ht.user
  have hg2 := ht.group
  have hg3 := ht.front
  have hcA := fun w => mkS_cat2 r.user r.group (by omega) w
  have hcB : ∀ w, (Op.stringOp .add (mkS (r.user ++ r.group)) (mkS r.front)).run Tryz.prog w = .ok (.string (mkS (r.user ++ (r.group ++ r.front)))) w := fun w => by
    have h := mkS_cat2 (r.user ++ r.group) r.front (by simp only [List.length_append]; omega) w
    simpa only [List.append_assoc] using h
  have hf : (mkS (r.user ++ (r.group ++ r.front))).toList.isEmpty = false := by rw [emp_is, decide_eq_false hx]
  clear hd hk h1 hx ht hg1 hg2 hg3
  unfold rawV
  go_enter Tryz.func169, Tryz.ntmps169
  go_wp2_with (first
    | (go_at_call 29; (with_reducible refine (WI.out _).mono ?_); rintro e w' ⟨rfl, hw⟩; subst hw)
    | fail)
  refine bodyPost_ret (v := .tuple #[.string ⟨#[]⟩, .int .i64 2]) (by simp [results, Tryz.results169, go_sem]) rfl ?_
  exact ⟨_, _, HW.out, rfl, below_alloc2 _ _ _⟩
set_option maxHeartbeats 4000000 in
theorem refW_bad2 (d : Int) (hd : 1 ≤ d ∧ d ≤ 4) (r : RawL) (hk : r.kind ≠ 0) (ht : TextsLe r) (h1 : d = 1) (hx : r.user ++ (r.group ++ r.front) = []) (hm : r.major ≠ 0) (w : World) :
    Calls Tryz.prog 169 #[.int .i64 d, rawV r] w (RefWPost d r w) := by
  have WI := Lib.hid (fun w => within_any d 1 4 w)
  rw [decide_eq_true hd] at WI
  have hk' : ((r.kind.toNat : Int) == 0) = false := by
    rw [beq_eq_false_iff_ne]; intro e; exact hk (UInt8.toNat_inj.1 (by show r.kind.toNat = 0; omega))
  have HW := Lib.hid (show WriteIs d r [] 2 from .range d r hd hk fun g => hm (g.2.2.1.1 (by rw [h1]; rfl)).2.2.2.1)
  have n1 : (d == 1) = true := by rw [h1]; rfl
  have n3 : (d == 3) = false := by rw [h1]; rfl
  have hg1 := ht.user
  have hg2 := ht.group
  have hg3 := ht.front
  have hcA := fun w => mkS_cat2 r.user r.group (by omega) w
  have hcB : ∀ w, (Op.stringOp .add (mkS (r.user ++ r.group)) (mkS r.front)).run Tryz.prog w = .ok (.string (mkS (r.user ++ (r.group ++ r.front)))) w := fun w => by
    have h := mkS_cat2 (r.user ++ r.group) r.front (by simp only [List.length_append]; omega) w
    simpa only [List.append_assoc] using h
  have hf : (mkS (r.user ++ (r.group ++ r.front))).toList.isEmpty = true := by rw [emp_is, decide_eq_true hx]
  clear hd hk h1 hx ht hg1 hg2 hg3
  unfold rawV
  go_enter Tryz.func169, Tryz.ntmps169
  go_wp2_with (first
    | (go_at_call 29; (with_reducible refine (WI.out _).mono ?_); rintro e w' ⟨rfl, hw⟩; subst hw)
    | fail)
  refine bodyPost_ret (v := .tuple #[.string ⟨#[]⟩, .int .i64 2]) (by simp [results, Tryz.results169, go_sem]) rfl ?_
  exact ⟨_, _, HW.out, rfl, below_alloc2 _ _ _⟩
set_option maxHeartbeats 4000000 in
theorem refW_bad4 (d : Int) (hd : 1 ≤ d ∧ d ≤ 4) (r : RawL) (hk : r.kind ≠ 0) (ht : TextsLe r) (h1 : d = 1) (hx : r.user ++ (r.group ++ r.front) = []) (hm0 : r.major = 0) (hm : r.minor ≠ 0) (w : World) :
    Calls Tryz.prog 169 #[.int .i64 d, rawV r] w (RefWPost d r w) := by
  have WI := Lib.hid (fun w => within_any d 1 4 w)
  rw [decide_eq_true hd] at WI
  have hk' : ((r.kind.toNat : Int) == 0) = false := by
    rw [beq_eq_false_iff_ne]; intro e; exact hk (UInt8.toNat_inj.1 (by show r.kind.toNat = 0; omega))
  have HW := Lib.hid (show WriteIs d r [] 2 from .range d r hd hk fun g => hm (g.2.2.1.1 (by rw [h1]; rfl)).2.2.2.2)
  have n1 : (d == 1) = true := by rw [h1]; rfl
  have n3 : (d == 3) = false := by rw [h1]; rfl
  have hg1 := ht.user
  have hg2 := ht.group
  have hg3 := ht.front
  have hcA := fun w => mkS_cat2 r.user r.group (by omega) w
  have hcB : ∀ w, (Op.stringOp .add (mkS (r.user ++ r.group)) (mkS r.front)).run Tryz.prog w = .ok (.string (mkS (r.user ++ (r.group ++ r.front)))) w := fun w => by
    have h := mkS_cat2 (r.user ++ r.group) r.front (by simp only [List.length_append]; omega) w
    simpa only [List.append_assoc] using h
  have hf : (mkS (r.user ++ (r.group ++ r.front))).toList.isEmpty = true := by rw [emp_is, decide_eq_true hx]
  clear hd hk h1 hx ht hg1 hg2 hg3
  unfold rawV
  go_enter Tryz.func169, Tryz.ntmps169
  go_wp2_with (first
    | (go_at_call 29; (with_reducible refine (WI.out _).mono ?_); rintro e w' ⟨rfl, hw⟩; subst hw)
    | fail)
  refine bodyPost_ret (v := .tuple #[.string ⟨#[]⟩, .int .i64 2]) (by simp [results, Tryz.results169, go_sem]) rfl ?_
  exact ⟨_, _, HW.out, rfl, below_alloc2 _ _ _⟩
theorem refWrite_all (d : Int) (r : RawL) (ht : TextsLe r) (hi : IntsIn r) (w : World) :
    Calls Tryz.prog 169 #[.int .i64 d, rawV r] w (RefWPost d r w) := by
  by_cases hd : 1 ≤ d ∧ d ≤ 4
  · by_cases hk : r.kind = 0
    · exact refW_none d hd r hk w
    · obtain h1 | h2 | h3 : d = 1 ∨ (d = 2 ∨ d = 4) ∨ d = 3 := by omega
      · by_cases hx : r.user ++ (r.group ++ r.front) = []
        · by_cases hm : r.major = 0
          · by_cases hn : r.minor = 0
            · refine refW_one d h1 hd r hk ⟨fun _ => ?_, fun h => ?_⟩ ht hi w
              · have ha := List.append_eq_nil_iff.1 hx
                have hb := List.append_eq_nil_iff.1 ha.2
                exact ⟨ha.1, hb.1, hb.2, hm, hn⟩
              · rw [h1] at h; exact absurd h (by decide)
            · exact refW_bad4 d hd r hk ht h1 hx hm hn w
          · exact refW_bad2 d hd r hk ht h1 hx hm w
        · exact refW_bad1 d hd r hk ht h1 hx w
      · refine refW_two d h2 hd r hk ⟨fun h => ?_, fun h => ?_⟩ ht hi w
        · rcases h2 with h2 | h2 <;> (rw [h2] at h; exact absurd h (by decide))
        · rcases h2 with h2 | h2 <;> (rw [h2] at h; exact absurd h (by decide))
      · by_cases hx : r.front = []
        · refine refW_gnu d h3 hd r hk ⟨fun h => ?_, fun _ => hx⟩ ht hi w
          rw [h3] at h; exact absurd h (by decide)
        · exact refW_bad3 d hd r hk h3 hx w
  · exact refW_far d hd r w
end Go.Proofs.YthnonmniponahaaGreatDoor
end
section
/- The law's rawOf. -/
namespace Go.Proofs.YthnonmniponahaaGreatDoor
open Go.RowKit Go.Joins
set_option linter.unusedVariables false
set_option linter.unusedSimpArgs false

end Go.Proofs.YthnonmniponahaaGreatDoor
end
section
/- The law HeadWrites: its walk. -/
namespace Go.Proofs.YthnonmniponahaaGreatDoor
open Go.RowKit Go.Joins
set_option linter.unusedVariables false
set_option linter.unusedSimpArgs false

theorem WriteIs.unique {d : Int} {r : RawL} {s s' : List UInt8} {k k' : Int} (h : WriteIs d r s k) (h' : WriteIs d r s' k') : s = s' ∧ k = k' := by
  cases h with
  | arg h =>
    cases h' with
    | arg h' => exact ⟨rfl, rfl⟩
    | range a b _ => exact absurd h (by rintro (h | h | h); omega; omega; exact b h)
    | ok a g => exact absurd h (by have := g.1; rintro (h | h | h); omega; omega; exact g.2.1 h)
  | range a b c =>
    cases h' with
    | arg h => exact absurd h (by rintro (h | h | h); omega; omega; exact b h)
    | range _ _ _ => exact ⟨rfl, rfl⟩
    | ok _ g => exact absurd g c
  | ok a g =>
    cases h' with
    | arg h => exact absurd h (by have := g.1; rintro (h | h | h); omega; omega; exact g.2.1 h)
    | range _ _ c => exact absurd g c
    | ok _ _ => exact ⟨rfl, rfl⟩
end Go.Proofs.YthnonmniponahaaGreatDoor
end
