/- The reference's HeadRead. -/
import Derived.Test.YtapfkjdkpcgoiaaGreatDoorBlkh
import Derived.Test.YtapfkjdkpcgoiaaGreatDoorRtx
import Derived.Test.YtapfkjdkpcgoiaaGreatDoorRde
import Derived.Deep.CutRange

namespace Go.Proofs.YtapfkjdkpcgoiaaGreatDoor
open Go.RowKit Go.Joins
set_option linter.unusedVariables false
set_option linter.unusedSimpArgs false
theorem refRight_mkS (l : List UInt8) (b : Bool) (hb : b = true ↔ rightL l) (hl : l.length = 512) (w : World) :
    Calls Tryz.prog 8 #[.string (mkS l)] w fun e w' => e = .returned (.bool b) ∧ Below w.heap.size w w' := by
  have hi : rightP (mkS l) ↔ rightL l := by rw [rightP_iff, mkS_list]
  cases b with
  | true => exact refRight_yes _ w (hi.2 (hb.1 rfl))
  | false => exact refRight_no _ w (by rw [mkS_size]; omega) (fun h => by have := hb.2 (hi.1 h); cases this)
theorem rep_zero (n : Nat) (w : World) (h : n ≤ 1000) :
    Calls Tryz.prog 23 #[.string ⟨#[0]⟩, .int .i64 (n : Int)] w fun e w' => e = .returned (.string (mkS (List.replicate n 0))) ∧ Below w.heap.size w w' := by
  have h := Tryz.strings_Repeat ⟨#[0]⟩ n w (by omega) (by show 1 * n ≤ _; omega)
  have e : (⟨(Lib.repeatL [0] n).toArray⟩ : ByteArray) = mkS (List.replicate n 0) := by
    have h0 : ∀ m, Lib.repeatL [0] m = List.replicate m (0 : UInt8) := by
      intro m
      induction m with
      | zero => rfl
      | succ m ih => rw [Lib.repeatL, ih]; rfl
    unfold mkS
    rw [h0]
  rwa [e] at h
set_option maxHeartbeats 2000000 in
theorem refMagic_any (d : Int) (hd : 1 ≤ d ∧ d ≤ 4) (w : World) :
    Calls Tryz.prog 9 #[.int .i64 d] w fun e w' => e = .returned (.string (mkS (magicL d.toNat))) ∧ Below w.heap.size w w' := by
  have R := Lib.hid (fun w => rep_zero 8 w (by omega))
  obtain rfl | rfl | rfl | rfl : d = 1 ∨ d = 2 ∨ d = 3 ∨ d = 4 := by omega
  all_goals
    go_enter Tryz.func9, Tryz.ntmps9
    go_wp2_with (go_at_call 23; (refine (R.out _).mono ?_); rintro e w1 ⟨rfl, h1⟩)
    go_ret
    exact ⟨rfl, h1.alloc h1.size _⟩
/-! ### The walk -/
def RefPost (l : List UInt8) (w : World) (e : Ending) (w' : World) : Prop := ∃ q d k, ReadIs l q d k ∧ e = .returned (.tuple #[rawV q, .int .i64 d, .int .i64 k]) ∧ Below w.heap.size w w'
theorem ref_ok {l : List UInt8} {D : Nat} {c : UInt8} (hr : rightL l) (hD : dialF l = D) (hc : (sub l 156 1).headD 0 = c) (hn : numsRead l) :
    ReadIs l ⟨cutZ (sub l 0 100), cutZ (sub l 157 100), if D = 1 then [] else cutZ (sub l 265 32), if D = 1 then [] else cutZ (sub l 297 32), if D = 2 then cutZ (sub l 345 155) else [], kindF c, (numAt l 100 8).1, (numAt l 108 8).1, (numAt l 116 8).1, (numAt l 124 12).1, (numAt l 136 12).1, if D = 1 then 0 else (numAt l 329 8).1, if D = 1 then 0 else (numAt l 337 8).1⟩ D 0 := by
  have h := ReadIs.ok l hr hn
  unfold rawAt at h
  rw [hD, hc] at h
  exact h
theorem setC {w : World} {b : Nat} {cs : Array Value} {t : TypeId} {fr : Nat × Nat} (h : w.heap[b]? = some (.cells cs t fr)) (i : Nat) (v : Value) : (w.setCell ⟨b, i, none⟩ v).heap[b]? = some (.cells (cs.setIfInBounds i v) t fr) := by
  rw [setCell_eq_setRow w b i _ _ _ v h]
  exact setRow_heap w b _ _ t fr h
/-- What the walk keeps: below w all stands; the text in its box; the result's block; the flag. -/
structure HrIs (l : List UInt8) (w : World) (cB : Nat) (z : Bool) (V : World) : Prop where
  below : Below w.heap.size w V
  str : V.cell? ⟨w.heap.size, 0, none⟩ = some (.string (mkS l))
  res : V.heap[w.heap.size + 1]? = some (.cells #[.string ⟨#[]⟩, .string ⟨#[]⟩, .string ⟨#[]⟩, .string ⟨#[]⟩, .string ⟨#[]⟩, .int .u8 0, .int .i64 0, .int .i64 0, .int .i64 0, .int .i64 0, .int .i64 0, .int .i64 0, .int .i64 0] 23 (0, 0))
  box : V.heap[cB]? = some (.cells #[.bool z] 4 (0, 0))
  lt : w.heap.size + 1 < cB
theorem HrIs.text {l : List UInt8} {w : World} {cB : Nat} {z : Bool} {V V' : World} (h : HrIs l w cB z V) (hb : Below V.heap.size V V') : HrIs l w cB z V' :=
  ⟨h.below.trans (hb.mono h.below.size), (hb.cell (p := ⟨w.heap.size, 0, none⟩) (block_lt_of_cell h.str)).trans h.str, (hb.block _ (Array.getElem?_eq_some_iff.1 h.res).1).trans h.res, (hb.block _ (Array.getElem?_eq_some_iff.1 h.box).1).trans h.box, h.lt⟩
theorem HrIs.num {l : List UInt8} {w : World} {cB : Nat} {z z' : Bool} {V V' : World} (h : HrIs l w cB z V) (hb : But V.heap.size cB V V') (hx : V'.heap[cB]? = some (.cells #[.bool z'] 4 (0, 0))) : HrIs l w cB z' V' :=
  ⟨h.below.trans ((hb.mono h.below.size).below (by have := h.lt; omega)), (hb.cell (a := ⟨w.heap.size, 0, none⟩) (block_lt_of_cell h.str) (by have := h.lt; show w.heap.size ≠ cB; omega)).trans h.str, (hb.block _ (Array.getElem?_eq_some_iff.1 h.res).1 (by have := h.lt; omega)).trans h.res, hx, h.lt⟩
theorem HrIs.alloc {l : List UInt8} {w : World} {cB : Nat} {z : Bool} {V : World} (h : HrIs l w cB z V) (o : Obj) : HrIs l w cB z (V.alloc o) := h.text ((Below.refl _ _).alloc (Nat.le_refl _) o)
theorem HrIs.drew {l : List UInt8} {w : World} {cB : Nat} {z : Bool} {V : World} (h : HrIs l w cB z V) : HrIs l w cB z V.drew := h.text (Below.refl _ _).drew
theorem HrIs.below_box {l : List UInt8} {w : World} {cB : Nat} {z : Bool} {V : World} (h : HrIs l w cB z V) : cB < V.heap.size := (Array.getElem?_eq_some_iff.1 h.box).1
theorem HrIs.set {l : List UInt8} {w : World} {cB : Nat} {z : Bool} {V : World} (h : HrIs l w cB z V) {b : Nat} (hb : cB < b) (cs : Array Value) : HrIs l w cB z (V.setRow b cs) := by
  have hlt := h.lt
  refine ⟨⟨h.below.os, h.below.tape, h.below.output, by rw [setRow_size]; exact h.below.size, fun k hk => (setRow_other V b k cs (by omega)).trans (h.below.block k hk)⟩, (cell_setRow_other V b cs _ (by show w.heap.size ≠ b; omega)).trans h.str, (setRow_other V b _ cs (by omega)).trans h.res, (setRow_other V b _ cs (by omega)).trans h.box, h.lt⟩
def bad5 (l : List UInt8) : Bool := ((((false || !((numAt l 100 8).2 == 0)) || !((numAt l 108 8).2 == 0)) || !((numAt l 116 8).2 == 0)) || !((numAt l 124 12).2 == 0)) || !((numAt l 136 12).2 == 0)
theorem call_at {P : Program} {o : Oper} {a : Act} {w : World} {K : Act → World → Prop} {Q : Exit → Act → World → Prop} {R : Value → World → Prop} (d : Nat) (hd : o.dst = some d) (f : FuncId) (args : Array Value) (hrun : (execOp a.eval o).run P w = .ok (.enter f args) w)
    (hc : Calls P f args w fun e w' => ∃ v, e = .returned v ∧ R v w') (h : ∀ v w', R v w' → K ⟨a.tmps.setIfInBounds d v, a.defers⟩ w') : o.wp P a w K Q := by
  unfold Oper.wp
  rw [hrun, Oper.upon_enter]
  refine hc.mono fun e w' hh => ?_
  obtain ⟨v, rfl, hR⟩ := hh
  show K (a.put o.dst v) w'
  rw [put_to hd]
  exact h v w' hR
theorem refAt_of_row {w : World} {b : Nat} {v0 v1 v2 v3 v4 v5 v6 v7 v8 v9 v10 v11 v12 : Value} {t : TypeId} {fr : Nat × Nat} (h : w.heap[b]? = some (.cells #[v0, v1, v2, v3, v4, v5, v6, v7, v8, v9, v10, v11, v12] t fr)) :
    w.cell? ⟨b, 0, none⟩ = some v0 ∧ w.cell? ⟨b, 1, none⟩ = some v1 ∧ w.cell? ⟨b, 2, none⟩ = some v2 ∧ w.cell? ⟨b, 3, none⟩ = some v3 ∧ w.cell? ⟨b, 4, none⟩ = some v4 ∧ w.cell? ⟨b, 5, none⟩ = some v5 ∧ w.cell? ⟨b, 6, none⟩ = some v6 ∧ w.cell? ⟨b, 7, none⟩ = some v7 ∧ w.cell? ⟨b, 8, none⟩ = some v8 ∧ w.cell? ⟨b, 9, none⟩ = some v9 ∧ w.cell? ⟨b, 10, none⟩ = some v10 ∧ w.cell? ⟨b, 11, none⟩ = some v11 ∧ w.cell? ⟨b, 12, none⟩ = some v12 := by
  refine ⟨?_, ?_, ?_, ?_, ?_, ?_, ?_, ?_, ?_, ?_, ?_, ?_, ?_⟩ <;> (simp only [World.cell?, h]; rfl)
theorem zeroRef (w : World) : (zeroValue 23).run Tryz.prog w = .ok (.agg #[.string ⟨#[]⟩, .string ⟨#[]⟩, .string ⟨#[]⟩, .string ⟨#[]⟩, .string ⟨#[]⟩, .int .u8 0, .int .i64 0, .int .i64 0, .int .i64 0, .int .i64 0, .int .i64 0, .int .i64 0, .int .i64 0]) w := by kernel_rfl
theorem HrIs.cellSet {l : List UInt8} {w : World} {cB : Nat} {z : Bool} {V : World} (h : HrIs l w cB z V) {b : Nat} (hb : cB < b) {cs : Array Value} {t : TypeId} {fr : Nat × Nat} (hq : V.heap[b]? = some (.cells cs t fr)) (i : Nat) (v : Value) : HrIs l w cB z (V.setCell ⟨b, i, none⟩ v) := by
  rw [setCell_eq_setRow V b i _ _ _ v hq]
  exact h.set hb _
theorem bad5_iff {l : List UInt8} (h1 : dialF l = 1) : bad5 l = false ↔ numsRead l := by
  unfold bad5 numsRead
  rw [h1]
  simp [Bool.or_eq_false_iff, and_assoc]
theorem bad7_iff {l : List UInt8} (h1 : dialF l ≠ 1) : ((bad5 l || !((numAt l 329 8).2 == 0)) || !((numAt l 337 8).2 == 0)) = false ↔ numsRead l := by
  unfold bad5 numsRead
  simp [Bool.or_eq_false_iff, and_assoc, h1]
theorem infoRef : (Tryz.prog.info? 23).map (·.size) = some 13 := by kernel_rfl
set_option maxRecDepth 100000 in
set_option maxHeartbeats 40000000 in
theorem refRead_right (l : List UInt8) (hl : l.length = 512) (hr : rightL l) (x2 x3 : Bool) (h2 : decide (sub l 257 8 = magicL 2) = x2) (h3 : decide (sub l 257 8 = magicL 3) = x3) (hx : (x2 = true ∧ x3 = false) ∨ (x2 = false ∧ x3 = true) ∨ (x2 = false ∧ x3 = false)) (w : World) :
    Calls Tryz.prog 4 #[.string (mkS l)] w (RefPost l w) := by
  have HR := Lib.hid hr
  have hdial : dialF l = if x2 = true then 2 else if x3 = true then 3 else 1 := by
    unfold dialF
    rw [← h2, ← h3]
    simp only [decide_eq_true_eq]
  have HDL := Lib.hid hdial
  clear hdial
  have C1 := Lib.hid (fun w => refRight_mkS l true ⟨fun _ => hr, fun _ => rfl⟩ hl w)
  have M2 := Lib.hid (fun w => refMagic_any 2 ⟨by omega, by omega⟩ w)
  have M3 := Lib.hid (fun w => refMagic_any 3 ⟨by omega, by omega⟩ w)
  have s1 := mkS_size l
  rw [hl] at s1
  have e2 := text_beq (sub l 257 8) (magicL 2)
  have e3 := text_beq (sub l 257 8) (magicL 3)
  rw [h2] at e2
  rw [h3] at e3
  have m1 : ∀ w, (Instr.slice 9 (.string (mkS l)) (some (.int .i64 257)) (some (.int .i64 265)) none).run Tryz.prog w = .ok (.string (mkS (sub l 257 8))) w := fun w => mid_sub l 257 265 (by omega) (by omega) w
  obtain ⟨c, hc⟩ : ∃ c, l[156]? = some c := ⟨_, List.getElem?_eq_getElem (by omega)⟩
  have i1 : ∀ w, (Instr.index 9 (.string (mkS l)) (.int .i64 156)).run Tryz.prog w = .ok (.int .u8 (c.toNat : Int)) w := fun w => mkS_index l 156 c (by omega) hc w
  have HC := Lib.hid (show (sub l 156 1).headD 0 = c by
    unfold sub
    rw [List.headD_eq_head?_getD, List.head?_take, if_neg (by omega), List.head?_drop, hc]; rfl)
  clear h2 h3 hr hc
  rw [show (2 : Int).toNat = 2 from rfl] at M2
  rw [show (3 : Int).toNat = 3 from rfl] at M3
  generalize magicL 2 = L2 at *
  generalize magicL 3 = L3 at *
  have hS0 := Lib.hid (show ((w.alloc (.cells #[.string (mkS l)] 9)).alloc (.cells #[.string ⟨#[]⟩, .string ⟨#[]⟩, .string ⟨#[]⟩, .string ⟨#[]⟩, .string ⟨#[]⟩, .int .u8 0, .int .i64 0, .int .i64 0, .int .i64 0, .int .i64 0, .int .i64 0, .int .i64 0, .int .i64 0] 23)).cell? ⟨w.heap.size, 0, none⟩ = some (.string (mkS l)) by
    rw [World.cell?_alloc_lt _ _ _ (by simp)]; exact cell_of_one (heap_alloc_new w _))
  have hZ0 := Lib.hid (show ((w.alloc (.cells #[.string (mkS l)] 9)).alloc (.cells #[.string ⟨#[]⟩, .string ⟨#[]⟩, .string ⟨#[]⟩, .string ⟨#[]⟩, .string ⟨#[]⟩, .int .u8 0, .int .i64 0, .int .i64 0, .int .i64 0, .int .i64 0, .int .i64 0, .int .i64 0, .int .i64 0] 23)).heap[w.heap.size + 1]? = some (.cells #[.string ⟨#[]⟩, .string ⟨#[]⟩, .string ⟨#[]⟩, .string ⟨#[]⟩, .string ⟨#[]⟩, .int .u8 0, .int .i64 0, .int .i64 0, .int .i64 0, .int .i64 0, .int .i64 0, .int .i64 0, .int .i64 0] 23 (0, 0)) by
    have := heap_alloc_new (w.alloc (.cells #[.string (mkS l)] 9)) (.cells #[.string ⟨#[]⟩, .string ⟨#[]⟩, .string ⟨#[]⟩, .string ⟨#[]⟩, .string ⟨#[]⟩, .int .u8 0, .int .i64 0, .int .i64 0, .int .i64 0, .int .i64 0, .int .i64 0, .int .i64 0, .int .i64 0] 23)
    rwa [show (w.alloc (.cells #[.string (mkS l)] 9)).heap.size = w.heap.size + 1 by simp] at this)
  have hB0 := Lib.hid (below_alloc2 w (.cells #[.string (mkS l)] 9) (.cells #[.string ⟨#[]⟩, .string ⟨#[]⟩, .string ⟨#[]⟩, .string ⟨#[]⟩, .string ⟨#[]⟩, .int .u8 0, .int .i64 0, .int .i64 0, .int .i64 0, .int .i64 0, .int .i64 0, .int .i64 0, .int .i64 0] 23))
  go_enter Tryz.func4, Tryz.ntmps4
  go_wp2_with (first | (go_at_call 8; (with_reducible refine (C1.out _).mono ?_); rintro e w1 ⟨rfl, h1⟩; have hB1 := Lib.hid (hB0.out.trans (h1.mono hB0.out.size)); have hS1 := Lib.hid ((h1.cell (p := ⟨w.heap.size, 0, none⟩) (block_lt_of_cell hS0.out)).trans hS0.out); have hZ1 := Lib.hid ((h1.block _ (Array.getElem?_eq_some_iff.1 hZ0.out).1).trans hZ0.out); clear h1 hB0 hS0 hZ0) | fail)
  have q2 := fun d os => cell_regrown hS1.out d os
  refine wp_region_quiet_below (by kernel_rfl) (by kernel_rfl) ?_
  repeat (go_big_quiet_step ((go_at_call 9; with_reducible exact Calls.regrown_of (M2.out _))))
  refine wpQuiet_nil ?_
  intro _ hw'
  obtain ⟨⟨dq, osq⟩, hw''⟩ := hw'
  subst hw''
  have hB2 := Lib.hid (hB1.out.trans ((below_regrown w1 dq osq).mono hB1.out.size))
  have hS2 := Lib.hid (q2 dq osq)
  have hZ2 := Lib.hid (((below_regrown w1 dq osq).block _ (Array.getElem?_eq_some_iff.1 hZ1.out).1).trans hZ1.out)
  clear q2 hB1 hZ1 hS1
  dsimp only at *
  generalize Sort.grow (redrawn w1 dq) osq = u2 at *
  clear dq osq
  rcases hx with ⟨rfl, rfl⟩ | ⟨rfl, rfl⟩ | ⟨rfl, rfl⟩
  · go_wp2_with fail
    have q3 := fun d os => cell_regrown hS2.out d os
    refine wp_region_quiet_below (by kernel_rfl) (by kernel_rfl) ?_
    repeat (go_big_quiet_step ((go_at_call 9; with_reducible exact Calls.regrown_of (M3.out _))))
    refine wpQuiet_nil ?_
    intro _ hw'
    obtain ⟨⟨dq, osq⟩, hw''⟩ := hw'
    subst hw''
    have hB3 := Lib.hid (hB2.out.trans ((below_regrown u2 dq osq).mono hB2.out.size))
    have hS3 := Lib.hid (q3 dq osq)
    have hZ3 := Lib.hid (((below_regrown u2 dq osq).block _ (Array.getElem?_eq_some_iff.1 hZ2.out).1).trans hZ2.out)
    clear q3 hB2 hZ2 hS2
    dsimp only at *
    generalize Sort.grow (redrawn u2 dq) osq = u3 at *
    clear dq osq
    go_wp2_with fail
    have hH0 := Lib.hid (show HrIs l w u3.heap.size false (u3.alloc (.cells #[.bool false] 4)) from
      ⟨hB3.out.alloc hB3.out.size _, (World.cell?_alloc_lt _ _ _ (block_lt_of_cell hS3.out)).trans hS3.out, (Below.heap_alloc u3 _ _ (Array.getElem?_eq_some_iff.1 hZ3.out).1).trans hZ3.out, heap_alloc_new u3 _, (Array.getElem?_eq_some_iff.1 hZ3.out).1⟩)
    clear hB3 hS3 hZ3
    generalize u3.alloc (.cells #[.bool false] 4) = W0 at *
    generalize u3.heap.size = cB at *
    go_cut [9] from 28 to 44 (fun p wc => ∃ b0, p = .pointer (some ⟨b0, 0, none⟩) ∧ cB < b0 ∧ HrIs l w cB (bad5 l) wc ∧ wc.heap[b0]? = some (.cells #[.string (mkS (cutZ (sub l 0 100))), .string (mkS (cutZ (sub l 157 100))), .string ⟨#[]⟩, .string ⟨#[]⟩, .string ⟨#[]⟩, .int .u8 (c.toNat : Int), .int .i64 (numAt l 100 8).1, .int .i64 (numAt l 108 8).1, .int .i64 (numAt l 116 8).1, .int .i64 (numAt l 124 12).1, .int .i64 (numAt l 136 12).1, .int .i64 0, .int .i64 0] 23 (0, 0)))
    case first =>
      refine wp_region_held_drew (S := fun w' => w'.cell? ⟨w.heap.size, 0, none⟩ = some (.string (mkS l))) (by kernel_rfl) hH0.out.drew.str (fun hHeld => ?_)
      have hv0 := Lib.hid hH0.out.drew
      generalize W0.drew = v0 at *
      refine take_to (i := 0) 28 (.func (.func 10) #[] #[.pointer (some ⟨w.heap.size, 0, none⟩)]) rfl rfl (by kernel_rfl) (by kernel_rfl) (by kernel_rfl) (fun _ _ _ h => h) (Or.inl ⟨by rfl, fun _ _ => rfl⟩) (by assumption) ?_
      simp only [List.setIfInBounds_toArray, List.set_cons_succ, List.set_cons_zero]
      refine take_to (i := 14) 42 (.func (.func 10) #[] #[.pointer (some ⟨w.heap.size, 0, none⟩)]) rfl rfl (by kernel_rfl) (by kernel_rfl) (by kernel_rfl) (fun _ _ _ h => h) (Or.inl ⟨by rfl, fun _ _ => rfl⟩) (by assumption) ?_
      simp only [List.setIfInBounds_toArray, List.set_cons_succ, List.set_cons_zero]
      refine take_to (i := 2) 30 (.func (.func 12) #[] #[.pointer (some ⟨w.heap.size, 0, none⟩), .pointer (some ⟨cB, 0, none⟩)]) rfl rfl (by kernel_rfl) (by kernel_rfl) (by kernel_rfl) (fun _ _ _ h => h) (Or.inl ⟨by rfl, fun _ _ => rfl⟩) (by assumption) ?_
      simp only [List.setIfInBounds_toArray, List.set_cons_succ, List.set_cons_zero]
      refine take_to (i := 4) 32 (.func (.func 12) #[] #[.pointer (some ⟨w.heap.size, 0, none⟩), .pointer (some ⟨cB, 0, none⟩)]) rfl rfl (by kernel_rfl) (by kernel_rfl) (by kernel_rfl) (fun _ _ _ h => h) (Or.inl ⟨by rfl, fun _ _ => rfl⟩) (by assumption) ?_
      simp only [List.setIfInBounds_toArray, List.set_cons_succ, List.set_cons_zero]
      refine take_to (i := 6) 34 (.func (.func 12) #[] #[.pointer (some ⟨w.heap.size, 0, none⟩), .pointer (some ⟨cB, 0, none⟩)]) rfl rfl (by kernel_rfl) (by kernel_rfl) (by kernel_rfl) (fun _ _ _ h => h) (Or.inl ⟨by rfl, fun _ _ => rfl⟩) (by assumption) ?_
      simp only [List.setIfInBounds_toArray, List.set_cons_succ, List.set_cons_zero]
      refine take_to (i := 8) 36 (.func (.func 12) #[] #[.pointer (some ⟨w.heap.size, 0, none⟩), .pointer (some ⟨cB, 0, none⟩)]) rfl rfl (by kernel_rfl) (by kernel_rfl) (by kernel_rfl) (fun _ _ _ h => h) (Or.inl ⟨by rfl, fun _ _ => rfl⟩) (by assumption) ?_
      simp only [List.setIfInBounds_toArray, List.set_cons_succ, List.set_cons_zero]
      refine take_to (i := 10) 38 (.func (.func 12) #[] #[.pointer (some ⟨w.heap.size, 0, none⟩), .pointer (some ⟨cB, 0, none⟩)]) rfl rfl (by kernel_rfl) (by kernel_rfl) (by kernel_rfl) (fun _ _ _ h => h) (Or.inl ⟨by rfl, fun _ _ => rfl⟩) (by assumption) ?_
      simp only [List.setIfInBounds_toArray, List.set_cons_succ, List.set_cons_zero]
      refine take_to (i := 12) 40 (.string (mkS l)) rfl rfl (by kernel_rfl) (by kernel_rfl) (by kernel_rfl) (fun _ _ _ h => h) (Or.inl ⟨by rfl, ?_⟩) (by assumption) ?_
      · (intro w hSw; go_simp; try with_reducible rfl)
      simp only [List.setIfInBounds_toArray, List.set_cons_succ, List.set_cons_zero]
      refine take_to (i := 13) 41 (.int .u8 (c.toNat : Int)) rfl rfl (by kernel_rfl) (by kernel_rfl) (by kernel_rfl) (fun _ _ _ h => h) (Or.inl ⟨by rfl, ?_⟩) (by assumption) ?_
      · (intro w hSw; go_simp; try with_reducible rfl)
      simp only [List.setIfInBounds_toArray, List.set_cons_succ, List.set_cons_zero]
      clear i1 m1 e2 e3 C1 M2 M3 s1 hH0
      refine wpAnyH_ready (rs := [1, 17]) (by kernel_rfl) (by simp) ?_
      refine AllReadyH.cons rfl (fun K hK => ?_) ?_
      · rw [if_pos (by rfl)]
        refine call_at (R := fun v V => v = .string (mkS (cutZ (sub l 0 100))) ∧ Below v0.heap.size v0 V) 29 rfl 10 #[.int .i64 0, .int .i64 100, .pointer (some ⟨w.heap.size, 0, none⟩)] (by kernel_rfl) ((refText_any l w.heap.size 0 100 (by omega) (by omega) _ hv0.out.str).mono (by rintro e V ⟨he, hb⟩; exact ⟨_, he, rfl, hb⟩)) ?_
        rintro _ v1 ⟨rfl, h4⟩
        have hv1 := Lib.hid (hv0.out.text h4)
        refine hK.out _ _ hv1.out.str (fun hHeld => ?_)
        clear hK h4
        (try simp only [Act.put]); (try simp only [List.setIfInBounds_toArray]); (try simp only [List.set_cons_succ]); (try simp only [List.set_cons_zero])
        refine wpAnyH_ready (rs := [3, 17]) (by kernel_rfl) (by simp) ?_
        refine AllReadyH.cons rfl (fun K hK => ?_) ?_
        · rw [if_pos (by rfl)]
          refine call_at (R := fun v V => v = .int .i64 (numAt l 100 8).1 ∧ V.heap[cB]? = some (.cells #[.bool (false || !((numAt l 100 8).2 == 0))] 4 (0, 0)) ∧ But v1.heap.size cB v1 V) 31 rfl 12 #[.int .i64 100, .int .i64 8, .pointer (some ⟨w.heap.size, 0, none⟩), .pointer (some ⟨cB, 0, none⟩)] (by kernel_rfl) ((refNum_any l w.heap.size cB 100 8 false (by omega) (by omega) _ hv1.out.str hv1.out.box).mono (by rintro e V ⟨he, hx, hb⟩; exact ⟨_, he, rfl, hx, hb⟩)) ?_
          rintro _ v2 ⟨rfl, hx4, h4⟩
          have hv2 := Lib.hid (hv1.out.num h4 hx4)
          refine hK.out _ _ hv2.out.str (fun hHeld => ?_)
          clear hK h4
          (try simp only [Act.put]); (try simp only [List.setIfInBounds_toArray]); (try simp only [List.set_cons_succ]); (try simp only [List.set_cons_zero])
          refine wpAnyH_ready (rs := [5, 17]) (by kernel_rfl) (by simp) ?_
          refine AllReadyH.cons rfl (fun K hK => ?_) ?_
          · rw [if_pos (by rfl)]
            refine call_at (R := fun v V => v = .int .i64 (numAt l 108 8).1 ∧ V.heap[cB]? = some (.cells #[.bool ((false || !((numAt l 100 8).2 == 0)) || !((numAt l 108 8).2 == 0))] 4 (0, 0)) ∧ But v2.heap.size cB v2 V) 33 rfl 12 #[.int .i64 108, .int .i64 8, .pointer (some ⟨w.heap.size, 0, none⟩), .pointer (some ⟨cB, 0, none⟩)] (by kernel_rfl) ((refNum_any l w.heap.size cB 108 8 (false || !((numAt l 100 8).2 == 0)) (by omega) (by omega) _ hv2.out.str hv2.out.box).mono (by rintro e V ⟨he, hx, hb⟩; exact ⟨_, he, rfl, hx, hb⟩)) ?_
            rintro _ v3 ⟨rfl, hx4, h4⟩
            have hv3 := Lib.hid (hv2.out.num h4 hx4)
            refine hK.out _ _ hv3.out.str (fun hHeld => ?_)
            clear hK h4
            (try simp only [Act.put]); (try simp only [List.setIfInBounds_toArray]); (try simp only [List.set_cons_succ]); (try simp only [List.set_cons_zero])
            refine wpAnyH_ready (rs := [7, 17]) (by kernel_rfl) (by simp) ?_
            refine AllReadyH.cons rfl (fun K hK => ?_) ?_
            · rw [if_pos (by rfl)]
              refine call_at (R := fun v V => v = .int .i64 (numAt l 116 8).1 ∧ V.heap[cB]? = some (.cells #[.bool (((false || !((numAt l 100 8).2 == 0)) || !((numAt l 108 8).2 == 0)) || !((numAt l 116 8).2 == 0))] 4 (0, 0)) ∧ But v3.heap.size cB v3 V) 35 rfl 12 #[.int .i64 116, .int .i64 8, .pointer (some ⟨w.heap.size, 0, none⟩), .pointer (some ⟨cB, 0, none⟩)] (by kernel_rfl) ((refNum_any l w.heap.size cB 116 8 ((false || !((numAt l 100 8).2 == 0)) || !((numAt l 108 8).2 == 0)) (by omega) (by omega) _ hv3.out.str hv3.out.box).mono (by rintro e V ⟨he, hx, hb⟩; exact ⟨_, he, rfl, hx, hb⟩)) ?_
              rintro _ v4 ⟨rfl, hx4, h4⟩
              have hv4 := Lib.hid (hv3.out.num h4 hx4)
              refine hK.out _ _ hv4.out.str (fun hHeld => ?_)
              clear hK h4
              (try simp only [Act.put]); (try simp only [List.setIfInBounds_toArray]); (try simp only [List.set_cons_succ]); (try simp only [List.set_cons_zero])
              refine wpAnyH_ready (rs := [9, 17]) (by kernel_rfl) (by simp) ?_
              refine AllReadyH.cons rfl (fun K hK => ?_) ?_
              · rw [if_pos (by rfl)]
                refine call_at (R := fun v V => v = .int .i64 (numAt l 124 12).1 ∧ V.heap[cB]? = some (.cells #[.bool ((((false || !((numAt l 100 8).2 == 0)) || !((numAt l 108 8).2 == 0)) || !((numAt l 116 8).2 == 0)) || !((numAt l 124 12).2 == 0))] 4 (0, 0)) ∧ But v4.heap.size cB v4 V) 37 rfl 12 #[.int .i64 124, .int .i64 12, .pointer (some ⟨w.heap.size, 0, none⟩), .pointer (some ⟨cB, 0, none⟩)] (by kernel_rfl) ((refNum_any l w.heap.size cB 124 12 (((false || !((numAt l 100 8).2 == 0)) || !((numAt l 108 8).2 == 0)) || !((numAt l 116 8).2 == 0)) (by omega) (by omega) _ hv4.out.str hv4.out.box).mono (by rintro e V ⟨he, hx, hb⟩; exact ⟨_, he, rfl, hx, hb⟩)) ?_
                rintro _ v5 ⟨rfl, hx4, h4⟩
                have hv5 := Lib.hid (hv4.out.num h4 hx4)
                refine hK.out _ _ hv5.out.str (fun hHeld => ?_)
                clear hK h4
                (try simp only [Act.put]); (try simp only [List.setIfInBounds_toArray]); (try simp only [List.set_cons_succ]); (try simp only [List.set_cons_zero])
                refine wpAnyH_ready (rs := [11, 17]) (by kernel_rfl) (by simp) ?_
                refine AllReadyH.cons rfl (fun K hK => ?_) ?_
                · rw [if_pos (by rfl)]
                  refine call_at (R := fun v V => v = .int .i64 (numAt l 136 12).1 ∧ V.heap[cB]? = some (.cells #[.bool (((((false || !((numAt l 100 8).2 == 0)) || !((numAt l 108 8).2 == 0)) || !((numAt l 116 8).2 == 0)) || !((numAt l 124 12).2 == 0)) || !((numAt l 136 12).2 == 0))] 4 (0, 0)) ∧ But v5.heap.size cB v5 V) 39 rfl 12 #[.int .i64 136, .int .i64 12, .pointer (some ⟨w.heap.size, 0, none⟩), .pointer (some ⟨cB, 0, none⟩)] (by kernel_rfl) ((refNum_any l w.heap.size cB 136 12 ((((false || !((numAt l 100 8).2 == 0)) || !((numAt l 108 8).2 == 0)) || !((numAt l 116 8).2 == 0)) || !((numAt l 124 12).2 == 0)) (by omega) (by omega) _ hv5.out.str hv5.out.box).mono (by rintro e V ⟨he, hx, hb⟩; exact ⟨_, he, rfl, hx, hb⟩)) ?_
                  rintro _ v6 ⟨rfl, hx4, h4⟩
                  have hv6 := Lib.hid (hv5.out.num h4 hx4)
                  refine hK.out _ _ hv6.out.str (fun hHeld => ?_)
                  clear hK h4
                  (try simp only [Act.put]); (try simp only [List.setIfInBounds_toArray]); (try simp only [List.set_cons_succ]); (try simp only [List.set_cons_zero])
                  refine wpAnyH_ready (rs := [15, 17]) (by kernel_rfl) (by simp) ?_
                  refine AllReadyH.cons rfl (fun K hK => ?_) ?_
                  · rw [if_pos (by rfl)]
                    refine call_at (R := fun v V => v = .string (mkS (cutZ (sub l 157 100))) ∧ Below v6.heap.size v6 V) 43 rfl 10 #[.int .i64 157, .int .i64 100, .pointer (some ⟨w.heap.size, 0, none⟩)] (by kernel_rfl) ((refText_any l w.heap.size 157 100 (by omega) (by omega) _ hv6.out.str).mono (by rintro e V ⟨he, hb⟩; exact ⟨_, he, rfl, hb⟩)) ?_
                    rintro _ v7 ⟨rfl, h4⟩
                    have hv7 := Lib.hid (hv6.out.text h4)
                    refine hK.out _ _ hv7.out.str (fun hHeld => ?_)
                    clear hK h4
                    (try simp only [Act.put]); (try simp only [List.setIfInBounds_toArray]); (try simp only [List.set_cons_succ]); (try simp only [List.set_cons_zero])
                    refine take_to (i := 16) 44 (.agg #[.string (mkS (cutZ (sub l 0 100))), .string (mkS (cutZ (sub l 157 100))), .string ⟨#[]⟩, .string ⟨#[]⟩, .string ⟨#[]⟩, .int .u8 (c.toNat : Int), .int .i64 (numAt l 100 8).1, .int .i64 (numAt l 108 8).1, .int .i64 (numAt l 116 8).1, .int .i64 (numAt l 124 12).1, .int .i64 (numAt l 136 12).1, .int .i64 0, .int .i64 0]) rfl rfl (by kernel_rfl) (by kernel_rfl) (by kernel_rfl) (fun _ _ _ h => h) (Or.inl ⟨by rfl, fun _ _ => by kernel_rfl⟩) (by assumption) ?_
                    simp only [List.setIfInBounds_toArray, List.set_cons_succ, List.set_cons_zero]
                    refine wpAnyH_ready (rs := [17]) (by kernel_rfl) (by simp) ?_
                    refine AllReadyH.cons rfl (fun K hK => ?_) ?_
                    · rw [if_pos (by rfl)]
                      refine alloc_row_to 9 rfl _ rfl _ (zeroRef _) ?_
                      have hv8 := Lib.hid (hv7.out.alloc (.cells #[.string ⟨#[]⟩, .string ⟨#[]⟩, .string ⟨#[]⟩, .string ⟨#[]⟩, .string ⟨#[]⟩, .int .u8 0, .int .i64 0, .int .i64 0, .int .i64 0, .int .i64 0, .int .i64 0, .int .i64 0, .int .i64 0] 23))
                      have hqv8 := Lib.hid (heap_alloc_new v7 (.cells #[.string ⟨#[]⟩, .string ⟨#[]⟩, .string ⟨#[]⟩, .string ⟨#[]⟩, .string ⟨#[]⟩, .int .u8 0, .int .i64 0, .int .i64 0, .int .i64 0, .int .i64 0, .int .i64 0, .int .i64 0, .int .i64 0] 23))
                      have hb := Lib.hid (hv7.out.below_box)
                      refine hK.out _ _ hv8.out.str (fun hHeld => ?_)
                      clear hK
                      (try simp only [Act.put]); (try simp only [List.setIfInBounds_toArray]); (try simp only [List.set_cons_succ]); (try simp only [List.set_cons_zero])
                      generalize v7.alloc (.cells #[.string ⟨#[]⟩, .string ⟨#[]⟩, .string ⟨#[]⟩, .string ⟨#[]⟩, .string ⟨#[]⟩, .int .u8 0, .int .i64 0, .int .i64 0, .int .i64 0, .int .i64 0, .int .i64 0, .int .i64 0, .int .i64 0] 23) = v8 at *
                      generalize v7.heap.size = b0 at *
                      refine wpAnyH_ready (rs := [18]) (by kernel_rfl) (by simp) ?_
                      refine AllReadyH.cons rfl (fun K hK => ?_) AllReadyH.nil
                      rw [if_pos (by rfl)]
                      refine store_row_no rfl _ _ _ rfl b0 #[.string (mkS (cutZ (sub l 0 100))), .string (mkS (cutZ (sub l 157 100))), .string ⟨#[]⟩, .string ⟨#[]⟩, .string ⟨#[]⟩, .int .u8 (c.toNat : Int), .int .i64 (numAt l 100 8).1, .int .i64 (numAt l 108 8).1, .int .i64 (numAt l 116 8).1, .int .i64 (numAt l 124 12).1, .int .i64 (numAt l 136 12).1, .int .i64 0, .int .i64 0] rfl rfl _ _ hqv8.out infoRef rfl (by kernel_rfl) ?_
                      have h9 := Lib.hid (hv8.out.set hb.out #[.string (mkS (cutZ (sub l 0 100))), .string (mkS (cutZ (sub l 157 100))), .string ⟨#[]⟩, .string ⟨#[]⟩, .string ⟨#[]⟩, .int .u8 (c.toNat : Int), .int .i64 (numAt l 100 8).1, .int .i64 (numAt l 108 8).1, .int .i64 (numAt l 116 8).1, .int .i64 (numAt l 124 12).1, .int .i64 (numAt l 136 12).1, .int .i64 0, .int .i64 0])
                      have hq9 := Lib.hid (setRow_heap v8 _ _ #[.string (mkS (cutZ (sub l 0 100))), .string (mkS (cutZ (sub l 157 100))), .string ⟨#[]⟩, .string ⟨#[]⟩, .string ⟨#[]⟩, .int .u8 (c.toNat : Int), .int .i64 (numAt l 100 8).1, .int .i64 (numAt l 108 8).1, .int .i64 (numAt l 116 8).1, .int .i64 (numAt l 124 12).1, .int .i64 (numAt l 136 12).1, .int .i64 0, .int .i64 0] _ _ hqv8.out)
                      refine hK.out _ _ h9.out.str (fun hHeld => ?_)
                      clear hK
                      (try simp only [Act.put]); (try simp only [List.setIfInBounds_toArray]); (try simp only [List.set_cons_succ]); (try simp only [List.set_cons_zero])
                      refine wpAnyH_done (by kernel_rfl) ?_ _
                      go_wp2_with fail
                      go_meet
                      exact ⟨b0, rfl, hb.out, h9.out, hq9.out⟩
                    exact AllReadyH.nil
                  refine AllReadyH.cons rfl (fun K hK => ?_) ?_
                  · rw [if_pos (by rfl)]
                    refine alloc_row_to 9 rfl _ rfl _ (zeroRef _) ?_
                    have hv9 := Lib.hid (hv6.out.alloc (.cells #[.string ⟨#[]⟩, .string ⟨#[]⟩, .string ⟨#[]⟩, .string ⟨#[]⟩, .string ⟨#[]⟩, .int .u8 0, .int .i64 0, .int .i64 0, .int .i64 0, .int .i64 0, .int .i64 0, .int .i64 0, .int .i64 0] 23))
                    have hqv9 := Lib.hid (heap_alloc_new v6 (.cells #[.string ⟨#[]⟩, .string ⟨#[]⟩, .string ⟨#[]⟩, .string ⟨#[]⟩, .string ⟨#[]⟩, .int .u8 0, .int .i64 0, .int .i64 0, .int .i64 0, .int .i64 0, .int .i64 0, .int .i64 0, .int .i64 0] 23))
                    have hb := Lib.hid (hv6.out.below_box)
                    refine hK.out _ _ hv9.out.str (fun hHeld => ?_)
                    clear hK
                    (try simp only [Act.put]); (try simp only [List.setIfInBounds_toArray]); (try simp only [List.set_cons_succ]); (try simp only [List.set_cons_zero])
                    generalize v6.alloc (.cells #[.string ⟨#[]⟩, .string ⟨#[]⟩, .string ⟨#[]⟩, .string ⟨#[]⟩, .string ⟨#[]⟩, .int .u8 0, .int .i64 0, .int .i64 0, .int .i64 0, .int .i64 0, .int .i64 0, .int .i64 0, .int .i64 0] 23) = v9 at *
                    generalize v6.heap.size = b0 at *
                    refine wpAnyH_ready (rs := [15]) (by kernel_rfl) (by simp) ?_
                    refine AllReadyH.cons rfl (fun K hK => ?_) ?_
                    · rw [if_pos (by rfl)]
                      refine call_at (R := fun v V => v = .string (mkS (cutZ (sub l 157 100))) ∧ Below v9.heap.size v9 V) 43 rfl 10 #[.int .i64 157, .int .i64 100, .pointer (some ⟨w.heap.size, 0, none⟩)] (by kernel_rfl) ((refText_any l w.heap.size 157 100 (by omega) (by omega) _ hv9.out.str).mono (by rintro e V ⟨he, hb⟩; exact ⟨_, he, rfl, hb⟩)) ?_
                      rintro _ v10 ⟨rfl, h4⟩
                      have hv10 := Lib.hid (hv9.out.text h4)
                      have hqv10 := Lib.hid ((h4.block b0 (Array.getElem?_eq_some_iff.1 hqv9.out).1).trans hqv9.out)
                      refine hK.out _ _ hv10.out.str (fun hHeld => ?_)
                      clear hK h4
                      (try simp only [Act.put]); (try simp only [List.setIfInBounds_toArray]); (try simp only [List.set_cons_succ]); (try simp only [List.set_cons_zero])
                      refine take_to (i := 16) 44 (.agg #[.string (mkS (cutZ (sub l 0 100))), .string (mkS (cutZ (sub l 157 100))), .string ⟨#[]⟩, .string ⟨#[]⟩, .string ⟨#[]⟩, .int .u8 (c.toNat : Int), .int .i64 (numAt l 100 8).1, .int .i64 (numAt l 108 8).1, .int .i64 (numAt l 116 8).1, .int .i64 (numAt l 124 12).1, .int .i64 (numAt l 136 12).1, .int .i64 0, .int .i64 0]) rfl rfl (by kernel_rfl) (by kernel_rfl) (by kernel_rfl) (fun _ _ _ h => h) (Or.inl ⟨by rfl, fun _ _ => by kernel_rfl⟩) (by assumption) ?_
                      simp only [List.setIfInBounds_toArray, List.set_cons_succ, List.set_cons_zero]
                      refine wpAnyH_ready (rs := [18]) (by kernel_rfl) (by simp) ?_
                      refine AllReadyH.cons rfl (fun K hK => ?_) AllReadyH.nil
                      rw [if_pos (by rfl)]
                      refine store_row_no rfl _ _ _ rfl b0 #[.string (mkS (cutZ (sub l 0 100))), .string (mkS (cutZ (sub l 157 100))), .string ⟨#[]⟩, .string ⟨#[]⟩, .string ⟨#[]⟩, .int .u8 (c.toNat : Int), .int .i64 (numAt l 100 8).1, .int .i64 (numAt l 108 8).1, .int .i64 (numAt l 116 8).1, .int .i64 (numAt l 124 12).1, .int .i64 (numAt l 136 12).1, .int .i64 0, .int .i64 0] rfl rfl _ _ hqv10.out infoRef rfl (by kernel_rfl) ?_
                      have h9 := Lib.hid (hv10.out.set hb.out #[.string (mkS (cutZ (sub l 0 100))), .string (mkS (cutZ (sub l 157 100))), .string ⟨#[]⟩, .string ⟨#[]⟩, .string ⟨#[]⟩, .int .u8 (c.toNat : Int), .int .i64 (numAt l 100 8).1, .int .i64 (numAt l 108 8).1, .int .i64 (numAt l 116 8).1, .int .i64 (numAt l 124 12).1, .int .i64 (numAt l 136 12).1, .int .i64 0, .int .i64 0])
                      have hq9 := Lib.hid (setRow_heap v10 _ _ #[.string (mkS (cutZ (sub l 0 100))), .string (mkS (cutZ (sub l 157 100))), .string ⟨#[]⟩, .string ⟨#[]⟩, .string ⟨#[]⟩, .int .u8 (c.toNat : Int), .int .i64 (numAt l 100 8).1, .int .i64 (numAt l 108 8).1, .int .i64 (numAt l 116 8).1, .int .i64 (numAt l 124 12).1, .int .i64 (numAt l 136 12).1, .int .i64 0, .int .i64 0] _ _ hqv10.out)
                      refine hK.out _ _ h9.out.str (fun hHeld => ?_)
                      clear hK
                      (try simp only [Act.put]); (try simp only [List.setIfInBounds_toArray]); (try simp only [List.set_cons_succ]); (try simp only [List.set_cons_zero])
                      refine wpAnyH_done (by kernel_rfl) ?_ _
                      go_wp2_with fail
                      go_meet
                      exact ⟨b0, rfl, hb.out, h9.out, hq9.out⟩
                    exact AllReadyH.nil
                  exact AllReadyH.nil
                refine AllReadyH.cons rfl (fun K hK => ?_) ?_
                · rw [if_pos (by rfl)]
                  refine alloc_row_to 9 rfl _ rfl _ (zeroRef _) ?_
                  have hv11 := Lib.hid (hv5.out.alloc (.cells #[.string ⟨#[]⟩, .string ⟨#[]⟩, .string ⟨#[]⟩, .string ⟨#[]⟩, .string ⟨#[]⟩, .int .u8 0, .int .i64 0, .int .i64 0, .int .i64 0, .int .i64 0, .int .i64 0, .int .i64 0, .int .i64 0] 23))
                  have hqv11 := Lib.hid (heap_alloc_new v5 (.cells #[.string ⟨#[]⟩, .string ⟨#[]⟩, .string ⟨#[]⟩, .string ⟨#[]⟩, .string ⟨#[]⟩, .int .u8 0, .int .i64 0, .int .i64 0, .int .i64 0, .int .i64 0, .int .i64 0, .int .i64 0, .int .i64 0] 23))
                  have hb := Lib.hid (hv5.out.below_box)
                  refine hK.out _ _ hv11.out.str (fun hHeld => ?_)
                  clear hK
                  (try simp only [Act.put]); (try simp only [List.setIfInBounds_toArray]); (try simp only [List.set_cons_succ]); (try simp only [List.set_cons_zero])
                  generalize v5.alloc (.cells #[.string ⟨#[]⟩, .string ⟨#[]⟩, .string ⟨#[]⟩, .string ⟨#[]⟩, .string ⟨#[]⟩, .int .u8 0, .int .i64 0, .int .i64 0, .int .i64 0, .int .i64 0, .int .i64 0, .int .i64 0, .int .i64 0] 23) = v11 at *
                  generalize v5.heap.size = b0 at *
                  refine wpAnyH_ready (rs := [11]) (by kernel_rfl) (by simp) ?_
                  refine AllReadyH.cons rfl (fun K hK => ?_) ?_
                  · rw [if_pos (by rfl)]
                    refine call_at (R := fun v V => v = .int .i64 (numAt l 136 12).1 ∧ V.heap[cB]? = some (.cells #[.bool (((((false || !((numAt l 100 8).2 == 0)) || !((numAt l 108 8).2 == 0)) || !((numAt l 116 8).2 == 0)) || !((numAt l 124 12).2 == 0)) || !((numAt l 136 12).2 == 0))] 4 (0, 0)) ∧ But v11.heap.size cB v11 V) 39 rfl 12 #[.int .i64 136, .int .i64 12, .pointer (some ⟨w.heap.size, 0, none⟩), .pointer (some ⟨cB, 0, none⟩)] (by kernel_rfl) ((refNum_any l w.heap.size cB 136 12 ((((false || !((numAt l 100 8).2 == 0)) || !((numAt l 108 8).2 == 0)) || !((numAt l 116 8).2 == 0)) || !((numAt l 124 12).2 == 0)) (by omega) (by omega) _ hv11.out.str hv11.out.box).mono (by rintro e V ⟨he, hx, hb⟩; exact ⟨_, he, rfl, hx, hb⟩)) ?_
                    rintro _ v12 ⟨rfl, hx4, h4⟩
                    have hv12 := Lib.hid (hv11.out.num h4 hx4)
                    have hqv12 := Lib.hid ((h4.block b0 (Array.getElem?_eq_some_iff.1 hqv11.out).1 (Nat.ne_of_gt hb.out)).trans hqv11.out)
                    refine hK.out _ _ hv12.out.str (fun hHeld => ?_)
                    clear hK h4
                    (try simp only [Act.put]); (try simp only [List.setIfInBounds_toArray]); (try simp only [List.set_cons_succ]); (try simp only [List.set_cons_zero])
                    refine wpAnyH_ready (rs := [15]) (by kernel_rfl) (by simp) ?_
                    refine AllReadyH.cons rfl (fun K hK => ?_) ?_
                    · rw [if_pos (by rfl)]
                      refine call_at (R := fun v V => v = .string (mkS (cutZ (sub l 157 100))) ∧ Below v12.heap.size v12 V) 43 rfl 10 #[.int .i64 157, .int .i64 100, .pointer (some ⟨w.heap.size, 0, none⟩)] (by kernel_rfl) ((refText_any l w.heap.size 157 100 (by omega) (by omega) _ hv12.out.str).mono (by rintro e V ⟨he, hb⟩; exact ⟨_, he, rfl, hb⟩)) ?_
                      rintro _ v13 ⟨rfl, h4⟩
                      have hv13 := Lib.hid (hv12.out.text h4)
                      have hqv13 := Lib.hid ((h4.block b0 (Array.getElem?_eq_some_iff.1 hqv12.out).1).trans hqv12.out)
                      refine hK.out _ _ hv13.out.str (fun hHeld => ?_)
                      clear hK h4
                      (try simp only [Act.put]); (try simp only [List.setIfInBounds_toArray]); (try simp only [List.set_cons_succ]); (try simp only [List.set_cons_zero])
                      refine take_to (i := 16) 44 (.agg #[.string (mkS (cutZ (sub l 0 100))), .string (mkS (cutZ (sub l 157 100))), .string ⟨#[]⟩, .string ⟨#[]⟩, .string ⟨#[]⟩, .int .u8 (c.toNat : Int), .int .i64 (numAt l 100 8).1, .int .i64 (numAt l 108 8).1, .int .i64 (numAt l 116 8).1, .int .i64 (numAt l 124 12).1, .int .i64 (numAt l 136 12).1, .int .i64 0, .int .i64 0]) rfl rfl (by kernel_rfl) (by kernel_rfl) (by kernel_rfl) (fun _ _ _ h => h) (Or.inl ⟨by rfl, fun _ _ => by kernel_rfl⟩) (by assumption) ?_
                      simp only [List.setIfInBounds_toArray, List.set_cons_succ, List.set_cons_zero]
                      refine wpAnyH_ready (rs := [18]) (by kernel_rfl) (by simp) ?_
                      refine AllReadyH.cons rfl (fun K hK => ?_) AllReadyH.nil
                      rw [if_pos (by rfl)]
                      refine store_row_no rfl _ _ _ rfl b0 #[.string (mkS (cutZ (sub l 0 100))), .string (mkS (cutZ (sub l 157 100))), .string ⟨#[]⟩, .string ⟨#[]⟩, .string ⟨#[]⟩, .int .u8 (c.toNat : Int), .int .i64 (numAt l 100 8).1, .int .i64 (numAt l 108 8).1, .int .i64 (numAt l 116 8).1, .int .i64 (numAt l 124 12).1, .int .i64 (numAt l 136 12).1, .int .i64 0, .int .i64 0] rfl rfl _ _ hqv13.out infoRef rfl (by kernel_rfl) ?_
                      have h9 := Lib.hid (hv13.out.set hb.out #[.string (mkS (cutZ (sub l 0 100))), .string (mkS (cutZ (sub l 157 100))), .string ⟨#[]⟩, .string ⟨#[]⟩, .string ⟨#[]⟩, .int .u8 (c.toNat : Int), .int .i64 (numAt l 100 8).1, .int .i64 (numAt l 108 8).1, .int .i64 (numAt l 116 8).1, .int .i64 (numAt l 124 12).1, .int .i64 (numAt l 136 12).1, .int .i64 0, .int .i64 0])
                      have hq9 := Lib.hid (setRow_heap v13 _ _ #[.string (mkS (cutZ (sub l 0 100))), .string (mkS (cutZ (sub l 157 100))), .string ⟨#[]⟩, .string ⟨#[]⟩, .string ⟨#[]⟩, .int .u8 (c.toNat : Int), .int .i64 (numAt l 100 8).1, .int .i64 (numAt l 108 8).1, .int .i64 (numAt l 116 8).1, .int .i64 (numAt l 124 12).1, .int .i64 (numAt l 136 12).1, .int .i64 0, .int .i64 0] _ _ hqv13.out)
                      refine hK.out _ _ h9.out.str (fun hHeld => ?_)
                      clear hK
                      (try simp only [Act.put]); (try simp only [List.setIfInBounds_toArray]); (try simp only [List.set_cons_succ]); (try simp only [List.set_cons_zero])
                      refine wpAnyH_done (by kernel_rfl) ?_ _
                      go_wp2_with fail
                      go_meet
                      exact ⟨b0, rfl, hb.out, h9.out, hq9.out⟩
                    exact AllReadyH.nil
                  exact AllReadyH.nil
                exact AllReadyH.nil
              refine AllReadyH.cons rfl (fun K hK => ?_) ?_
              · rw [if_pos (by rfl)]
                refine alloc_row_to 9 rfl _ rfl _ (zeroRef _) ?_
                have hv14 := Lib.hid (hv4.out.alloc (.cells #[.string ⟨#[]⟩, .string ⟨#[]⟩, .string ⟨#[]⟩, .string ⟨#[]⟩, .string ⟨#[]⟩, .int .u8 0, .int .i64 0, .int .i64 0, .int .i64 0, .int .i64 0, .int .i64 0, .int .i64 0, .int .i64 0] 23))
                have hqv14 := Lib.hid (heap_alloc_new v4 (.cells #[.string ⟨#[]⟩, .string ⟨#[]⟩, .string ⟨#[]⟩, .string ⟨#[]⟩, .string ⟨#[]⟩, .int .u8 0, .int .i64 0, .int .i64 0, .int .i64 0, .int .i64 0, .int .i64 0, .int .i64 0, .int .i64 0] 23))
                have hb := Lib.hid (hv4.out.below_box)
                refine hK.out _ _ hv14.out.str (fun hHeld => ?_)
                clear hK
                (try simp only [Act.put]); (try simp only [List.setIfInBounds_toArray]); (try simp only [List.set_cons_succ]); (try simp only [List.set_cons_zero])
                generalize v4.alloc (.cells #[.string ⟨#[]⟩, .string ⟨#[]⟩, .string ⟨#[]⟩, .string ⟨#[]⟩, .string ⟨#[]⟩, .int .u8 0, .int .i64 0, .int .i64 0, .int .i64 0, .int .i64 0, .int .i64 0, .int .i64 0, .int .i64 0] 23) = v14 at *
                generalize v4.heap.size = b0 at *
                refine wpAnyH_ready (rs := [9]) (by kernel_rfl) (by simp) ?_
                refine AllReadyH.cons rfl (fun K hK => ?_) ?_
                · rw [if_pos (by rfl)]
                  refine call_at (R := fun v V => v = .int .i64 (numAt l 124 12).1 ∧ V.heap[cB]? = some (.cells #[.bool ((((false || !((numAt l 100 8).2 == 0)) || !((numAt l 108 8).2 == 0)) || !((numAt l 116 8).2 == 0)) || !((numAt l 124 12).2 == 0))] 4 (0, 0)) ∧ But v14.heap.size cB v14 V) 37 rfl 12 #[.int .i64 124, .int .i64 12, .pointer (some ⟨w.heap.size, 0, none⟩), .pointer (some ⟨cB, 0, none⟩)] (by kernel_rfl) ((refNum_any l w.heap.size cB 124 12 (((false || !((numAt l 100 8).2 == 0)) || !((numAt l 108 8).2 == 0)) || !((numAt l 116 8).2 == 0)) (by omega) (by omega) _ hv14.out.str hv14.out.box).mono (by rintro e V ⟨he, hx, hb⟩; exact ⟨_, he, rfl, hx, hb⟩)) ?_
                  rintro _ v15 ⟨rfl, hx4, h4⟩
                  have hv15 := Lib.hid (hv14.out.num h4 hx4)
                  have hqv15 := Lib.hid ((h4.block b0 (Array.getElem?_eq_some_iff.1 hqv14.out).1 (Nat.ne_of_gt hb.out)).trans hqv14.out)
                  refine hK.out _ _ hv15.out.str (fun hHeld => ?_)
                  clear hK h4
                  (try simp only [Act.put]); (try simp only [List.setIfInBounds_toArray]); (try simp only [List.set_cons_succ]); (try simp only [List.set_cons_zero])
                  refine wpAnyH_ready (rs := [11]) (by kernel_rfl) (by simp) ?_
                  refine AllReadyH.cons rfl (fun K hK => ?_) ?_
                  · rw [if_pos (by rfl)]
                    refine call_at (R := fun v V => v = .int .i64 (numAt l 136 12).1 ∧ V.heap[cB]? = some (.cells #[.bool (((((false || !((numAt l 100 8).2 == 0)) || !((numAt l 108 8).2 == 0)) || !((numAt l 116 8).2 == 0)) || !((numAt l 124 12).2 == 0)) || !((numAt l 136 12).2 == 0))] 4 (0, 0)) ∧ But v15.heap.size cB v15 V) 39 rfl 12 #[.int .i64 136, .int .i64 12, .pointer (some ⟨w.heap.size, 0, none⟩), .pointer (some ⟨cB, 0, none⟩)] (by kernel_rfl) ((refNum_any l w.heap.size cB 136 12 ((((false || !((numAt l 100 8).2 == 0)) || !((numAt l 108 8).2 == 0)) || !((numAt l 116 8).2 == 0)) || !((numAt l 124 12).2 == 0)) (by omega) (by omega) _ hv15.out.str hv15.out.box).mono (by rintro e V ⟨he, hx, hb⟩; exact ⟨_, he, rfl, hx, hb⟩)) ?_
                    rintro _ v16 ⟨rfl, hx4, h4⟩
                    have hv16 := Lib.hid (hv15.out.num h4 hx4)
                    have hqv16 := Lib.hid ((h4.block b0 (Array.getElem?_eq_some_iff.1 hqv15.out).1 (Nat.ne_of_gt hb.out)).trans hqv15.out)
                    refine hK.out _ _ hv16.out.str (fun hHeld => ?_)
                    clear hK h4
                    (try simp only [Act.put]); (try simp only [List.setIfInBounds_toArray]); (try simp only [List.set_cons_succ]); (try simp only [List.set_cons_zero])
                    refine wpAnyH_ready (rs := [15]) (by kernel_rfl) (by simp) ?_
                    refine AllReadyH.cons rfl (fun K hK => ?_) ?_
                    · rw [if_pos (by rfl)]
                      refine call_at (R := fun v V => v = .string (mkS (cutZ (sub l 157 100))) ∧ Below v16.heap.size v16 V) 43 rfl 10 #[.int .i64 157, .int .i64 100, .pointer (some ⟨w.heap.size, 0, none⟩)] (by kernel_rfl) ((refText_any l w.heap.size 157 100 (by omega) (by omega) _ hv16.out.str).mono (by rintro e V ⟨he, hb⟩; exact ⟨_, he, rfl, hb⟩)) ?_
                      rintro _ v17 ⟨rfl, h4⟩
                      have hv17 := Lib.hid (hv16.out.text h4)
                      have hqv17 := Lib.hid ((h4.block b0 (Array.getElem?_eq_some_iff.1 hqv16.out).1).trans hqv16.out)
                      refine hK.out _ _ hv17.out.str (fun hHeld => ?_)
                      clear hK h4
                      (try simp only [Act.put]); (try simp only [List.setIfInBounds_toArray]); (try simp only [List.set_cons_succ]); (try simp only [List.set_cons_zero])
                      refine take_to (i := 16) 44 (.agg #[.string (mkS (cutZ (sub l 0 100))), .string (mkS (cutZ (sub l 157 100))), .string ⟨#[]⟩, .string ⟨#[]⟩, .string ⟨#[]⟩, .int .u8 (c.toNat : Int), .int .i64 (numAt l 100 8).1, .int .i64 (numAt l 108 8).1, .int .i64 (numAt l 116 8).1, .int .i64 (numAt l 124 12).1, .int .i64 (numAt l 136 12).1, .int .i64 0, .int .i64 0]) rfl rfl (by kernel_rfl) (by kernel_rfl) (by kernel_rfl) (fun _ _ _ h => h) (Or.inl ⟨by rfl, fun _ _ => by kernel_rfl⟩) (by assumption) ?_
                      simp only [List.setIfInBounds_toArray, List.set_cons_succ, List.set_cons_zero]
                      refine wpAnyH_ready (rs := [18]) (by kernel_rfl) (by simp) ?_
                      refine AllReadyH.cons rfl (fun K hK => ?_) AllReadyH.nil
                      rw [if_pos (by rfl)]
                      refine store_row_no rfl _ _ _ rfl b0 #[.string (mkS (cutZ (sub l 0 100))), .string (mkS (cutZ (sub l 157 100))), .string ⟨#[]⟩, .string ⟨#[]⟩, .string ⟨#[]⟩, .int .u8 (c.toNat : Int), .int .i64 (numAt l 100 8).1, .int .i64 (numAt l 108 8).1, .int .i64 (numAt l 116 8).1, .int .i64 (numAt l 124 12).1, .int .i64 (numAt l 136 12).1, .int .i64 0, .int .i64 0] rfl rfl _ _ hqv17.out infoRef rfl (by kernel_rfl) ?_
                      have h9 := Lib.hid (hv17.out.set hb.out #[.string (mkS (cutZ (sub l 0 100))), .string (mkS (cutZ (sub l 157 100))), .string ⟨#[]⟩, .string ⟨#[]⟩, .string ⟨#[]⟩, .int .u8 (c.toNat : Int), .int .i64 (numAt l 100 8).1, .int .i64 (numAt l 108 8).1, .int .i64 (numAt l 116 8).1, .int .i64 (numAt l 124 12).1, .int .i64 (numAt l 136 12).1, .int .i64 0, .int .i64 0])
                      have hq9 := Lib.hid (setRow_heap v17 _ _ #[.string (mkS (cutZ (sub l 0 100))), .string (mkS (cutZ (sub l 157 100))), .string ⟨#[]⟩, .string ⟨#[]⟩, .string ⟨#[]⟩, .int .u8 (c.toNat : Int), .int .i64 (numAt l 100 8).1, .int .i64 (numAt l 108 8).1, .int .i64 (numAt l 116 8).1, .int .i64 (numAt l 124 12).1, .int .i64 (numAt l 136 12).1, .int .i64 0, .int .i64 0] _ _ hqv17.out)
                      refine hK.out _ _ h9.out.str (fun hHeld => ?_)
                      clear hK
                      (try simp only [Act.put]); (try simp only [List.setIfInBounds_toArray]); (try simp only [List.set_cons_succ]); (try simp only [List.set_cons_zero])
                      refine wpAnyH_done (by kernel_rfl) ?_ _
                      go_wp2_with fail
                      go_meet
                      exact ⟨b0, rfl, hb.out, h9.out, hq9.out⟩
                    exact AllReadyH.nil
                  exact AllReadyH.nil
                exact AllReadyH.nil
              exact AllReadyH.nil
            refine AllReadyH.cons rfl (fun K hK => ?_) ?_
            · rw [if_pos (by rfl)]
              refine alloc_row_to 9 rfl _ rfl _ (zeroRef _) ?_
              have hv18 := Lib.hid (hv3.out.alloc (.cells #[.string ⟨#[]⟩, .string ⟨#[]⟩, .string ⟨#[]⟩, .string ⟨#[]⟩, .string ⟨#[]⟩, .int .u8 0, .int .i64 0, .int .i64 0, .int .i64 0, .int .i64 0, .int .i64 0, .int .i64 0, .int .i64 0] 23))
              have hqv18 := Lib.hid (heap_alloc_new v3 (.cells #[.string ⟨#[]⟩, .string ⟨#[]⟩, .string ⟨#[]⟩, .string ⟨#[]⟩, .string ⟨#[]⟩, .int .u8 0, .int .i64 0, .int .i64 0, .int .i64 0, .int .i64 0, .int .i64 0, .int .i64 0, .int .i64 0] 23))
              have hb := Lib.hid (hv3.out.below_box)
              refine hK.out _ _ hv18.out.str (fun hHeld => ?_)
              clear hK
              (try simp only [Act.put]); (try simp only [List.setIfInBounds_toArray]); (try simp only [List.set_cons_succ]); (try simp only [List.set_cons_zero])
              generalize v3.alloc (.cells #[.string ⟨#[]⟩, .string ⟨#[]⟩, .string ⟨#[]⟩, .string ⟨#[]⟩, .string ⟨#[]⟩, .int .u8 0, .int .i64 0, .int .i64 0, .int .i64 0, .int .i64 0, .int .i64 0, .int .i64 0, .int .i64 0] 23) = v18 at *
              generalize v3.heap.size = b0 at *
              refine wpAnyH_ready (rs := [7]) (by kernel_rfl) (by simp) ?_
              refine AllReadyH.cons rfl (fun K hK => ?_) ?_
              · rw [if_pos (by rfl)]
                refine call_at (R := fun v V => v = .int .i64 (numAt l 116 8).1 ∧ V.heap[cB]? = some (.cells #[.bool (((false || !((numAt l 100 8).2 == 0)) || !((numAt l 108 8).2 == 0)) || !((numAt l 116 8).2 == 0))] 4 (0, 0)) ∧ But v18.heap.size cB v18 V) 35 rfl 12 #[.int .i64 116, .int .i64 8, .pointer (some ⟨w.heap.size, 0, none⟩), .pointer (some ⟨cB, 0, none⟩)] (by kernel_rfl) ((refNum_any l w.heap.size cB 116 8 ((false || !((numAt l 100 8).2 == 0)) || !((numAt l 108 8).2 == 0)) (by omega) (by omega) _ hv18.out.str hv18.out.box).mono (by rintro e V ⟨he, hx, hb⟩; exact ⟨_, he, rfl, hx, hb⟩)) ?_
                rintro _ v19 ⟨rfl, hx4, h4⟩
                have hv19 := Lib.hid (hv18.out.num h4 hx4)
                have hqv19 := Lib.hid ((h4.block b0 (Array.getElem?_eq_some_iff.1 hqv18.out).1 (Nat.ne_of_gt hb.out)).trans hqv18.out)
                refine hK.out _ _ hv19.out.str (fun hHeld => ?_)
                clear hK h4
                (try simp only [Act.put]); (try simp only [List.setIfInBounds_toArray]); (try simp only [List.set_cons_succ]); (try simp only [List.set_cons_zero])
                refine wpAnyH_ready (rs := [9]) (by kernel_rfl) (by simp) ?_
                refine AllReadyH.cons rfl (fun K hK => ?_) ?_
                · rw [if_pos (by rfl)]
                  refine call_at (R := fun v V => v = .int .i64 (numAt l 124 12).1 ∧ V.heap[cB]? = some (.cells #[.bool ((((false || !((numAt l 100 8).2 == 0)) || !((numAt l 108 8).2 == 0)) || !((numAt l 116 8).2 == 0)) || !((numAt l 124 12).2 == 0))] 4 (0, 0)) ∧ But v19.heap.size cB v19 V) 37 rfl 12 #[.int .i64 124, .int .i64 12, .pointer (some ⟨w.heap.size, 0, none⟩), .pointer (some ⟨cB, 0, none⟩)] (by kernel_rfl) ((refNum_any l w.heap.size cB 124 12 (((false || !((numAt l 100 8).2 == 0)) || !((numAt l 108 8).2 == 0)) || !((numAt l 116 8).2 == 0)) (by omega) (by omega) _ hv19.out.str hv19.out.box).mono (by rintro e V ⟨he, hx, hb⟩; exact ⟨_, he, rfl, hx, hb⟩)) ?_
                  rintro _ v20 ⟨rfl, hx4, h4⟩
                  have hv20 := Lib.hid (hv19.out.num h4 hx4)
                  have hqv20 := Lib.hid ((h4.block b0 (Array.getElem?_eq_some_iff.1 hqv19.out).1 (Nat.ne_of_gt hb.out)).trans hqv19.out)
                  refine hK.out _ _ hv20.out.str (fun hHeld => ?_)
                  clear hK h4
                  (try simp only [Act.put]); (try simp only [List.setIfInBounds_toArray]); (try simp only [List.set_cons_succ]); (try simp only [List.set_cons_zero])
                  refine wpAnyH_ready (rs := [11]) (by kernel_rfl) (by simp) ?_
                  refine AllReadyH.cons rfl (fun K hK => ?_) ?_
                  · rw [if_pos (by rfl)]
                    refine call_at (R := fun v V => v = .int .i64 (numAt l 136 12).1 ∧ V.heap[cB]? = some (.cells #[.bool (((((false || !((numAt l 100 8).2 == 0)) || !((numAt l 108 8).2 == 0)) || !((numAt l 116 8).2 == 0)) || !((numAt l 124 12).2 == 0)) || !((numAt l 136 12).2 == 0))] 4 (0, 0)) ∧ But v20.heap.size cB v20 V) 39 rfl 12 #[.int .i64 136, .int .i64 12, .pointer (some ⟨w.heap.size, 0, none⟩), .pointer (some ⟨cB, 0, none⟩)] (by kernel_rfl) ((refNum_any l w.heap.size cB 136 12 ((((false || !((numAt l 100 8).2 == 0)) || !((numAt l 108 8).2 == 0)) || !((numAt l 116 8).2 == 0)) || !((numAt l 124 12).2 == 0)) (by omega) (by omega) _ hv20.out.str hv20.out.box).mono (by rintro e V ⟨he, hx, hb⟩; exact ⟨_, he, rfl, hx, hb⟩)) ?_
                    rintro _ v21 ⟨rfl, hx4, h4⟩
                    have hv21 := Lib.hid (hv20.out.num h4 hx4)
                    have hqv21 := Lib.hid ((h4.block b0 (Array.getElem?_eq_some_iff.1 hqv20.out).1 (Nat.ne_of_gt hb.out)).trans hqv20.out)
                    refine hK.out _ _ hv21.out.str (fun hHeld => ?_)
                    clear hK h4
                    (try simp only [Act.put]); (try simp only [List.setIfInBounds_toArray]); (try simp only [List.set_cons_succ]); (try simp only [List.set_cons_zero])
                    refine wpAnyH_ready (rs := [15]) (by kernel_rfl) (by simp) ?_
                    refine AllReadyH.cons rfl (fun K hK => ?_) ?_
                    · rw [if_pos (by rfl)]
                      refine call_at (R := fun v V => v = .string (mkS (cutZ (sub l 157 100))) ∧ Below v21.heap.size v21 V) 43 rfl 10 #[.int .i64 157, .int .i64 100, .pointer (some ⟨w.heap.size, 0, none⟩)] (by kernel_rfl) ((refText_any l w.heap.size 157 100 (by omega) (by omega) _ hv21.out.str).mono (by rintro e V ⟨he, hb⟩; exact ⟨_, he, rfl, hb⟩)) ?_
                      rintro _ v22 ⟨rfl, h4⟩
                      have hv22 := Lib.hid (hv21.out.text h4)
                      have hqv22 := Lib.hid ((h4.block b0 (Array.getElem?_eq_some_iff.1 hqv21.out).1).trans hqv21.out)
                      refine hK.out _ _ hv22.out.str (fun hHeld => ?_)
                      clear hK h4
                      (try simp only [Act.put]); (try simp only [List.setIfInBounds_toArray]); (try simp only [List.set_cons_succ]); (try simp only [List.set_cons_zero])
                      refine take_to (i := 16) 44 (.agg #[.string (mkS (cutZ (sub l 0 100))), .string (mkS (cutZ (sub l 157 100))), .string ⟨#[]⟩, .string ⟨#[]⟩, .string ⟨#[]⟩, .int .u8 (c.toNat : Int), .int .i64 (numAt l 100 8).1, .int .i64 (numAt l 108 8).1, .int .i64 (numAt l 116 8).1, .int .i64 (numAt l 124 12).1, .int .i64 (numAt l 136 12).1, .int .i64 0, .int .i64 0]) rfl rfl (by kernel_rfl) (by kernel_rfl) (by kernel_rfl) (fun _ _ _ h => h) (Or.inl ⟨by rfl, fun _ _ => by kernel_rfl⟩) (by assumption) ?_
                      simp only [List.setIfInBounds_toArray, List.set_cons_succ, List.set_cons_zero]
                      refine wpAnyH_ready (rs := [18]) (by kernel_rfl) (by simp) ?_
                      refine AllReadyH.cons rfl (fun K hK => ?_) AllReadyH.nil
                      rw [if_pos (by rfl)]
                      refine store_row_no rfl _ _ _ rfl b0 #[.string (mkS (cutZ (sub l 0 100))), .string (mkS (cutZ (sub l 157 100))), .string ⟨#[]⟩, .string ⟨#[]⟩, .string ⟨#[]⟩, .int .u8 (c.toNat : Int), .int .i64 (numAt l 100 8).1, .int .i64 (numAt l 108 8).1, .int .i64 (numAt l 116 8).1, .int .i64 (numAt l 124 12).1, .int .i64 (numAt l 136 12).1, .int .i64 0, .int .i64 0] rfl rfl _ _ hqv22.out infoRef rfl (by kernel_rfl) ?_
                      have h9 := Lib.hid (hv22.out.set hb.out #[.string (mkS (cutZ (sub l 0 100))), .string (mkS (cutZ (sub l 157 100))), .string ⟨#[]⟩, .string ⟨#[]⟩, .string ⟨#[]⟩, .int .u8 (c.toNat : Int), .int .i64 (numAt l 100 8).1, .int .i64 (numAt l 108 8).1, .int .i64 (numAt l 116 8).1, .int .i64 (numAt l 124 12).1, .int .i64 (numAt l 136 12).1, .int .i64 0, .int .i64 0])
                      have hq9 := Lib.hid (setRow_heap v22 _ _ #[.string (mkS (cutZ (sub l 0 100))), .string (mkS (cutZ (sub l 157 100))), .string ⟨#[]⟩, .string ⟨#[]⟩, .string ⟨#[]⟩, .int .u8 (c.toNat : Int), .int .i64 (numAt l 100 8).1, .int .i64 (numAt l 108 8).1, .int .i64 (numAt l 116 8).1, .int .i64 (numAt l 124 12).1, .int .i64 (numAt l 136 12).1, .int .i64 0, .int .i64 0] _ _ hqv22.out)
                      refine hK.out _ _ h9.out.str (fun hHeld => ?_)
                      clear hK
                      (try simp only [Act.put]); (try simp only [List.setIfInBounds_toArray]); (try simp only [List.set_cons_succ]); (try simp only [List.set_cons_zero])
                      refine wpAnyH_done (by kernel_rfl) ?_ _
                      go_wp2_with fail
                      go_meet
                      exact ⟨b0, rfl, hb.out, h9.out, hq9.out⟩
                    exact AllReadyH.nil
                  exact AllReadyH.nil
                exact AllReadyH.nil
              exact AllReadyH.nil
            exact AllReadyH.nil
          refine AllReadyH.cons rfl (fun K hK => ?_) ?_
          · rw [if_pos (by rfl)]
            refine alloc_row_to 9 rfl _ rfl _ (zeroRef _) ?_
            have hv23 := Lib.hid (hv2.out.alloc (.cells #[.string ⟨#[]⟩, .string ⟨#[]⟩, .string ⟨#[]⟩, .string ⟨#[]⟩, .string ⟨#[]⟩, .int .u8 0, .int .i64 0, .int .i64 0, .int .i64 0, .int .i64 0, .int .i64 0, .int .i64 0, .int .i64 0] 23))
            have hqv23 := Lib.hid (heap_alloc_new v2 (.cells #[.string ⟨#[]⟩, .string ⟨#[]⟩, .string ⟨#[]⟩, .string ⟨#[]⟩, .string ⟨#[]⟩, .int .u8 0, .int .i64 0, .int .i64 0, .int .i64 0, .int .i64 0, .int .i64 0, .int .i64 0, .int .i64 0] 23))
            have hb := Lib.hid (hv2.out.below_box)
            refine hK.out _ _ hv23.out.str (fun hHeld => ?_)
            clear hK
            (try simp only [Act.put]); (try simp only [List.setIfInBounds_toArray]); (try simp only [List.set_cons_succ]); (try simp only [List.set_cons_zero])
            generalize v2.alloc (.cells #[.string ⟨#[]⟩, .string ⟨#[]⟩, .string ⟨#[]⟩, .string ⟨#[]⟩, .string ⟨#[]⟩, .int .u8 0, .int .i64 0, .int .i64 0, .int .i64 0, .int .i64 0, .int .i64 0, .int .i64 0, .int .i64 0] 23) = v23 at *
            generalize v2.heap.size = b0 at *
            refine wpAnyH_ready (rs := [5]) (by kernel_rfl) (by simp) ?_
            refine AllReadyH.cons rfl (fun K hK => ?_) ?_
            · rw [if_pos (by rfl)]
              refine call_at (R := fun v V => v = .int .i64 (numAt l 108 8).1 ∧ V.heap[cB]? = some (.cells #[.bool ((false || !((numAt l 100 8).2 == 0)) || !((numAt l 108 8).2 == 0))] 4 (0, 0)) ∧ But v23.heap.size cB v23 V) 33 rfl 12 #[.int .i64 108, .int .i64 8, .pointer (some ⟨w.heap.size, 0, none⟩), .pointer (some ⟨cB, 0, none⟩)] (by kernel_rfl) ((refNum_any l w.heap.size cB 108 8 (false || !((numAt l 100 8).2 == 0)) (by omega) (by omega) _ hv23.out.str hv23.out.box).mono (by rintro e V ⟨he, hx, hb⟩; exact ⟨_, he, rfl, hx, hb⟩)) ?_
              rintro _ v24 ⟨rfl, hx4, h4⟩
              have hv24 := Lib.hid (hv23.out.num h4 hx4)
              have hqv24 := Lib.hid ((h4.block b0 (Array.getElem?_eq_some_iff.1 hqv23.out).1 (Nat.ne_of_gt hb.out)).trans hqv23.out)
              refine hK.out _ _ hv24.out.str (fun hHeld => ?_)
              clear hK h4
              (try simp only [Act.put]); (try simp only [List.setIfInBounds_toArray]); (try simp only [List.set_cons_succ]); (try simp only [List.set_cons_zero])
              refine wpAnyH_ready (rs := [7]) (by kernel_rfl) (by simp) ?_
              refine AllReadyH.cons rfl (fun K hK => ?_) ?_
              · rw [if_pos (by rfl)]
                refine call_at (R := fun v V => v = .int .i64 (numAt l 116 8).1 ∧ V.heap[cB]? = some (.cells #[.bool (((false || !((numAt l 100 8).2 == 0)) || !((numAt l 108 8).2 == 0)) || !((numAt l 116 8).2 == 0))] 4 (0, 0)) ∧ But v24.heap.size cB v24 V) 35 rfl 12 #[.int .i64 116, .int .i64 8, .pointer (some ⟨w.heap.size, 0, none⟩), .pointer (some ⟨cB, 0, none⟩)] (by kernel_rfl) ((refNum_any l w.heap.size cB 116 8 ((false || !((numAt l 100 8).2 == 0)) || !((numAt l 108 8).2 == 0)) (by omega) (by omega) _ hv24.out.str hv24.out.box).mono (by rintro e V ⟨he, hx, hb⟩; exact ⟨_, he, rfl, hx, hb⟩)) ?_
                rintro _ v25 ⟨rfl, hx4, h4⟩
                have hv25 := Lib.hid (hv24.out.num h4 hx4)
                have hqv25 := Lib.hid ((h4.block b0 (Array.getElem?_eq_some_iff.1 hqv24.out).1 (Nat.ne_of_gt hb.out)).trans hqv24.out)
                refine hK.out _ _ hv25.out.str (fun hHeld => ?_)
                clear hK h4
                (try simp only [Act.put]); (try simp only [List.setIfInBounds_toArray]); (try simp only [List.set_cons_succ]); (try simp only [List.set_cons_zero])
                refine wpAnyH_ready (rs := [9]) (by kernel_rfl) (by simp) ?_
                refine AllReadyH.cons rfl (fun K hK => ?_) ?_
                · rw [if_pos (by rfl)]
                  refine call_at (R := fun v V => v = .int .i64 (numAt l 124 12).1 ∧ V.heap[cB]? = some (.cells #[.bool ((((false || !((numAt l 100 8).2 == 0)) || !((numAt l 108 8).2 == 0)) || !((numAt l 116 8).2 == 0)) || !((numAt l 124 12).2 == 0))] 4 (0, 0)) ∧ But v25.heap.size cB v25 V) 37 rfl 12 #[.int .i64 124, .int .i64 12, .pointer (some ⟨w.heap.size, 0, none⟩), .pointer (some ⟨cB, 0, none⟩)] (by kernel_rfl) ((refNum_any l w.heap.size cB 124 12 (((false || !((numAt l 100 8).2 == 0)) || !((numAt l 108 8).2 == 0)) || !((numAt l 116 8).2 == 0)) (by omega) (by omega) _ hv25.out.str hv25.out.box).mono (by rintro e V ⟨he, hx, hb⟩; exact ⟨_, he, rfl, hx, hb⟩)) ?_
                  rintro _ v26 ⟨rfl, hx4, h4⟩
                  have hv26 := Lib.hid (hv25.out.num h4 hx4)
                  have hqv26 := Lib.hid ((h4.block b0 (Array.getElem?_eq_some_iff.1 hqv25.out).1 (Nat.ne_of_gt hb.out)).trans hqv25.out)
                  refine hK.out _ _ hv26.out.str (fun hHeld => ?_)
                  clear hK h4
                  (try simp only [Act.put]); (try simp only [List.setIfInBounds_toArray]); (try simp only [List.set_cons_succ]); (try simp only [List.set_cons_zero])
                  refine wpAnyH_ready (rs := [11]) (by kernel_rfl) (by simp) ?_
                  refine AllReadyH.cons rfl (fun K hK => ?_) ?_
                  · rw [if_pos (by rfl)]
                    refine call_at (R := fun v V => v = .int .i64 (numAt l 136 12).1 ∧ V.heap[cB]? = some (.cells #[.bool (((((false || !((numAt l 100 8).2 == 0)) || !((numAt l 108 8).2 == 0)) || !((numAt l 116 8).2 == 0)) || !((numAt l 124 12).2 == 0)) || !((numAt l 136 12).2 == 0))] 4 (0, 0)) ∧ But v26.heap.size cB v26 V) 39 rfl 12 #[.int .i64 136, .int .i64 12, .pointer (some ⟨w.heap.size, 0, none⟩), .pointer (some ⟨cB, 0, none⟩)] (by kernel_rfl) ((refNum_any l w.heap.size cB 136 12 ((((false || !((numAt l 100 8).2 == 0)) || !((numAt l 108 8).2 == 0)) || !((numAt l 116 8).2 == 0)) || !((numAt l 124 12).2 == 0)) (by omega) (by omega) _ hv26.out.str hv26.out.box).mono (by rintro e V ⟨he, hx, hb⟩; exact ⟨_, he, rfl, hx, hb⟩)) ?_
                    rintro _ v27 ⟨rfl, hx4, h4⟩
                    have hv27 := Lib.hid (hv26.out.num h4 hx4)
                    have hqv27 := Lib.hid ((h4.block b0 (Array.getElem?_eq_some_iff.1 hqv26.out).1 (Nat.ne_of_gt hb.out)).trans hqv26.out)
                    refine hK.out _ _ hv27.out.str (fun hHeld => ?_)
                    clear hK h4
                    (try simp only [Act.put]); (try simp only [List.setIfInBounds_toArray]); (try simp only [List.set_cons_succ]); (try simp only [List.set_cons_zero])
                    refine wpAnyH_ready (rs := [15]) (by kernel_rfl) (by simp) ?_
                    refine AllReadyH.cons rfl (fun K hK => ?_) ?_
                    · rw [if_pos (by rfl)]
                      refine call_at (R := fun v V => v = .string (mkS (cutZ (sub l 157 100))) ∧ Below v27.heap.size v27 V) 43 rfl 10 #[.int .i64 157, .int .i64 100, .pointer (some ⟨w.heap.size, 0, none⟩)] (by kernel_rfl) ((refText_any l w.heap.size 157 100 (by omega) (by omega) _ hv27.out.str).mono (by rintro e V ⟨he, hb⟩; exact ⟨_, he, rfl, hb⟩)) ?_
                      rintro _ v28 ⟨rfl, h4⟩
                      have hv28 := Lib.hid (hv27.out.text h4)
                      have hqv28 := Lib.hid ((h4.block b0 (Array.getElem?_eq_some_iff.1 hqv27.out).1).trans hqv27.out)
                      refine hK.out _ _ hv28.out.str (fun hHeld => ?_)
                      clear hK h4
                      (try simp only [Act.put]); (try simp only [List.setIfInBounds_toArray]); (try simp only [List.set_cons_succ]); (try simp only [List.set_cons_zero])
                      refine take_to (i := 16) 44 (.agg #[.string (mkS (cutZ (sub l 0 100))), .string (mkS (cutZ (sub l 157 100))), .string ⟨#[]⟩, .string ⟨#[]⟩, .string ⟨#[]⟩, .int .u8 (c.toNat : Int), .int .i64 (numAt l 100 8).1, .int .i64 (numAt l 108 8).1, .int .i64 (numAt l 116 8).1, .int .i64 (numAt l 124 12).1, .int .i64 (numAt l 136 12).1, .int .i64 0, .int .i64 0]) rfl rfl (by kernel_rfl) (by kernel_rfl) (by kernel_rfl) (fun _ _ _ h => h) (Or.inl ⟨by rfl, fun _ _ => by kernel_rfl⟩) (by assumption) ?_
                      simp only [List.setIfInBounds_toArray, List.set_cons_succ, List.set_cons_zero]
                      refine wpAnyH_ready (rs := [18]) (by kernel_rfl) (by simp) ?_
                      refine AllReadyH.cons rfl (fun K hK => ?_) AllReadyH.nil
                      rw [if_pos (by rfl)]
                      refine store_row_no rfl _ _ _ rfl b0 #[.string (mkS (cutZ (sub l 0 100))), .string (mkS (cutZ (sub l 157 100))), .string ⟨#[]⟩, .string ⟨#[]⟩, .string ⟨#[]⟩, .int .u8 (c.toNat : Int), .int .i64 (numAt l 100 8).1, .int .i64 (numAt l 108 8).1, .int .i64 (numAt l 116 8).1, .int .i64 (numAt l 124 12).1, .int .i64 (numAt l 136 12).1, .int .i64 0, .int .i64 0] rfl rfl _ _ hqv28.out infoRef rfl (by kernel_rfl) ?_
                      have h9 := Lib.hid (hv28.out.set hb.out #[.string (mkS (cutZ (sub l 0 100))), .string (mkS (cutZ (sub l 157 100))), .string ⟨#[]⟩, .string ⟨#[]⟩, .string ⟨#[]⟩, .int .u8 (c.toNat : Int), .int .i64 (numAt l 100 8).1, .int .i64 (numAt l 108 8).1, .int .i64 (numAt l 116 8).1, .int .i64 (numAt l 124 12).1, .int .i64 (numAt l 136 12).1, .int .i64 0, .int .i64 0])
                      have hq9 := Lib.hid (setRow_heap v28 _ _ #[.string (mkS (cutZ (sub l 0 100))), .string (mkS (cutZ (sub l 157 100))), .string ⟨#[]⟩, .string ⟨#[]⟩, .string ⟨#[]⟩, .int .u8 (c.toNat : Int), .int .i64 (numAt l 100 8).1, .int .i64 (numAt l 108 8).1, .int .i64 (numAt l 116 8).1, .int .i64 (numAt l 124 12).1, .int .i64 (numAt l 136 12).1, .int .i64 0, .int .i64 0] _ _ hqv28.out)
                      refine hK.out _ _ h9.out.str (fun hHeld => ?_)
                      clear hK
                      (try simp only [Act.put]); (try simp only [List.setIfInBounds_toArray]); (try simp only [List.set_cons_succ]); (try simp only [List.set_cons_zero])
                      refine wpAnyH_done (by kernel_rfl) ?_ _
                      go_wp2_with fail
                      go_meet
                      exact ⟨b0, rfl, hb.out, h9.out, hq9.out⟩
                    exact AllReadyH.nil
                  exact AllReadyH.nil
                exact AllReadyH.nil
              exact AllReadyH.nil
            exact AllReadyH.nil
          exact AllReadyH.nil
        refine AllReadyH.cons rfl (fun K hK => ?_) ?_
        · rw [if_pos (by rfl)]
          refine alloc_row_to 9 rfl _ rfl _ (zeroRef _) ?_
          have hv29 := Lib.hid (hv1.out.alloc (.cells #[.string ⟨#[]⟩, .string ⟨#[]⟩, .string ⟨#[]⟩, .string ⟨#[]⟩, .string ⟨#[]⟩, .int .u8 0, .int .i64 0, .int .i64 0, .int .i64 0, .int .i64 0, .int .i64 0, .int .i64 0, .int .i64 0] 23))
          have hqv29 := Lib.hid (heap_alloc_new v1 (.cells #[.string ⟨#[]⟩, .string ⟨#[]⟩, .string ⟨#[]⟩, .string ⟨#[]⟩, .string ⟨#[]⟩, .int .u8 0, .int .i64 0, .int .i64 0, .int .i64 0, .int .i64 0, .int .i64 0, .int .i64 0, .int .i64 0] 23))
          have hb := Lib.hid (hv1.out.below_box)
          refine hK.out _ _ hv29.out.str (fun hHeld => ?_)
          clear hK
          (try simp only [Act.put]); (try simp only [List.setIfInBounds_toArray]); (try simp only [List.set_cons_succ]); (try simp only [List.set_cons_zero])
          generalize v1.alloc (.cells #[.string ⟨#[]⟩, .string ⟨#[]⟩, .string ⟨#[]⟩, .string ⟨#[]⟩, .string ⟨#[]⟩, .int .u8 0, .int .i64 0, .int .i64 0, .int .i64 0, .int .i64 0, .int .i64 0, .int .i64 0, .int .i64 0] 23) = v29 at *
          generalize v1.heap.size = b0 at *
          refine wpAnyH_ready (rs := [3]) (by kernel_rfl) (by simp) ?_
          refine AllReadyH.cons rfl (fun K hK => ?_) ?_
          · rw [if_pos (by rfl)]
            refine call_at (R := fun v V => v = .int .i64 (numAt l 100 8).1 ∧ V.heap[cB]? = some (.cells #[.bool (false || !((numAt l 100 8).2 == 0))] 4 (0, 0)) ∧ But v29.heap.size cB v29 V) 31 rfl 12 #[.int .i64 100, .int .i64 8, .pointer (some ⟨w.heap.size, 0, none⟩), .pointer (some ⟨cB, 0, none⟩)] (by kernel_rfl) ((refNum_any l w.heap.size cB 100 8 false (by omega) (by omega) _ hv29.out.str hv29.out.box).mono (by rintro e V ⟨he, hx, hb⟩; exact ⟨_, he, rfl, hx, hb⟩)) ?_
            rintro _ v30 ⟨rfl, hx4, h4⟩
            have hv30 := Lib.hid (hv29.out.num h4 hx4)
            have hqv30 := Lib.hid ((h4.block b0 (Array.getElem?_eq_some_iff.1 hqv29.out).1 (Nat.ne_of_gt hb.out)).trans hqv29.out)
            refine hK.out _ _ hv30.out.str (fun hHeld => ?_)
            clear hK h4
            (try simp only [Act.put]); (try simp only [List.setIfInBounds_toArray]); (try simp only [List.set_cons_succ]); (try simp only [List.set_cons_zero])
            refine wpAnyH_ready (rs := [5]) (by kernel_rfl) (by simp) ?_
            refine AllReadyH.cons rfl (fun K hK => ?_) ?_
            · rw [if_pos (by rfl)]
              refine call_at (R := fun v V => v = .int .i64 (numAt l 108 8).1 ∧ V.heap[cB]? = some (.cells #[.bool ((false || !((numAt l 100 8).2 == 0)) || !((numAt l 108 8).2 == 0))] 4 (0, 0)) ∧ But v30.heap.size cB v30 V) 33 rfl 12 #[.int .i64 108, .int .i64 8, .pointer (some ⟨w.heap.size, 0, none⟩), .pointer (some ⟨cB, 0, none⟩)] (by kernel_rfl) ((refNum_any l w.heap.size cB 108 8 (false || !((numAt l 100 8).2 == 0)) (by omega) (by omega) _ hv30.out.str hv30.out.box).mono (by rintro e V ⟨he, hx, hb⟩; exact ⟨_, he, rfl, hx, hb⟩)) ?_
              rintro _ v31 ⟨rfl, hx4, h4⟩
              have hv31 := Lib.hid (hv30.out.num h4 hx4)
              have hqv31 := Lib.hid ((h4.block b0 (Array.getElem?_eq_some_iff.1 hqv30.out).1 (Nat.ne_of_gt hb.out)).trans hqv30.out)
              refine hK.out _ _ hv31.out.str (fun hHeld => ?_)
              clear hK h4
              (try simp only [Act.put]); (try simp only [List.setIfInBounds_toArray]); (try simp only [List.set_cons_succ]); (try simp only [List.set_cons_zero])
              refine wpAnyH_ready (rs := [7]) (by kernel_rfl) (by simp) ?_
              refine AllReadyH.cons rfl (fun K hK => ?_) ?_
              · rw [if_pos (by rfl)]
                refine call_at (R := fun v V => v = .int .i64 (numAt l 116 8).1 ∧ V.heap[cB]? = some (.cells #[.bool (((false || !((numAt l 100 8).2 == 0)) || !((numAt l 108 8).2 == 0)) || !((numAt l 116 8).2 == 0))] 4 (0, 0)) ∧ But v31.heap.size cB v31 V) 35 rfl 12 #[.int .i64 116, .int .i64 8, .pointer (some ⟨w.heap.size, 0, none⟩), .pointer (some ⟨cB, 0, none⟩)] (by kernel_rfl) ((refNum_any l w.heap.size cB 116 8 ((false || !((numAt l 100 8).2 == 0)) || !((numAt l 108 8).2 == 0)) (by omega) (by omega) _ hv31.out.str hv31.out.box).mono (by rintro e V ⟨he, hx, hb⟩; exact ⟨_, he, rfl, hx, hb⟩)) ?_
                rintro _ v32 ⟨rfl, hx4, h4⟩
                have hv32 := Lib.hid (hv31.out.num h4 hx4)
                have hqv32 := Lib.hid ((h4.block b0 (Array.getElem?_eq_some_iff.1 hqv31.out).1 (Nat.ne_of_gt hb.out)).trans hqv31.out)
                refine hK.out _ _ hv32.out.str (fun hHeld => ?_)
                clear hK h4
                (try simp only [Act.put]); (try simp only [List.setIfInBounds_toArray]); (try simp only [List.set_cons_succ]); (try simp only [List.set_cons_zero])
                refine wpAnyH_ready (rs := [9]) (by kernel_rfl) (by simp) ?_
                refine AllReadyH.cons rfl (fun K hK => ?_) ?_
                · rw [if_pos (by rfl)]
                  refine call_at (R := fun v V => v = .int .i64 (numAt l 124 12).1 ∧ V.heap[cB]? = some (.cells #[.bool ((((false || !((numAt l 100 8).2 == 0)) || !((numAt l 108 8).2 == 0)) || !((numAt l 116 8).2 == 0)) || !((numAt l 124 12).2 == 0))] 4 (0, 0)) ∧ But v32.heap.size cB v32 V) 37 rfl 12 #[.int .i64 124, .int .i64 12, .pointer (some ⟨w.heap.size, 0, none⟩), .pointer (some ⟨cB, 0, none⟩)] (by kernel_rfl) ((refNum_any l w.heap.size cB 124 12 (((false || !((numAt l 100 8).2 == 0)) || !((numAt l 108 8).2 == 0)) || !((numAt l 116 8).2 == 0)) (by omega) (by omega) _ hv32.out.str hv32.out.box).mono (by rintro e V ⟨he, hx, hb⟩; exact ⟨_, he, rfl, hx, hb⟩)) ?_
                  rintro _ v33 ⟨rfl, hx4, h4⟩
                  have hv33 := Lib.hid (hv32.out.num h4 hx4)
                  have hqv33 := Lib.hid ((h4.block b0 (Array.getElem?_eq_some_iff.1 hqv32.out).1 (Nat.ne_of_gt hb.out)).trans hqv32.out)
                  refine hK.out _ _ hv33.out.str (fun hHeld => ?_)
                  clear hK h4
                  (try simp only [Act.put]); (try simp only [List.setIfInBounds_toArray]); (try simp only [List.set_cons_succ]); (try simp only [List.set_cons_zero])
                  refine wpAnyH_ready (rs := [11]) (by kernel_rfl) (by simp) ?_
                  refine AllReadyH.cons rfl (fun K hK => ?_) ?_
                  · rw [if_pos (by rfl)]
                    refine call_at (R := fun v V => v = .int .i64 (numAt l 136 12).1 ∧ V.heap[cB]? = some (.cells #[.bool (((((false || !((numAt l 100 8).2 == 0)) || !((numAt l 108 8).2 == 0)) || !((numAt l 116 8).2 == 0)) || !((numAt l 124 12).2 == 0)) || !((numAt l 136 12).2 == 0))] 4 (0, 0)) ∧ But v33.heap.size cB v33 V) 39 rfl 12 #[.int .i64 136, .int .i64 12, .pointer (some ⟨w.heap.size, 0, none⟩), .pointer (some ⟨cB, 0, none⟩)] (by kernel_rfl) ((refNum_any l w.heap.size cB 136 12 ((((false || !((numAt l 100 8).2 == 0)) || !((numAt l 108 8).2 == 0)) || !((numAt l 116 8).2 == 0)) || !((numAt l 124 12).2 == 0)) (by omega) (by omega) _ hv33.out.str hv33.out.box).mono (by rintro e V ⟨he, hx, hb⟩; exact ⟨_, he, rfl, hx, hb⟩)) ?_
                    rintro _ v34 ⟨rfl, hx4, h4⟩
                    have hv34 := Lib.hid (hv33.out.num h4 hx4)
                    have hqv34 := Lib.hid ((h4.block b0 (Array.getElem?_eq_some_iff.1 hqv33.out).1 (Nat.ne_of_gt hb.out)).trans hqv33.out)
                    refine hK.out _ _ hv34.out.str (fun hHeld => ?_)
                    clear hK h4
                    (try simp only [Act.put]); (try simp only [List.setIfInBounds_toArray]); (try simp only [List.set_cons_succ]); (try simp only [List.set_cons_zero])
                    refine wpAnyH_ready (rs := [15]) (by kernel_rfl) (by simp) ?_
                    refine AllReadyH.cons rfl (fun K hK => ?_) ?_
                    · rw [if_pos (by rfl)]
                      refine call_at (R := fun v V => v = .string (mkS (cutZ (sub l 157 100))) ∧ Below v34.heap.size v34 V) 43 rfl 10 #[.int .i64 157, .int .i64 100, .pointer (some ⟨w.heap.size, 0, none⟩)] (by kernel_rfl) ((refText_any l w.heap.size 157 100 (by omega) (by omega) _ hv34.out.str).mono (by rintro e V ⟨he, hb⟩; exact ⟨_, he, rfl, hb⟩)) ?_
                      rintro _ v35 ⟨rfl, h4⟩
                      have hv35 := Lib.hid (hv34.out.text h4)
                      have hqv35 := Lib.hid ((h4.block b0 (Array.getElem?_eq_some_iff.1 hqv34.out).1).trans hqv34.out)
                      refine hK.out _ _ hv35.out.str (fun hHeld => ?_)
                      clear hK h4
                      (try simp only [Act.put]); (try simp only [List.setIfInBounds_toArray]); (try simp only [List.set_cons_succ]); (try simp only [List.set_cons_zero])
                      refine take_to (i := 16) 44 (.agg #[.string (mkS (cutZ (sub l 0 100))), .string (mkS (cutZ (sub l 157 100))), .string ⟨#[]⟩, .string ⟨#[]⟩, .string ⟨#[]⟩, .int .u8 (c.toNat : Int), .int .i64 (numAt l 100 8).1, .int .i64 (numAt l 108 8).1, .int .i64 (numAt l 116 8).1, .int .i64 (numAt l 124 12).1, .int .i64 (numAt l 136 12).1, .int .i64 0, .int .i64 0]) rfl rfl (by kernel_rfl) (by kernel_rfl) (by kernel_rfl) (fun _ _ _ h => h) (Or.inl ⟨by rfl, fun _ _ => by kernel_rfl⟩) (by assumption) ?_
                      simp only [List.setIfInBounds_toArray, List.set_cons_succ, List.set_cons_zero]
                      refine wpAnyH_ready (rs := [18]) (by kernel_rfl) (by simp) ?_
                      refine AllReadyH.cons rfl (fun K hK => ?_) AllReadyH.nil
                      rw [if_pos (by rfl)]
                      refine store_row_no rfl _ _ _ rfl b0 #[.string (mkS (cutZ (sub l 0 100))), .string (mkS (cutZ (sub l 157 100))), .string ⟨#[]⟩, .string ⟨#[]⟩, .string ⟨#[]⟩, .int .u8 (c.toNat : Int), .int .i64 (numAt l 100 8).1, .int .i64 (numAt l 108 8).1, .int .i64 (numAt l 116 8).1, .int .i64 (numAt l 124 12).1, .int .i64 (numAt l 136 12).1, .int .i64 0, .int .i64 0] rfl rfl _ _ hqv35.out infoRef rfl (by kernel_rfl) ?_
                      have h9 := Lib.hid (hv35.out.set hb.out #[.string (mkS (cutZ (sub l 0 100))), .string (mkS (cutZ (sub l 157 100))), .string ⟨#[]⟩, .string ⟨#[]⟩, .string ⟨#[]⟩, .int .u8 (c.toNat : Int), .int .i64 (numAt l 100 8).1, .int .i64 (numAt l 108 8).1, .int .i64 (numAt l 116 8).1, .int .i64 (numAt l 124 12).1, .int .i64 (numAt l 136 12).1, .int .i64 0, .int .i64 0])
                      have hq9 := Lib.hid (setRow_heap v35 _ _ #[.string (mkS (cutZ (sub l 0 100))), .string (mkS (cutZ (sub l 157 100))), .string ⟨#[]⟩, .string ⟨#[]⟩, .string ⟨#[]⟩, .int .u8 (c.toNat : Int), .int .i64 (numAt l 100 8).1, .int .i64 (numAt l 108 8).1, .int .i64 (numAt l 116 8).1, .int .i64 (numAt l 124 12).1, .int .i64 (numAt l 136 12).1, .int .i64 0, .int .i64 0] _ _ hqv35.out)
                      refine hK.out _ _ h9.out.str (fun hHeld => ?_)
                      clear hK
                      (try simp only [Act.put]); (try simp only [List.setIfInBounds_toArray]); (try simp only [List.set_cons_succ]); (try simp only [List.set_cons_zero])
                      refine wpAnyH_done (by kernel_rfl) ?_ _
                      go_wp2_with fail
                      go_meet
                      exact ⟨b0, rfl, hb.out, h9.out, hq9.out⟩
                    exact AllReadyH.nil
                  exact AllReadyH.nil
                exact AllReadyH.nil
              exact AllReadyH.nil
            exact AllReadyH.nil
          exact AllReadyH.nil
        exact AllReadyH.nil
      refine AllReadyH.cons rfl (fun K hK => ?_) ?_
      · rw [if_pos (by rfl)]
        refine alloc_row_to 9 rfl _ rfl _ (zeroRef _) ?_
        have hv36 := Lib.hid (hv0.out.alloc (.cells #[.string ⟨#[]⟩, .string ⟨#[]⟩, .string ⟨#[]⟩, .string ⟨#[]⟩, .string ⟨#[]⟩, .int .u8 0, .int .i64 0, .int .i64 0, .int .i64 0, .int .i64 0, .int .i64 0, .int .i64 0, .int .i64 0] 23))
        have hqv36 := Lib.hid (heap_alloc_new v0 (.cells #[.string ⟨#[]⟩, .string ⟨#[]⟩, .string ⟨#[]⟩, .string ⟨#[]⟩, .string ⟨#[]⟩, .int .u8 0, .int .i64 0, .int .i64 0, .int .i64 0, .int .i64 0, .int .i64 0, .int .i64 0, .int .i64 0] 23))
        have hb := Lib.hid (hv0.out.below_box)
        refine hK.out _ _ hv36.out.str (fun hHeld => ?_)
        clear hK
        (try simp only [Act.put]); (try simp only [List.setIfInBounds_toArray]); (try simp only [List.set_cons_succ]); (try simp only [List.set_cons_zero])
        generalize v0.alloc (.cells #[.string ⟨#[]⟩, .string ⟨#[]⟩, .string ⟨#[]⟩, .string ⟨#[]⟩, .string ⟨#[]⟩, .int .u8 0, .int .i64 0, .int .i64 0, .int .i64 0, .int .i64 0, .int .i64 0, .int .i64 0, .int .i64 0] 23) = v36 at *
        generalize v0.heap.size = b0 at *
        refine wpAnyH_ready (rs := [1]) (by kernel_rfl) (by simp) ?_
        refine AllReadyH.cons rfl (fun K hK => ?_) ?_
        · rw [if_pos (by rfl)]
          refine call_at (R := fun v V => v = .string (mkS (cutZ (sub l 0 100))) ∧ Below v36.heap.size v36 V) 29 rfl 10 #[.int .i64 0, .int .i64 100, .pointer (some ⟨w.heap.size, 0, none⟩)] (by kernel_rfl) ((refText_any l w.heap.size 0 100 (by omega) (by omega) _ hv36.out.str).mono (by rintro e V ⟨he, hb⟩; exact ⟨_, he, rfl, hb⟩)) ?_
          rintro _ v37 ⟨rfl, h4⟩
          have hv37 := Lib.hid (hv36.out.text h4)
          have hqv37 := Lib.hid ((h4.block b0 (Array.getElem?_eq_some_iff.1 hqv36.out).1).trans hqv36.out)
          refine hK.out _ _ hv37.out.str (fun hHeld => ?_)
          clear hK h4
          (try simp only [Act.put]); (try simp only [List.setIfInBounds_toArray]); (try simp only [List.set_cons_succ]); (try simp only [List.set_cons_zero])
          refine wpAnyH_ready (rs := [3]) (by kernel_rfl) (by simp) ?_
          refine AllReadyH.cons rfl (fun K hK => ?_) ?_
          · rw [if_pos (by rfl)]
            refine call_at (R := fun v V => v = .int .i64 (numAt l 100 8).1 ∧ V.heap[cB]? = some (.cells #[.bool (false || !((numAt l 100 8).2 == 0))] 4 (0, 0)) ∧ But v37.heap.size cB v37 V) 31 rfl 12 #[.int .i64 100, .int .i64 8, .pointer (some ⟨w.heap.size, 0, none⟩), .pointer (some ⟨cB, 0, none⟩)] (by kernel_rfl) ((refNum_any l w.heap.size cB 100 8 false (by omega) (by omega) _ hv37.out.str hv37.out.box).mono (by rintro e V ⟨he, hx, hb⟩; exact ⟨_, he, rfl, hx, hb⟩)) ?_
            rintro _ v38 ⟨rfl, hx4, h4⟩
            have hv38 := Lib.hid (hv37.out.num h4 hx4)
            have hqv38 := Lib.hid ((h4.block b0 (Array.getElem?_eq_some_iff.1 hqv37.out).1 (Nat.ne_of_gt hb.out)).trans hqv37.out)
            refine hK.out _ _ hv38.out.str (fun hHeld => ?_)
            clear hK h4
            (try simp only [Act.put]); (try simp only [List.setIfInBounds_toArray]); (try simp only [List.set_cons_succ]); (try simp only [List.set_cons_zero])
            refine wpAnyH_ready (rs := [5]) (by kernel_rfl) (by simp) ?_
            refine AllReadyH.cons rfl (fun K hK => ?_) ?_
            · rw [if_pos (by rfl)]
              refine call_at (R := fun v V => v = .int .i64 (numAt l 108 8).1 ∧ V.heap[cB]? = some (.cells #[.bool ((false || !((numAt l 100 8).2 == 0)) || !((numAt l 108 8).2 == 0))] 4 (0, 0)) ∧ But v38.heap.size cB v38 V) 33 rfl 12 #[.int .i64 108, .int .i64 8, .pointer (some ⟨w.heap.size, 0, none⟩), .pointer (some ⟨cB, 0, none⟩)] (by kernel_rfl) ((refNum_any l w.heap.size cB 108 8 (false || !((numAt l 100 8).2 == 0)) (by omega) (by omega) _ hv38.out.str hv38.out.box).mono (by rintro e V ⟨he, hx, hb⟩; exact ⟨_, he, rfl, hx, hb⟩)) ?_
              rintro _ v39 ⟨rfl, hx4, h4⟩
              have hv39 := Lib.hid (hv38.out.num h4 hx4)
              have hqv39 := Lib.hid ((h4.block b0 (Array.getElem?_eq_some_iff.1 hqv38.out).1 (Nat.ne_of_gt hb.out)).trans hqv38.out)
              refine hK.out _ _ hv39.out.str (fun hHeld => ?_)
              clear hK h4
              (try simp only [Act.put]); (try simp only [List.setIfInBounds_toArray]); (try simp only [List.set_cons_succ]); (try simp only [List.set_cons_zero])
              refine wpAnyH_ready (rs := [7]) (by kernel_rfl) (by simp) ?_
              refine AllReadyH.cons rfl (fun K hK => ?_) ?_
              · rw [if_pos (by rfl)]
                refine call_at (R := fun v V => v = .int .i64 (numAt l 116 8).1 ∧ V.heap[cB]? = some (.cells #[.bool (((false || !((numAt l 100 8).2 == 0)) || !((numAt l 108 8).2 == 0)) || !((numAt l 116 8).2 == 0))] 4 (0, 0)) ∧ But v39.heap.size cB v39 V) 35 rfl 12 #[.int .i64 116, .int .i64 8, .pointer (some ⟨w.heap.size, 0, none⟩), .pointer (some ⟨cB, 0, none⟩)] (by kernel_rfl) ((refNum_any l w.heap.size cB 116 8 ((false || !((numAt l 100 8).2 == 0)) || !((numAt l 108 8).2 == 0)) (by omega) (by omega) _ hv39.out.str hv39.out.box).mono (by rintro e V ⟨he, hx, hb⟩; exact ⟨_, he, rfl, hx, hb⟩)) ?_
                rintro _ v40 ⟨rfl, hx4, h4⟩
                have hv40 := Lib.hid (hv39.out.num h4 hx4)
                have hqv40 := Lib.hid ((h4.block b0 (Array.getElem?_eq_some_iff.1 hqv39.out).1 (Nat.ne_of_gt hb.out)).trans hqv39.out)
                refine hK.out _ _ hv40.out.str (fun hHeld => ?_)
                clear hK h4
                (try simp only [Act.put]); (try simp only [List.setIfInBounds_toArray]); (try simp only [List.set_cons_succ]); (try simp only [List.set_cons_zero])
                refine wpAnyH_ready (rs := [9]) (by kernel_rfl) (by simp) ?_
                refine AllReadyH.cons rfl (fun K hK => ?_) ?_
                · rw [if_pos (by rfl)]
                  refine call_at (R := fun v V => v = .int .i64 (numAt l 124 12).1 ∧ V.heap[cB]? = some (.cells #[.bool ((((false || !((numAt l 100 8).2 == 0)) || !((numAt l 108 8).2 == 0)) || !((numAt l 116 8).2 == 0)) || !((numAt l 124 12).2 == 0))] 4 (0, 0)) ∧ But v40.heap.size cB v40 V) 37 rfl 12 #[.int .i64 124, .int .i64 12, .pointer (some ⟨w.heap.size, 0, none⟩), .pointer (some ⟨cB, 0, none⟩)] (by kernel_rfl) ((refNum_any l w.heap.size cB 124 12 (((false || !((numAt l 100 8).2 == 0)) || !((numAt l 108 8).2 == 0)) || !((numAt l 116 8).2 == 0)) (by omega) (by omega) _ hv40.out.str hv40.out.box).mono (by rintro e V ⟨he, hx, hb⟩; exact ⟨_, he, rfl, hx, hb⟩)) ?_
                  rintro _ v41 ⟨rfl, hx4, h4⟩
                  have hv41 := Lib.hid (hv40.out.num h4 hx4)
                  have hqv41 := Lib.hid ((h4.block b0 (Array.getElem?_eq_some_iff.1 hqv40.out).1 (Nat.ne_of_gt hb.out)).trans hqv40.out)
                  refine hK.out _ _ hv41.out.str (fun hHeld => ?_)
                  clear hK h4
                  (try simp only [Act.put]); (try simp only [List.setIfInBounds_toArray]); (try simp only [List.set_cons_succ]); (try simp only [List.set_cons_zero])
                  refine wpAnyH_ready (rs := [11]) (by kernel_rfl) (by simp) ?_
                  refine AllReadyH.cons rfl (fun K hK => ?_) ?_
                  · rw [if_pos (by rfl)]
                    refine call_at (R := fun v V => v = .int .i64 (numAt l 136 12).1 ∧ V.heap[cB]? = some (.cells #[.bool (((((false || !((numAt l 100 8).2 == 0)) || !((numAt l 108 8).2 == 0)) || !((numAt l 116 8).2 == 0)) || !((numAt l 124 12).2 == 0)) || !((numAt l 136 12).2 == 0))] 4 (0, 0)) ∧ But v41.heap.size cB v41 V) 39 rfl 12 #[.int .i64 136, .int .i64 12, .pointer (some ⟨w.heap.size, 0, none⟩), .pointer (some ⟨cB, 0, none⟩)] (by kernel_rfl) ((refNum_any l w.heap.size cB 136 12 ((((false || !((numAt l 100 8).2 == 0)) || !((numAt l 108 8).2 == 0)) || !((numAt l 116 8).2 == 0)) || !((numAt l 124 12).2 == 0)) (by omega) (by omega) _ hv41.out.str hv41.out.box).mono (by rintro e V ⟨he, hx, hb⟩; exact ⟨_, he, rfl, hx, hb⟩)) ?_
                    rintro _ v42 ⟨rfl, hx4, h4⟩
                    have hv42 := Lib.hid (hv41.out.num h4 hx4)
                    have hqv42 := Lib.hid ((h4.block b0 (Array.getElem?_eq_some_iff.1 hqv41.out).1 (Nat.ne_of_gt hb.out)).trans hqv41.out)
                    refine hK.out _ _ hv42.out.str (fun hHeld => ?_)
                    clear hK h4
                    (try simp only [Act.put]); (try simp only [List.setIfInBounds_toArray]); (try simp only [List.set_cons_succ]); (try simp only [List.set_cons_zero])
                    refine wpAnyH_ready (rs := [15]) (by kernel_rfl) (by simp) ?_
                    refine AllReadyH.cons rfl (fun K hK => ?_) ?_
                    · rw [if_pos (by rfl)]
                      refine call_at (R := fun v V => v = .string (mkS (cutZ (sub l 157 100))) ∧ Below v42.heap.size v42 V) 43 rfl 10 #[.int .i64 157, .int .i64 100, .pointer (some ⟨w.heap.size, 0, none⟩)] (by kernel_rfl) ((refText_any l w.heap.size 157 100 (by omega) (by omega) _ hv42.out.str).mono (by rintro e V ⟨he, hb⟩; exact ⟨_, he, rfl, hb⟩)) ?_
                      rintro _ v43 ⟨rfl, h4⟩
                      have hv43 := Lib.hid (hv42.out.text h4)
                      have hqv43 := Lib.hid ((h4.block b0 (Array.getElem?_eq_some_iff.1 hqv42.out).1).trans hqv42.out)
                      refine hK.out _ _ hv43.out.str (fun hHeld => ?_)
                      clear hK h4
                      (try simp only [Act.put]); (try simp only [List.setIfInBounds_toArray]); (try simp only [List.set_cons_succ]); (try simp only [List.set_cons_zero])
                      refine take_to (i := 16) 44 (.agg #[.string (mkS (cutZ (sub l 0 100))), .string (mkS (cutZ (sub l 157 100))), .string ⟨#[]⟩, .string ⟨#[]⟩, .string ⟨#[]⟩, .int .u8 (c.toNat : Int), .int .i64 (numAt l 100 8).1, .int .i64 (numAt l 108 8).1, .int .i64 (numAt l 116 8).1, .int .i64 (numAt l 124 12).1, .int .i64 (numAt l 136 12).1, .int .i64 0, .int .i64 0]) rfl rfl (by kernel_rfl) (by kernel_rfl) (by kernel_rfl) (fun _ _ _ h => h) (Or.inl ⟨by rfl, fun _ _ => by kernel_rfl⟩) (by assumption) ?_
                      simp only [List.setIfInBounds_toArray, List.set_cons_succ, List.set_cons_zero]
                      refine wpAnyH_ready (rs := [18]) (by kernel_rfl) (by simp) ?_
                      refine AllReadyH.cons rfl (fun K hK => ?_) AllReadyH.nil
                      rw [if_pos (by rfl)]
                      refine store_row_no rfl _ _ _ rfl b0 #[.string (mkS (cutZ (sub l 0 100))), .string (mkS (cutZ (sub l 157 100))), .string ⟨#[]⟩, .string ⟨#[]⟩, .string ⟨#[]⟩, .int .u8 (c.toNat : Int), .int .i64 (numAt l 100 8).1, .int .i64 (numAt l 108 8).1, .int .i64 (numAt l 116 8).1, .int .i64 (numAt l 124 12).1, .int .i64 (numAt l 136 12).1, .int .i64 0, .int .i64 0] rfl rfl _ _ hqv43.out infoRef rfl (by kernel_rfl) ?_
                      have h9 := Lib.hid (hv43.out.set hb.out #[.string (mkS (cutZ (sub l 0 100))), .string (mkS (cutZ (sub l 157 100))), .string ⟨#[]⟩, .string ⟨#[]⟩, .string ⟨#[]⟩, .int .u8 (c.toNat : Int), .int .i64 (numAt l 100 8).1, .int .i64 (numAt l 108 8).1, .int .i64 (numAt l 116 8).1, .int .i64 (numAt l 124 12).1, .int .i64 (numAt l 136 12).1, .int .i64 0, .int .i64 0])
                      have hq9 := Lib.hid (setRow_heap v43 _ _ #[.string (mkS (cutZ (sub l 0 100))), .string (mkS (cutZ (sub l 157 100))), .string ⟨#[]⟩, .string ⟨#[]⟩, .string ⟨#[]⟩, .int .u8 (c.toNat : Int), .int .i64 (numAt l 100 8).1, .int .i64 (numAt l 108 8).1, .int .i64 (numAt l 116 8).1, .int .i64 (numAt l 124 12).1, .int .i64 (numAt l 136 12).1, .int .i64 0, .int .i64 0] _ _ hqv43.out)
                      refine hK.out _ _ h9.out.str (fun hHeld => ?_)
                      clear hK
                      (try simp only [Act.put]); (try simp only [List.setIfInBounds_toArray]); (try simp only [List.set_cons_succ]); (try simp only [List.set_cons_zero])
                      refine wpAnyH_done (by kernel_rfl) ?_ _
                      go_wp2_with fail
                      go_meet
                      exact ⟨b0, rfl, hb.out, h9.out, hq9.out⟩
                    exact AllReadyH.nil
                  exact AllReadyH.nil
                exact AllReadyH.nil
              exact AllReadyH.nil
            exact AllReadyH.nil
          exact AllReadyH.nil
        exact AllReadyH.nil
      exact AllReadyH.nil
    case rest =>
      obtain ⟨b0, rfl, hb, hH, hq⟩ := hcut
      have HA := Lib.hid hH
      have QA := Lib.hid hq
      clear hq hH
      go_wp2_with (first
          | (go_at_call 10; (with_reducible refine (refText_at l w.heap.size 265 32 265 32 rfl rfl (by omega) (by omega) _ HA.out.str).mono ?_); rintro e y1 ⟨rfl, h4⟩; have H1 := Lib.hid (HA.out.text h4); have qa := Lib.hid ((h4.block b0 (Array.getElem?_eq_some_iff.1 QA.out).1).trans QA.out); clear h4)
          | (go_at_call 10; (with_reducible refine (refText_at l w.heap.size 297 32 297 32 rfl rfl (by omega) (by omega) _ H1.out.str).mono ?_); rintro e y2 ⟨rfl, h4⟩; have H2 := Lib.hid (H1.out.text h4); have qb := Lib.hid ((h4.block b0 (Array.getElem?_eq_some_iff.1 qa.out).1).trans qa.out); clear h4)
          | (go_at_call 12; (with_reducible refine (refNum_at l w.heap.size cB 329 8 329 8 rfl rfl (bad5 l) (by omega) (by omega) _ H2.out.str H2.out.box).mono ?_); rintro e y3 ⟨rfl, hx4, h4⟩; have H3 := Lib.hid (H2.out.num h4 hx4); have qc := Lib.hid ((h4.block b0 (Array.getElem?_eq_some_iff.1 qb.out).1 (Nat.ne_of_gt hb)).trans qb.out); clear h4 hx4)
          | fail)
      go_at_call 12
      (with_reducible refine (refNum_at l w.heap.size cB 337 8 337 8 rfl rfl _ (by omega) (by omega) _ H3.out.str H3.out.box).mono ?_)
      rintro e y4 ⟨rfl, hx4, h4⟩
      have H4 := Lib.hid (H3.out.num h4 hx4)
      have qd := Lib.hid ((h4.block b0 (Array.getElem?_eq_some_iff.1 qc.out).1 (Nat.ne_of_gt hb)).trans qc.out)
      clear h4 hx4
      obtain ⟨_, _, d2, d3, _, d5, _, _, _, _, _, d11, d12⟩ := refAt_of_row qd.out
      have g2 : y4.frozen? ⟨b0, 2, none⟩ = false := frozen_of_row y4 b0 2 _ _ qd.out
      have g3 : y4.frozen? ⟨b0, 3, none⟩ = false := frozen_of_row y4 b0 3 _ _ qd.out
      have g11 : y4.frozen? ⟨b0, 11, none⟩ = false := frozen_of_row y4 b0 11 _ _ qd.out
      have g12 : y4.frozen? ⟨b0, 12, none⟩ = false := frozen_of_row y4 b0 12 _ _ qd.out
      have qe := Lib.hid (show ((((y4.setCell ⟨b0, 2, none⟩ (.string (mkS (cutZ (sub l 265 32))))).setCell ⟨b0, 3, none⟩ (.string (mkS (cutZ (sub l 297 32))))).setCell ⟨b0, 11, none⟩ (.int .i64 (numAt l 329 8).1)).setCell ⟨b0, 12, none⟩ (.int .i64 (numAt l 337 8).1)).heap[b0]? = some (.cells #[.string (mkS (cutZ (sub l 0 100))), .string (mkS (cutZ (sub l 157 100))), .string (mkS (cutZ (sub l 265 32))), .string (mkS (cutZ (sub l 297 32))), .string ⟨#[]⟩, .int .u8 (c.toNat : Int), .int .i64 (numAt l 100 8).1, .int .i64 (numAt l 108 8).1, .int .i64 (numAt l 116 8).1, .int .i64 (numAt l 124 12).1, .int .i64 (numAt l 136 12).1, .int .i64 (numAt l 329 8).1, .int .i64 (numAt l 337 8).1] 23 (0, 0)) from setC (setC (setC (setC qd.out 2 _) 3 _) 11 _) 12 _)
      have H5 := Lib.hid ((((H4.out.cellSet hb qd.out 2 (.string (mkS (cutZ (sub l 265 32))))).cellSet hb (setC qd.out 2 _) 3 (.string (mkS (cutZ (sub l 297 32))))).cellSet hb (setC (setC qd.out 2 _) 3 _) 11 (.int .i64 (numAt l 329 8).1)).cellSet hb (setC (setC (setC qd.out 2 _) 3 _) 11 _) 12 (.int .i64 (numAt l 337 8).1))

      go_wp2_with fail
      clear d2 d3 d5 d11 d12 g2 g3 g11 g12
      generalize ((((y4.setCell ⟨b0, 2, none⟩ (.string (mkS (cutZ (sub l 265 32))))).setCell ⟨b0, 3, none⟩ (.string (mkS (cutZ (sub l 297 32))))).setCell ⟨b0, 11, none⟩ (.int .i64 (numAt l 329 8).1)).setCell ⟨b0, 12, none⟩ (.int .i64 (numAt l 337 8).1)) = y5 at *
      go_at_call 10
      (with_reducible refine (refText_at l w.heap.size 345 155 345 155 rfl rfl (by omega) (by omega) _ H5.out.str).mono ?_)
      rintro e y6 ⟨rfl, h4⟩
      have H6 := Lib.hid (H5.out.text h4)
      have qf := Lib.hid ((h4.block b0 (Array.getElem?_eq_some_iff.1 qe.out).1).trans qe.out)
      clear h4
      obtain ⟨_, _, _, _, d4, _⟩ := refAt_of_row qf.out
      have g4 : y6.frozen? ⟨b0, 4, none⟩ = false := frozen_of_row y6 b0 4 _ _ qf.out
      have qg := Lib.hid (show (y6.setCell ⟨b0, 4, none⟩ (.string (mkS (cutZ (sub l 345 155))))).heap[b0]? = some (.cells #[.string (mkS (cutZ (sub l 0 100))), .string (mkS (cutZ (sub l 157 100))), .string (mkS (cutZ (sub l 265 32))), .string (mkS (cutZ (sub l 297 32))), .string (mkS (cutZ (sub l 345 155))), .int .u8 (c.toNat : Int), .int .i64 (numAt l 100 8).1, .int .i64 (numAt l 108 8).1, .int .i64 (numAt l 116 8).1, .int .i64 (numAt l 124 12).1, .int .i64 (numAt l 136 12).1, .int .i64 (numAt l 329 8).1, .int .i64 (numAt l 337 8).1] 23 (0, 0)) from setC qf.out 4 _)
      have H7 := Lib.hid (H6.out.cellSet hb qf.out 4 (.string (mkS (cutZ (sub l 345 155)))))
      obtain ⟨_, _, _, _, _, d5, _⟩ := refAt_of_row qf.out
      go_upto_if 66 with fail
      clear d4 d5 g4
      generalize (y6.setCell ⟨b0, 4, none⟩ (.string (mkS (cutZ (sub l 345 155))))) = y7 at *
      by_cases hc0 : c = 0
      · have hk : ((c.toNat : Int) == 0) = true := by rw [hc0]; rfl
        have HK := Lib.hid (show kindF c = 48 by unfold kindF; rw [if_pos hc0])
        obtain ⟨_, _, _, _, _, k5, _⟩ := refAt_of_row qg.out
        have f5 : y7.frozen? ⟨b0, 5, none⟩ = false := frozen_of_row y7 b0 5 _ _ qg.out
        have qk := Lib.hid (show (y7.setCell ⟨b0, 5, none⟩ (.int .u8 48)).heap[b0]? = some (.cells #[.string (mkS (cutZ (sub l 0 100))), .string (mkS (cutZ (sub l 157 100))), .string (mkS (cutZ (sub l 265 32))), .string (mkS (cutZ (sub l 297 32))), .string (mkS (cutZ (sub l 345 155))), .int .u8 48, .int .i64 (numAt l 100 8).1, .int .i64 (numAt l 108 8).1, .int .i64 (numAt l 116 8).1, .int .i64 (numAt l 124 12).1, .int .i64 (numAt l 136 12).1, .int .i64 (numAt l 329 8).1, .int .i64 (numAt l 337 8).1] 23 (0, 0)) from setC qg.out 5 _)
        have hk2 := Lib.hid (H7.out.cellSet hb qg.out 5 (.int .u8 48))
        have bx := cell_of_one hk2.out.box
        obtain ⟨r0, r1, r2, r3, r4, r5, r6, r7, r8, r9, r10, r11, r12⟩ := refAt_of_row qk.out
        generalize hzz : ((bad5 l || !((numAt l 329 8).2 == 0)) || !((numAt l 337 8).2 == 0)) = zz at bx
        have HZZ := Lib.hid hzz
        clear hzz hc0
        cases zz with
        | true =>
          have HB := Lib.hid (show ReadIs l (rawZ 0) 0 2 from .range l HR.out fun hn => by have := (bad7_iff (by rw [HDL.out]; decide)).2 hn; rw [HZZ.out] at this; cases this)
          go_wp2_with (refine wpList_store_row rfl _ _ _ rfl (w.heap.size + 1) #[.string ⟨#[]⟩, .string ⟨#[]⟩, .string ⟨#[]⟩, .string ⟨#[]⟩, .string ⟨#[]⟩, .int .u8 0, .int .i64 0, .int .i64 0, .int .i64 0, .int .i64 0, .int .i64 0, .int .i64 0, .int .i64 0] rfl rfl _ _ hk2.out.res infoRef rfl (by kernel_rfl) ?_)
          refine bodyPost_ret (results_row3 rfl _ _ (w.heap.size + 1) _ _ _ _ rfl (setRow_heap _ _ _ #[.string ⟨#[]⟩, .string ⟨#[]⟩, .string ⟨#[]⟩, .string ⟨#[]⟩, .string ⟨#[]⟩, .int .u8 0, .int .i64 0, .int .i64 0, .int .i64 0, .int .i64 0, .int .i64 0, .int .i64 0, .int .i64 0] _ _ hk2.out.res) Tryz.underlying23 rfl infoRef) rfl ?_
          exact ⟨_, _, _, HB.out, rfl, below_setRow hk2.out.below (by omega) _⟩
        | false =>
          have HB := Lib.hid (ref_ok (D := 2) HR.out HDL.out HC.out ((bad7_iff (by rw [HDL.out]; decide)).1 HZZ.out))
          rw [HK.out] at HB
          go_wp2_with (refine wpList_store_row rfl _ _ _ rfl (w.heap.size + 1) #[.string (mkS (cutZ (sub l 0 100))), .string (mkS (cutZ (sub l 157 100))), .string (mkS (cutZ (sub l 265 32))), .string (mkS (cutZ (sub l 297 32))), .string (mkS (cutZ (sub l 345 155))), .int .u8 48, .int .i64 (numAt l 100 8).1, .int .i64 (numAt l 108 8).1, .int .i64 (numAt l 116 8).1, .int .i64 (numAt l 124 12).1, .int .i64 (numAt l 136 12).1, .int .i64 (numAt l 329 8).1, .int .i64 (numAt l 337 8).1] rfl rfl _ _ hk2.out.res infoRef rfl (by kernel_rfl) ?_)
          refine bodyPost_ret (results_row3 rfl _ _ (w.heap.size + 1) _ _ _ _ rfl (setRow_heap _ _ _ #[.string (mkS (cutZ (sub l 0 100))), .string (mkS (cutZ (sub l 157 100))), .string (mkS (cutZ (sub l 265 32))), .string (mkS (cutZ (sub l 297 32))), .string (mkS (cutZ (sub l 345 155))), .int .u8 48, .int .i64 (numAt l 100 8).1, .int .i64 (numAt l 108 8).1, .int .i64 (numAt l 116 8).1, .int .i64 (numAt l 124 12).1, .int .i64 (numAt l 136 12).1, .int .i64 (numAt l 329 8).1, .int .i64 (numAt l 337 8).1] _ _ hk2.out.res) Tryz.underlying23 rfl infoRef) rfl ?_
          exact ⟨_, _, _, HB.out, rfl, below_setRow hk2.out.below (by omega) _⟩
      · have hk : ((c.toNat : Int) == 0) = false := by rw [beq_eq_false_iff_ne]; intro e; exact hc0 (UInt8.toNat_inj.1 (by show c.toNat = 0; omega))
        have HK := Lib.hid (show kindF c = c by unfold kindF; rw [if_neg hc0])
        obtain ⟨_, _, _, _, _, k5, _⟩ := refAt_of_row qg.out
        have f5 : y7.frozen? ⟨b0, 5, none⟩ = false := frozen_of_row y7 b0 5 _ _ qg.out
        have bx := cell_of_one H7.out.box
        obtain ⟨r0, r1, r2, r3, r4, r5, r6, r7, r8, r9, r10, r11, r12⟩ := refAt_of_row qg.out
        generalize hzz : ((bad5 l || !((numAt l 329 8).2 == 0)) || !((numAt l 337 8).2 == 0)) = zz at bx
        have HZZ := Lib.hid hzz
        clear hzz hc0
        cases zz with
        | true =>
          have HB := Lib.hid (show ReadIs l (rawZ 0) 0 2 from .range l HR.out fun hn => by have := (bad7_iff (by rw [HDL.out]; decide)).2 hn; rw [HZZ.out] at this; cases this)
          go_wp2_with (refine wpList_store_row rfl _ _ _ rfl (w.heap.size + 1) #[.string ⟨#[]⟩, .string ⟨#[]⟩, .string ⟨#[]⟩, .string ⟨#[]⟩, .string ⟨#[]⟩, .int .u8 0, .int .i64 0, .int .i64 0, .int .i64 0, .int .i64 0, .int .i64 0, .int .i64 0, .int .i64 0] rfl rfl _ _ H7.out.res infoRef rfl (by kernel_rfl) ?_)
          refine bodyPost_ret (results_row3 rfl _ _ (w.heap.size + 1) _ _ _ _ rfl (setRow_heap _ _ _ #[.string ⟨#[]⟩, .string ⟨#[]⟩, .string ⟨#[]⟩, .string ⟨#[]⟩, .string ⟨#[]⟩, .int .u8 0, .int .i64 0, .int .i64 0, .int .i64 0, .int .i64 0, .int .i64 0, .int .i64 0, .int .i64 0] _ _ H7.out.res) Tryz.underlying23 rfl infoRef) rfl ?_
          exact ⟨_, _, _, HB.out, rfl, below_setRow H7.out.below (by omega) _⟩
        | false =>
          have HB := Lib.hid (ref_ok (D := 2) HR.out HDL.out HC.out ((bad7_iff (by rw [HDL.out]; decide)).1 HZZ.out))
          rw [HK.out] at HB
          go_wp2_with (refine wpList_store_row rfl _ _ _ rfl (w.heap.size + 1) #[.string (mkS (cutZ (sub l 0 100))), .string (mkS (cutZ (sub l 157 100))), .string (mkS (cutZ (sub l 265 32))), .string (mkS (cutZ (sub l 297 32))), .string (mkS (cutZ (sub l 345 155))), .int .u8 (c.toNat : Int), .int .i64 (numAt l 100 8).1, .int .i64 (numAt l 108 8).1, .int .i64 (numAt l 116 8).1, .int .i64 (numAt l 124 12).1, .int .i64 (numAt l 136 12).1, .int .i64 (numAt l 329 8).1, .int .i64 (numAt l 337 8).1] rfl rfl _ _ H7.out.res infoRef rfl (by kernel_rfl) ?_)
          refine bodyPost_ret (results_row3 rfl _ _ (w.heap.size + 1) _ _ _ _ rfl (setRow_heap _ _ _ #[.string (mkS (cutZ (sub l 0 100))), .string (mkS (cutZ (sub l 157 100))), .string (mkS (cutZ (sub l 265 32))), .string (mkS (cutZ (sub l 297 32))), .string (mkS (cutZ (sub l 345 155))), .int .u8 (c.toNat : Int), .int .i64 (numAt l 100 8).1, .int .i64 (numAt l 108 8).1, .int .i64 (numAt l 116 8).1, .int .i64 (numAt l 124 12).1, .int .i64 (numAt l 136 12).1, .int .i64 (numAt l 329 8).1, .int .i64 (numAt l 337 8).1] _ _ H7.out.res) Tryz.underlying23 rfl infoRef) rfl ?_
          exact ⟨_, _, _, HB.out, rfl, below_setRow H7.out.below (by omega) _⟩
  · go_wp2_with fail
    have q3 := fun d os => cell_regrown hS2.out d os
    refine wp_region_quiet_below (by kernel_rfl) (by kernel_rfl) ?_
    repeat (go_big_quiet_step ((go_at_call 9; with_reducible exact Calls.regrown_of (M3.out _))))
    refine wpQuiet_nil ?_
    intro _ hw'
    obtain ⟨⟨dq, osq⟩, hw''⟩ := hw'
    subst hw''
    have hB3 := Lib.hid (hB2.out.trans ((below_regrown u2 dq osq).mono hB2.out.size))
    have hS3 := Lib.hid (q3 dq osq)
    have hZ3 := Lib.hid (((below_regrown u2 dq osq).block _ (Array.getElem?_eq_some_iff.1 hZ2.out).1).trans hZ2.out)
    clear q3 hB2 hZ2 hS2
    dsimp only at *
    generalize Sort.grow (redrawn u2 dq) osq = u3 at *
    clear dq osq
    go_wp2_with fail
    have hH0 := Lib.hid (show HrIs l w u3.heap.size false (u3.alloc (.cells #[.bool false] 4)) from
      ⟨hB3.out.alloc hB3.out.size _, (World.cell?_alloc_lt _ _ _ (block_lt_of_cell hS3.out)).trans hS3.out, (Below.heap_alloc u3 _ _ (Array.getElem?_eq_some_iff.1 hZ3.out).1).trans hZ3.out, heap_alloc_new u3 _, (Array.getElem?_eq_some_iff.1 hZ3.out).1⟩)
    clear hB3 hS3 hZ3
    generalize u3.alloc (.cells #[.bool false] 4) = W0 at *
    generalize u3.heap.size = cB at *
    go_cut [9] from 28 to 44 (fun p wc => ∃ b0, p = .pointer (some ⟨b0, 0, none⟩) ∧ cB < b0 ∧ HrIs l w cB (bad5 l) wc ∧ wc.heap[b0]? = some (.cells #[.string (mkS (cutZ (sub l 0 100))), .string (mkS (cutZ (sub l 157 100))), .string ⟨#[]⟩, .string ⟨#[]⟩, .string ⟨#[]⟩, .int .u8 (c.toNat : Int), .int .i64 (numAt l 100 8).1, .int .i64 (numAt l 108 8).1, .int .i64 (numAt l 116 8).1, .int .i64 (numAt l 124 12).1, .int .i64 (numAt l 136 12).1, .int .i64 0, .int .i64 0] 23 (0, 0)))
    case first =>
      refine wp_region_held_drew (S := fun w' => w'.cell? ⟨w.heap.size, 0, none⟩ = some (.string (mkS l))) (by kernel_rfl) hH0.out.drew.str (fun hHeld => ?_)
      have hv0 := Lib.hid hH0.out.drew
      generalize W0.drew = v0 at *
      refine take_to (i := 0) 28 (.func (.func 10) #[] #[.pointer (some ⟨w.heap.size, 0, none⟩)]) rfl rfl (by kernel_rfl) (by kernel_rfl) (by kernel_rfl) (fun _ _ _ h => h) (Or.inl ⟨by rfl, fun _ _ => rfl⟩) (by assumption) ?_
      simp only [List.setIfInBounds_toArray, List.set_cons_succ, List.set_cons_zero]
      refine take_to (i := 14) 42 (.func (.func 10) #[] #[.pointer (some ⟨w.heap.size, 0, none⟩)]) rfl rfl (by kernel_rfl) (by kernel_rfl) (by kernel_rfl) (fun _ _ _ h => h) (Or.inl ⟨by rfl, fun _ _ => rfl⟩) (by assumption) ?_
      simp only [List.setIfInBounds_toArray, List.set_cons_succ, List.set_cons_zero]
      refine take_to (i := 2) 30 (.func (.func 12) #[] #[.pointer (some ⟨w.heap.size, 0, none⟩), .pointer (some ⟨cB, 0, none⟩)]) rfl rfl (by kernel_rfl) (by kernel_rfl) (by kernel_rfl) (fun _ _ _ h => h) (Or.inl ⟨by rfl, fun _ _ => rfl⟩) (by assumption) ?_
      simp only [List.setIfInBounds_toArray, List.set_cons_succ, List.set_cons_zero]
      refine take_to (i := 4) 32 (.func (.func 12) #[] #[.pointer (some ⟨w.heap.size, 0, none⟩), .pointer (some ⟨cB, 0, none⟩)]) rfl rfl (by kernel_rfl) (by kernel_rfl) (by kernel_rfl) (fun _ _ _ h => h) (Or.inl ⟨by rfl, fun _ _ => rfl⟩) (by assumption) ?_
      simp only [List.setIfInBounds_toArray, List.set_cons_succ, List.set_cons_zero]
      refine take_to (i := 6) 34 (.func (.func 12) #[] #[.pointer (some ⟨w.heap.size, 0, none⟩), .pointer (some ⟨cB, 0, none⟩)]) rfl rfl (by kernel_rfl) (by kernel_rfl) (by kernel_rfl) (fun _ _ _ h => h) (Or.inl ⟨by rfl, fun _ _ => rfl⟩) (by assumption) ?_
      simp only [List.setIfInBounds_toArray, List.set_cons_succ, List.set_cons_zero]
      refine take_to (i := 8) 36 (.func (.func 12) #[] #[.pointer (some ⟨w.heap.size, 0, none⟩), .pointer (some ⟨cB, 0, none⟩)]) rfl rfl (by kernel_rfl) (by kernel_rfl) (by kernel_rfl) (fun _ _ _ h => h) (Or.inl ⟨by rfl, fun _ _ => rfl⟩) (by assumption) ?_
      simp only [List.setIfInBounds_toArray, List.set_cons_succ, List.set_cons_zero]
      refine take_to (i := 10) 38 (.func (.func 12) #[] #[.pointer (some ⟨w.heap.size, 0, none⟩), .pointer (some ⟨cB, 0, none⟩)]) rfl rfl (by kernel_rfl) (by kernel_rfl) (by kernel_rfl) (fun _ _ _ h => h) (Or.inl ⟨by rfl, fun _ _ => rfl⟩) (by assumption) ?_
      simp only [List.setIfInBounds_toArray, List.set_cons_succ, List.set_cons_zero]
      refine take_to (i := 12) 40 (.string (mkS l)) rfl rfl (by kernel_rfl) (by kernel_rfl) (by kernel_rfl) (fun _ _ _ h => h) (Or.inl ⟨by rfl, ?_⟩) (by assumption) ?_
      · (intro w hSw; go_simp; try with_reducible rfl)
      simp only [List.setIfInBounds_toArray, List.set_cons_succ, List.set_cons_zero]
      refine take_to (i := 13) 41 (.int .u8 (c.toNat : Int)) rfl rfl (by kernel_rfl) (by kernel_rfl) (by kernel_rfl) (fun _ _ _ h => h) (Or.inl ⟨by rfl, ?_⟩) (by assumption) ?_
      · (intro w hSw; go_simp; try with_reducible rfl)
      simp only [List.setIfInBounds_toArray, List.set_cons_succ, List.set_cons_zero]
      clear i1 m1 e2 e3 C1 M2 M3 s1 hH0
      refine wpAnyH_ready (rs := [1, 17]) (by kernel_rfl) (by simp) ?_
      refine AllReadyH.cons rfl (fun K hK => ?_) ?_
      · rw [if_pos (by rfl)]
        refine call_at (R := fun v V => v = .string (mkS (cutZ (sub l 0 100))) ∧ Below v0.heap.size v0 V) 29 rfl 10 #[.int .i64 0, .int .i64 100, .pointer (some ⟨w.heap.size, 0, none⟩)] (by kernel_rfl) ((refText_any l w.heap.size 0 100 (by omega) (by omega) _ hv0.out.str).mono (by rintro e V ⟨he, hb⟩; exact ⟨_, he, rfl, hb⟩)) ?_
        rintro _ v1 ⟨rfl, h4⟩
        have hv1 := Lib.hid (hv0.out.text h4)
        refine hK.out _ _ hv1.out.str (fun hHeld => ?_)
        clear hK h4
        (try simp only [Act.put]); (try simp only [List.setIfInBounds_toArray]); (try simp only [List.set_cons_succ]); (try simp only [List.set_cons_zero])
        refine wpAnyH_ready (rs := [3, 17]) (by kernel_rfl) (by simp) ?_
        refine AllReadyH.cons rfl (fun K hK => ?_) ?_
        · rw [if_pos (by rfl)]
          refine call_at (R := fun v V => v = .int .i64 (numAt l 100 8).1 ∧ V.heap[cB]? = some (.cells #[.bool (false || !((numAt l 100 8).2 == 0))] 4 (0, 0)) ∧ But v1.heap.size cB v1 V) 31 rfl 12 #[.int .i64 100, .int .i64 8, .pointer (some ⟨w.heap.size, 0, none⟩), .pointer (some ⟨cB, 0, none⟩)] (by kernel_rfl) ((refNum_any l w.heap.size cB 100 8 false (by omega) (by omega) _ hv1.out.str hv1.out.box).mono (by rintro e V ⟨he, hx, hb⟩; exact ⟨_, he, rfl, hx, hb⟩)) ?_
          rintro _ v2 ⟨rfl, hx4, h4⟩
          have hv2 := Lib.hid (hv1.out.num h4 hx4)
          refine hK.out _ _ hv2.out.str (fun hHeld => ?_)
          clear hK h4
          (try simp only [Act.put]); (try simp only [List.setIfInBounds_toArray]); (try simp only [List.set_cons_succ]); (try simp only [List.set_cons_zero])
          refine wpAnyH_ready (rs := [5, 17]) (by kernel_rfl) (by simp) ?_
          refine AllReadyH.cons rfl (fun K hK => ?_) ?_
          · rw [if_pos (by rfl)]
            refine call_at (R := fun v V => v = .int .i64 (numAt l 108 8).1 ∧ V.heap[cB]? = some (.cells #[.bool ((false || !((numAt l 100 8).2 == 0)) || !((numAt l 108 8).2 == 0))] 4 (0, 0)) ∧ But v2.heap.size cB v2 V) 33 rfl 12 #[.int .i64 108, .int .i64 8, .pointer (some ⟨w.heap.size, 0, none⟩), .pointer (some ⟨cB, 0, none⟩)] (by kernel_rfl) ((refNum_any l w.heap.size cB 108 8 (false || !((numAt l 100 8).2 == 0)) (by omega) (by omega) _ hv2.out.str hv2.out.box).mono (by rintro e V ⟨he, hx, hb⟩; exact ⟨_, he, rfl, hx, hb⟩)) ?_
            rintro _ v3 ⟨rfl, hx4, h4⟩
            have hv3 := Lib.hid (hv2.out.num h4 hx4)
            refine hK.out _ _ hv3.out.str (fun hHeld => ?_)
            clear hK h4
            (try simp only [Act.put]); (try simp only [List.setIfInBounds_toArray]); (try simp only [List.set_cons_succ]); (try simp only [List.set_cons_zero])
            refine wpAnyH_ready (rs := [7, 17]) (by kernel_rfl) (by simp) ?_
            refine AllReadyH.cons rfl (fun K hK => ?_) ?_
            · rw [if_pos (by rfl)]
              refine call_at (R := fun v V => v = .int .i64 (numAt l 116 8).1 ∧ V.heap[cB]? = some (.cells #[.bool (((false || !((numAt l 100 8).2 == 0)) || !((numAt l 108 8).2 == 0)) || !((numAt l 116 8).2 == 0))] 4 (0, 0)) ∧ But v3.heap.size cB v3 V) 35 rfl 12 #[.int .i64 116, .int .i64 8, .pointer (some ⟨w.heap.size, 0, none⟩), .pointer (some ⟨cB, 0, none⟩)] (by kernel_rfl) ((refNum_any l w.heap.size cB 116 8 ((false || !((numAt l 100 8).2 == 0)) || !((numAt l 108 8).2 == 0)) (by omega) (by omega) _ hv3.out.str hv3.out.box).mono (by rintro e V ⟨he, hx, hb⟩; exact ⟨_, he, rfl, hx, hb⟩)) ?_
              rintro _ v4 ⟨rfl, hx4, h4⟩
              have hv4 := Lib.hid (hv3.out.num h4 hx4)
              refine hK.out _ _ hv4.out.str (fun hHeld => ?_)
              clear hK h4
              (try simp only [Act.put]); (try simp only [List.setIfInBounds_toArray]); (try simp only [List.set_cons_succ]); (try simp only [List.set_cons_zero])
              refine wpAnyH_ready (rs := [9, 17]) (by kernel_rfl) (by simp) ?_
              refine AllReadyH.cons rfl (fun K hK => ?_) ?_
              · rw [if_pos (by rfl)]
                refine call_at (R := fun v V => v = .int .i64 (numAt l 124 12).1 ∧ V.heap[cB]? = some (.cells #[.bool ((((false || !((numAt l 100 8).2 == 0)) || !((numAt l 108 8).2 == 0)) || !((numAt l 116 8).2 == 0)) || !((numAt l 124 12).2 == 0))] 4 (0, 0)) ∧ But v4.heap.size cB v4 V) 37 rfl 12 #[.int .i64 124, .int .i64 12, .pointer (some ⟨w.heap.size, 0, none⟩), .pointer (some ⟨cB, 0, none⟩)] (by kernel_rfl) ((refNum_any l w.heap.size cB 124 12 (((false || !((numAt l 100 8).2 == 0)) || !((numAt l 108 8).2 == 0)) || !((numAt l 116 8).2 == 0)) (by omega) (by omega) _ hv4.out.str hv4.out.box).mono (by rintro e V ⟨he, hx, hb⟩; exact ⟨_, he, rfl, hx, hb⟩)) ?_
                rintro _ v5 ⟨rfl, hx4, h4⟩
                have hv5 := Lib.hid (hv4.out.num h4 hx4)
                refine hK.out _ _ hv5.out.str (fun hHeld => ?_)
                clear hK h4
                (try simp only [Act.put]); (try simp only [List.setIfInBounds_toArray]); (try simp only [List.set_cons_succ]); (try simp only [List.set_cons_zero])
                refine wpAnyH_ready (rs := [11, 17]) (by kernel_rfl) (by simp) ?_
                refine AllReadyH.cons rfl (fun K hK => ?_) ?_
                · rw [if_pos (by rfl)]
                  refine call_at (R := fun v V => v = .int .i64 (numAt l 136 12).1 ∧ V.heap[cB]? = some (.cells #[.bool (((((false || !((numAt l 100 8).2 == 0)) || !((numAt l 108 8).2 == 0)) || !((numAt l 116 8).2 == 0)) || !((numAt l 124 12).2 == 0)) || !((numAt l 136 12).2 == 0))] 4 (0, 0)) ∧ But v5.heap.size cB v5 V) 39 rfl 12 #[.int .i64 136, .int .i64 12, .pointer (some ⟨w.heap.size, 0, none⟩), .pointer (some ⟨cB, 0, none⟩)] (by kernel_rfl) ((refNum_any l w.heap.size cB 136 12 ((((false || !((numAt l 100 8).2 == 0)) || !((numAt l 108 8).2 == 0)) || !((numAt l 116 8).2 == 0)) || !((numAt l 124 12).2 == 0)) (by omega) (by omega) _ hv5.out.str hv5.out.box).mono (by rintro e V ⟨he, hx, hb⟩; exact ⟨_, he, rfl, hx, hb⟩)) ?_
                  rintro _ v6 ⟨rfl, hx4, h4⟩
                  have hv6 := Lib.hid (hv5.out.num h4 hx4)
                  refine hK.out _ _ hv6.out.str (fun hHeld => ?_)
                  clear hK h4
                  (try simp only [Act.put]); (try simp only [List.setIfInBounds_toArray]); (try simp only [List.set_cons_succ]); (try simp only [List.set_cons_zero])
                  refine wpAnyH_ready (rs := [15, 17]) (by kernel_rfl) (by simp) ?_
                  refine AllReadyH.cons rfl (fun K hK => ?_) ?_
                  · rw [if_pos (by rfl)]
                    refine call_at (R := fun v V => v = .string (mkS (cutZ (sub l 157 100))) ∧ Below v6.heap.size v6 V) 43 rfl 10 #[.int .i64 157, .int .i64 100, .pointer (some ⟨w.heap.size, 0, none⟩)] (by kernel_rfl) ((refText_any l w.heap.size 157 100 (by omega) (by omega) _ hv6.out.str).mono (by rintro e V ⟨he, hb⟩; exact ⟨_, he, rfl, hb⟩)) ?_
                    rintro _ v7 ⟨rfl, h4⟩
                    have hv7 := Lib.hid (hv6.out.text h4)
                    refine hK.out _ _ hv7.out.str (fun hHeld => ?_)
                    clear hK h4
                    (try simp only [Act.put]); (try simp only [List.setIfInBounds_toArray]); (try simp only [List.set_cons_succ]); (try simp only [List.set_cons_zero])
                    refine take_to (i := 16) 44 (.agg #[.string (mkS (cutZ (sub l 0 100))), .string (mkS (cutZ (sub l 157 100))), .string ⟨#[]⟩, .string ⟨#[]⟩, .string ⟨#[]⟩, .int .u8 (c.toNat : Int), .int .i64 (numAt l 100 8).1, .int .i64 (numAt l 108 8).1, .int .i64 (numAt l 116 8).1, .int .i64 (numAt l 124 12).1, .int .i64 (numAt l 136 12).1, .int .i64 0, .int .i64 0]) rfl rfl (by kernel_rfl) (by kernel_rfl) (by kernel_rfl) (fun _ _ _ h => h) (Or.inl ⟨by rfl, fun _ _ => by kernel_rfl⟩) (by assumption) ?_
                    simp only [List.setIfInBounds_toArray, List.set_cons_succ, List.set_cons_zero]
                    refine wpAnyH_ready (rs := [17]) (by kernel_rfl) (by simp) ?_
                    refine AllReadyH.cons rfl (fun K hK => ?_) ?_
                    · rw [if_pos (by rfl)]
                      refine alloc_row_to 9 rfl _ rfl _ (zeroRef _) ?_
                      have hv8 := Lib.hid (hv7.out.alloc (.cells #[.string ⟨#[]⟩, .string ⟨#[]⟩, .string ⟨#[]⟩, .string ⟨#[]⟩, .string ⟨#[]⟩, .int .u8 0, .int .i64 0, .int .i64 0, .int .i64 0, .int .i64 0, .int .i64 0, .int .i64 0, .int .i64 0] 23))
                      have hqv8 := Lib.hid (heap_alloc_new v7 (.cells #[.string ⟨#[]⟩, .string ⟨#[]⟩, .string ⟨#[]⟩, .string ⟨#[]⟩, .string ⟨#[]⟩, .int .u8 0, .int .i64 0, .int .i64 0, .int .i64 0, .int .i64 0, .int .i64 0, .int .i64 0, .int .i64 0] 23))
                      have hb := Lib.hid (hv7.out.below_box)
                      refine hK.out _ _ hv8.out.str (fun hHeld => ?_)
                      clear hK
                      (try simp only [Act.put]); (try simp only [List.setIfInBounds_toArray]); (try simp only [List.set_cons_succ]); (try simp only [List.set_cons_zero])
                      generalize v7.alloc (.cells #[.string ⟨#[]⟩, .string ⟨#[]⟩, .string ⟨#[]⟩, .string ⟨#[]⟩, .string ⟨#[]⟩, .int .u8 0, .int .i64 0, .int .i64 0, .int .i64 0, .int .i64 0, .int .i64 0, .int .i64 0, .int .i64 0] 23) = v8 at *
                      generalize v7.heap.size = b0 at *
                      refine wpAnyH_ready (rs := [18]) (by kernel_rfl) (by simp) ?_
                      refine AllReadyH.cons rfl (fun K hK => ?_) AllReadyH.nil
                      rw [if_pos (by rfl)]
                      refine store_row_no rfl _ _ _ rfl b0 #[.string (mkS (cutZ (sub l 0 100))), .string (mkS (cutZ (sub l 157 100))), .string ⟨#[]⟩, .string ⟨#[]⟩, .string ⟨#[]⟩, .int .u8 (c.toNat : Int), .int .i64 (numAt l 100 8).1, .int .i64 (numAt l 108 8).1, .int .i64 (numAt l 116 8).1, .int .i64 (numAt l 124 12).1, .int .i64 (numAt l 136 12).1, .int .i64 0, .int .i64 0] rfl rfl _ _ hqv8.out infoRef rfl (by kernel_rfl) ?_
                      have h9 := Lib.hid (hv8.out.set hb.out #[.string (mkS (cutZ (sub l 0 100))), .string (mkS (cutZ (sub l 157 100))), .string ⟨#[]⟩, .string ⟨#[]⟩, .string ⟨#[]⟩, .int .u8 (c.toNat : Int), .int .i64 (numAt l 100 8).1, .int .i64 (numAt l 108 8).1, .int .i64 (numAt l 116 8).1, .int .i64 (numAt l 124 12).1, .int .i64 (numAt l 136 12).1, .int .i64 0, .int .i64 0])
                      have hq9 := Lib.hid (setRow_heap v8 _ _ #[.string (mkS (cutZ (sub l 0 100))), .string (mkS (cutZ (sub l 157 100))), .string ⟨#[]⟩, .string ⟨#[]⟩, .string ⟨#[]⟩, .int .u8 (c.toNat : Int), .int .i64 (numAt l 100 8).1, .int .i64 (numAt l 108 8).1, .int .i64 (numAt l 116 8).1, .int .i64 (numAt l 124 12).1, .int .i64 (numAt l 136 12).1, .int .i64 0, .int .i64 0] _ _ hqv8.out)
                      refine hK.out _ _ h9.out.str (fun hHeld => ?_)
                      clear hK
                      (try simp only [Act.put]); (try simp only [List.setIfInBounds_toArray]); (try simp only [List.set_cons_succ]); (try simp only [List.set_cons_zero])
                      refine wpAnyH_done (by kernel_rfl) ?_ _
                      go_wp2_with fail
                      go_meet
                      exact ⟨b0, rfl, hb.out, h9.out, hq9.out⟩
                    exact AllReadyH.nil
                  refine AllReadyH.cons rfl (fun K hK => ?_) ?_
                  · rw [if_pos (by rfl)]
                    refine alloc_row_to 9 rfl _ rfl _ (zeroRef _) ?_
                    have hv9 := Lib.hid (hv6.out.alloc (.cells #[.string ⟨#[]⟩, .string ⟨#[]⟩, .string ⟨#[]⟩, .string ⟨#[]⟩, .string ⟨#[]⟩, .int .u8 0, .int .i64 0, .int .i64 0, .int .i64 0, .int .i64 0, .int .i64 0, .int .i64 0, .int .i64 0] 23))
                    have hqv9 := Lib.hid (heap_alloc_new v6 (.cells #[.string ⟨#[]⟩, .string ⟨#[]⟩, .string ⟨#[]⟩, .string ⟨#[]⟩, .string ⟨#[]⟩, .int .u8 0, .int .i64 0, .int .i64 0, .int .i64 0, .int .i64 0, .int .i64 0, .int .i64 0, .int .i64 0] 23))
                    have hb := Lib.hid (hv6.out.below_box)
                    refine hK.out _ _ hv9.out.str (fun hHeld => ?_)
                    clear hK
                    (try simp only [Act.put]); (try simp only [List.setIfInBounds_toArray]); (try simp only [List.set_cons_succ]); (try simp only [List.set_cons_zero])
                    generalize v6.alloc (.cells #[.string ⟨#[]⟩, .string ⟨#[]⟩, .string ⟨#[]⟩, .string ⟨#[]⟩, .string ⟨#[]⟩, .int .u8 0, .int .i64 0, .int .i64 0, .int .i64 0, .int .i64 0, .int .i64 0, .int .i64 0, .int .i64 0] 23) = v9 at *
                    generalize v6.heap.size = b0 at *
                    refine wpAnyH_ready (rs := [15]) (by kernel_rfl) (by simp) ?_
                    refine AllReadyH.cons rfl (fun K hK => ?_) ?_
                    · rw [if_pos (by rfl)]
                      refine call_at (R := fun v V => v = .string (mkS (cutZ (sub l 157 100))) ∧ Below v9.heap.size v9 V) 43 rfl 10 #[.int .i64 157, .int .i64 100, .pointer (some ⟨w.heap.size, 0, none⟩)] (by kernel_rfl) ((refText_any l w.heap.size 157 100 (by omega) (by omega) _ hv9.out.str).mono (by rintro e V ⟨he, hb⟩; exact ⟨_, he, rfl, hb⟩)) ?_
                      rintro _ v10 ⟨rfl, h4⟩
                      have hv10 := Lib.hid (hv9.out.text h4)
                      have hqv10 := Lib.hid ((h4.block b0 (Array.getElem?_eq_some_iff.1 hqv9.out).1).trans hqv9.out)
                      refine hK.out _ _ hv10.out.str (fun hHeld => ?_)
                      clear hK h4
                      (try simp only [Act.put]); (try simp only [List.setIfInBounds_toArray]); (try simp only [List.set_cons_succ]); (try simp only [List.set_cons_zero])
                      refine take_to (i := 16) 44 (.agg #[.string (mkS (cutZ (sub l 0 100))), .string (mkS (cutZ (sub l 157 100))), .string ⟨#[]⟩, .string ⟨#[]⟩, .string ⟨#[]⟩, .int .u8 (c.toNat : Int), .int .i64 (numAt l 100 8).1, .int .i64 (numAt l 108 8).1, .int .i64 (numAt l 116 8).1, .int .i64 (numAt l 124 12).1, .int .i64 (numAt l 136 12).1, .int .i64 0, .int .i64 0]) rfl rfl (by kernel_rfl) (by kernel_rfl) (by kernel_rfl) (fun _ _ _ h => h) (Or.inl ⟨by rfl, fun _ _ => by kernel_rfl⟩) (by assumption) ?_
                      simp only [List.setIfInBounds_toArray, List.set_cons_succ, List.set_cons_zero]
                      refine wpAnyH_ready (rs := [18]) (by kernel_rfl) (by simp) ?_
                      refine AllReadyH.cons rfl (fun K hK => ?_) AllReadyH.nil
                      rw [if_pos (by rfl)]
                      refine store_row_no rfl _ _ _ rfl b0 #[.string (mkS (cutZ (sub l 0 100))), .string (mkS (cutZ (sub l 157 100))), .string ⟨#[]⟩, .string ⟨#[]⟩, .string ⟨#[]⟩, .int .u8 (c.toNat : Int), .int .i64 (numAt l 100 8).1, .int .i64 (numAt l 108 8).1, .int .i64 (numAt l 116 8).1, .int .i64 (numAt l 124 12).1, .int .i64 (numAt l 136 12).1, .int .i64 0, .int .i64 0] rfl rfl _ _ hqv10.out infoRef rfl (by kernel_rfl) ?_
                      have h9 := Lib.hid (hv10.out.set hb.out #[.string (mkS (cutZ (sub l 0 100))), .string (mkS (cutZ (sub l 157 100))), .string ⟨#[]⟩, .string ⟨#[]⟩, .string ⟨#[]⟩, .int .u8 (c.toNat : Int), .int .i64 (numAt l 100 8).1, .int .i64 (numAt l 108 8).1, .int .i64 (numAt l 116 8).1, .int .i64 (numAt l 124 12).1, .int .i64 (numAt l 136 12).1, .int .i64 0, .int .i64 0])
                      have hq9 := Lib.hid (setRow_heap v10 _ _ #[.string (mkS (cutZ (sub l 0 100))), .string (mkS (cutZ (sub l 157 100))), .string ⟨#[]⟩, .string ⟨#[]⟩, .string ⟨#[]⟩, .int .u8 (c.toNat : Int), .int .i64 (numAt l 100 8).1, .int .i64 (numAt l 108 8).1, .int .i64 (numAt l 116 8).1, .int .i64 (numAt l 124 12).1, .int .i64 (numAt l 136 12).1, .int .i64 0, .int .i64 0] _ _ hqv10.out)
                      refine hK.out _ _ h9.out.str (fun hHeld => ?_)
                      clear hK
                      (try simp only [Act.put]); (try simp only [List.setIfInBounds_toArray]); (try simp only [List.set_cons_succ]); (try simp only [List.set_cons_zero])
                      refine wpAnyH_done (by kernel_rfl) ?_ _
                      go_wp2_with fail
                      go_meet
                      exact ⟨b0, rfl, hb.out, h9.out, hq9.out⟩
                    exact AllReadyH.nil
                  exact AllReadyH.nil
                refine AllReadyH.cons rfl (fun K hK => ?_) ?_
                · rw [if_pos (by rfl)]
                  refine alloc_row_to 9 rfl _ rfl _ (zeroRef _) ?_
                  have hv11 := Lib.hid (hv5.out.alloc (.cells #[.string ⟨#[]⟩, .string ⟨#[]⟩, .string ⟨#[]⟩, .string ⟨#[]⟩, .string ⟨#[]⟩, .int .u8 0, .int .i64 0, .int .i64 0, .int .i64 0, .int .i64 0, .int .i64 0, .int .i64 0, .int .i64 0] 23))
                  have hqv11 := Lib.hid (heap_alloc_new v5 (.cells #[.string ⟨#[]⟩, .string ⟨#[]⟩, .string ⟨#[]⟩, .string ⟨#[]⟩, .string ⟨#[]⟩, .int .u8 0, .int .i64 0, .int .i64 0, .int .i64 0, .int .i64 0, .int .i64 0, .int .i64 0, .int .i64 0] 23))
                  have hb := Lib.hid (hv5.out.below_box)
                  refine hK.out _ _ hv11.out.str (fun hHeld => ?_)
                  clear hK
                  (try simp only [Act.put]); (try simp only [List.setIfInBounds_toArray]); (try simp only [List.set_cons_succ]); (try simp only [List.set_cons_zero])
                  generalize v5.alloc (.cells #[.string ⟨#[]⟩, .string ⟨#[]⟩, .string ⟨#[]⟩, .string ⟨#[]⟩, .string ⟨#[]⟩, .int .u8 0, .int .i64 0, .int .i64 0, .int .i64 0, .int .i64 0, .int .i64 0, .int .i64 0, .int .i64 0] 23) = v11 at *
                  generalize v5.heap.size = b0 at *
                  refine wpAnyH_ready (rs := [11]) (by kernel_rfl) (by simp) ?_
                  refine AllReadyH.cons rfl (fun K hK => ?_) ?_
                  · rw [if_pos (by rfl)]
                    refine call_at (R := fun v V => v = .int .i64 (numAt l 136 12).1 ∧ V.heap[cB]? = some (.cells #[.bool (((((false || !((numAt l 100 8).2 == 0)) || !((numAt l 108 8).2 == 0)) || !((numAt l 116 8).2 == 0)) || !((numAt l 124 12).2 == 0)) || !((numAt l 136 12).2 == 0))] 4 (0, 0)) ∧ But v11.heap.size cB v11 V) 39 rfl 12 #[.int .i64 136, .int .i64 12, .pointer (some ⟨w.heap.size, 0, none⟩), .pointer (some ⟨cB, 0, none⟩)] (by kernel_rfl) ((refNum_any l w.heap.size cB 136 12 ((((false || !((numAt l 100 8).2 == 0)) || !((numAt l 108 8).2 == 0)) || !((numAt l 116 8).2 == 0)) || !((numAt l 124 12).2 == 0)) (by omega) (by omega) _ hv11.out.str hv11.out.box).mono (by rintro e V ⟨he, hx, hb⟩; exact ⟨_, he, rfl, hx, hb⟩)) ?_
                    rintro _ v12 ⟨rfl, hx4, h4⟩
                    have hv12 := Lib.hid (hv11.out.num h4 hx4)
                    have hqv12 := Lib.hid ((h4.block b0 (Array.getElem?_eq_some_iff.1 hqv11.out).1 (Nat.ne_of_gt hb.out)).trans hqv11.out)
                    refine hK.out _ _ hv12.out.str (fun hHeld => ?_)
                    clear hK h4
                    (try simp only [Act.put]); (try simp only [List.setIfInBounds_toArray]); (try simp only [List.set_cons_succ]); (try simp only [List.set_cons_zero])
                    refine wpAnyH_ready (rs := [15]) (by kernel_rfl) (by simp) ?_
                    refine AllReadyH.cons rfl (fun K hK => ?_) ?_
                    · rw [if_pos (by rfl)]
                      refine call_at (R := fun v V => v = .string (mkS (cutZ (sub l 157 100))) ∧ Below v12.heap.size v12 V) 43 rfl 10 #[.int .i64 157, .int .i64 100, .pointer (some ⟨w.heap.size, 0, none⟩)] (by kernel_rfl) ((refText_any l w.heap.size 157 100 (by omega) (by omega) _ hv12.out.str).mono (by rintro e V ⟨he, hb⟩; exact ⟨_, he, rfl, hb⟩)) ?_
                      rintro _ v13 ⟨rfl, h4⟩
                      have hv13 := Lib.hid (hv12.out.text h4)
                      have hqv13 := Lib.hid ((h4.block b0 (Array.getElem?_eq_some_iff.1 hqv12.out).1).trans hqv12.out)
                      refine hK.out _ _ hv13.out.str (fun hHeld => ?_)
                      clear hK h4
                      (try simp only [Act.put]); (try simp only [List.setIfInBounds_toArray]); (try simp only [List.set_cons_succ]); (try simp only [List.set_cons_zero])
                      refine take_to (i := 16) 44 (.agg #[.string (mkS (cutZ (sub l 0 100))), .string (mkS (cutZ (sub l 157 100))), .string ⟨#[]⟩, .string ⟨#[]⟩, .string ⟨#[]⟩, .int .u8 (c.toNat : Int), .int .i64 (numAt l 100 8).1, .int .i64 (numAt l 108 8).1, .int .i64 (numAt l 116 8).1, .int .i64 (numAt l 124 12).1, .int .i64 (numAt l 136 12).1, .int .i64 0, .int .i64 0]) rfl rfl (by kernel_rfl) (by kernel_rfl) (by kernel_rfl) (fun _ _ _ h => h) (Or.inl ⟨by rfl, fun _ _ => by kernel_rfl⟩) (by assumption) ?_
                      simp only [List.setIfInBounds_toArray, List.set_cons_succ, List.set_cons_zero]
                      refine wpAnyH_ready (rs := [18]) (by kernel_rfl) (by simp) ?_
                      refine AllReadyH.cons rfl (fun K hK => ?_) AllReadyH.nil
                      rw [if_pos (by rfl)]
                      refine store_row_no rfl _ _ _ rfl b0 #[.string (mkS (cutZ (sub l 0 100))), .string (mkS (cutZ (sub l 157 100))), .string ⟨#[]⟩, .string ⟨#[]⟩, .string ⟨#[]⟩, .int .u8 (c.toNat : Int), .int .i64 (numAt l 100 8).1, .int .i64 (numAt l 108 8).1, .int .i64 (numAt l 116 8).1, .int .i64 (numAt l 124 12).1, .int .i64 (numAt l 136 12).1, .int .i64 0, .int .i64 0] rfl rfl _ _ hqv13.out infoRef rfl (by kernel_rfl) ?_
                      have h9 := Lib.hid (hv13.out.set hb.out #[.string (mkS (cutZ (sub l 0 100))), .string (mkS (cutZ (sub l 157 100))), .string ⟨#[]⟩, .string ⟨#[]⟩, .string ⟨#[]⟩, .int .u8 (c.toNat : Int), .int .i64 (numAt l 100 8).1, .int .i64 (numAt l 108 8).1, .int .i64 (numAt l 116 8).1, .int .i64 (numAt l 124 12).1, .int .i64 (numAt l 136 12).1, .int .i64 0, .int .i64 0])
                      have hq9 := Lib.hid (setRow_heap v13 _ _ #[.string (mkS (cutZ (sub l 0 100))), .string (mkS (cutZ (sub l 157 100))), .string ⟨#[]⟩, .string ⟨#[]⟩, .string ⟨#[]⟩, .int .u8 (c.toNat : Int), .int .i64 (numAt l 100 8).1, .int .i64 (numAt l 108 8).1, .int .i64 (numAt l 116 8).1, .int .i64 (numAt l 124 12).1, .int .i64 (numAt l 136 12).1, .int .i64 0, .int .i64 0] _ _ hqv13.out)
                      refine hK.out _ _ h9.out.str (fun hHeld => ?_)
                      clear hK
                      (try simp only [Act.put]); (try simp only [List.setIfInBounds_toArray]); (try simp only [List.set_cons_succ]); (try simp only [List.set_cons_zero])
                      refine wpAnyH_done (by kernel_rfl) ?_ _
                      go_wp2_with fail
                      go_meet
                      exact ⟨b0, rfl, hb.out, h9.out, hq9.out⟩
                    exact AllReadyH.nil
                  exact AllReadyH.nil
                exact AllReadyH.nil
              refine AllReadyH.cons rfl (fun K hK => ?_) ?_
              · rw [if_pos (by rfl)]
                refine alloc_row_to 9 rfl _ rfl _ (zeroRef _) ?_
                have hv14 := Lib.hid (hv4.out.alloc (.cells #[.string ⟨#[]⟩, .string ⟨#[]⟩, .string ⟨#[]⟩, .string ⟨#[]⟩, .string ⟨#[]⟩, .int .u8 0, .int .i64 0, .int .i64 0, .int .i64 0, .int .i64 0, .int .i64 0, .int .i64 0, .int .i64 0] 23))
                have hqv14 := Lib.hid (heap_alloc_new v4 (.cells #[.string ⟨#[]⟩, .string ⟨#[]⟩, .string ⟨#[]⟩, .string ⟨#[]⟩, .string ⟨#[]⟩, .int .u8 0, .int .i64 0, .int .i64 0, .int .i64 0, .int .i64 0, .int .i64 0, .int .i64 0, .int .i64 0] 23))
                have hb := Lib.hid (hv4.out.below_box)
                refine hK.out _ _ hv14.out.str (fun hHeld => ?_)
                clear hK
                (try simp only [Act.put]); (try simp only [List.setIfInBounds_toArray]); (try simp only [List.set_cons_succ]); (try simp only [List.set_cons_zero])
                generalize v4.alloc (.cells #[.string ⟨#[]⟩, .string ⟨#[]⟩, .string ⟨#[]⟩, .string ⟨#[]⟩, .string ⟨#[]⟩, .int .u8 0, .int .i64 0, .int .i64 0, .int .i64 0, .int .i64 0, .int .i64 0, .int .i64 0, .int .i64 0] 23) = v14 at *
                generalize v4.heap.size = b0 at *
                refine wpAnyH_ready (rs := [9]) (by kernel_rfl) (by simp) ?_
                refine AllReadyH.cons rfl (fun K hK => ?_) ?_
                · rw [if_pos (by rfl)]
                  refine call_at (R := fun v V => v = .int .i64 (numAt l 124 12).1 ∧ V.heap[cB]? = some (.cells #[.bool ((((false || !((numAt l 100 8).2 == 0)) || !((numAt l 108 8).2 == 0)) || !((numAt l 116 8).2 == 0)) || !((numAt l 124 12).2 == 0))] 4 (0, 0)) ∧ But v14.heap.size cB v14 V) 37 rfl 12 #[.int .i64 124, .int .i64 12, .pointer (some ⟨w.heap.size, 0, none⟩), .pointer (some ⟨cB, 0, none⟩)] (by kernel_rfl) ((refNum_any l w.heap.size cB 124 12 (((false || !((numAt l 100 8).2 == 0)) || !((numAt l 108 8).2 == 0)) || !((numAt l 116 8).2 == 0)) (by omega) (by omega) _ hv14.out.str hv14.out.box).mono (by rintro e V ⟨he, hx, hb⟩; exact ⟨_, he, rfl, hx, hb⟩)) ?_
                  rintro _ v15 ⟨rfl, hx4, h4⟩
                  have hv15 := Lib.hid (hv14.out.num h4 hx4)
                  have hqv15 := Lib.hid ((h4.block b0 (Array.getElem?_eq_some_iff.1 hqv14.out).1 (Nat.ne_of_gt hb.out)).trans hqv14.out)
                  refine hK.out _ _ hv15.out.str (fun hHeld => ?_)
                  clear hK h4
                  (try simp only [Act.put]); (try simp only [List.setIfInBounds_toArray]); (try simp only [List.set_cons_succ]); (try simp only [List.set_cons_zero])
                  refine wpAnyH_ready (rs := [11]) (by kernel_rfl) (by simp) ?_
                  refine AllReadyH.cons rfl (fun K hK => ?_) ?_
                  · rw [if_pos (by rfl)]
                    refine call_at (R := fun v V => v = .int .i64 (numAt l 136 12).1 ∧ V.heap[cB]? = some (.cells #[.bool (((((false || !((numAt l 100 8).2 == 0)) || !((numAt l 108 8).2 == 0)) || !((numAt l 116 8).2 == 0)) || !((numAt l 124 12).2 == 0)) || !((numAt l 136 12).2 == 0))] 4 (0, 0)) ∧ But v15.heap.size cB v15 V) 39 rfl 12 #[.int .i64 136, .int .i64 12, .pointer (some ⟨w.heap.size, 0, none⟩), .pointer (some ⟨cB, 0, none⟩)] (by kernel_rfl) ((refNum_any l w.heap.size cB 136 12 ((((false || !((numAt l 100 8).2 == 0)) || !((numAt l 108 8).2 == 0)) || !((numAt l 116 8).2 == 0)) || !((numAt l 124 12).2 == 0)) (by omega) (by omega) _ hv15.out.str hv15.out.box).mono (by rintro e V ⟨he, hx, hb⟩; exact ⟨_, he, rfl, hx, hb⟩)) ?_
                    rintro _ v16 ⟨rfl, hx4, h4⟩
                    have hv16 := Lib.hid (hv15.out.num h4 hx4)
                    have hqv16 := Lib.hid ((h4.block b0 (Array.getElem?_eq_some_iff.1 hqv15.out).1 (Nat.ne_of_gt hb.out)).trans hqv15.out)
                    refine hK.out _ _ hv16.out.str (fun hHeld => ?_)
                    clear hK h4
                    (try simp only [Act.put]); (try simp only [List.setIfInBounds_toArray]); (try simp only [List.set_cons_succ]); (try simp only [List.set_cons_zero])
                    refine wpAnyH_ready (rs := [15]) (by kernel_rfl) (by simp) ?_
                    refine AllReadyH.cons rfl (fun K hK => ?_) ?_
                    · rw [if_pos (by rfl)]
                      refine call_at (R := fun v V => v = .string (mkS (cutZ (sub l 157 100))) ∧ Below v16.heap.size v16 V) 43 rfl 10 #[.int .i64 157, .int .i64 100, .pointer (some ⟨w.heap.size, 0, none⟩)] (by kernel_rfl) ((refText_any l w.heap.size 157 100 (by omega) (by omega) _ hv16.out.str).mono (by rintro e V ⟨he, hb⟩; exact ⟨_, he, rfl, hb⟩)) ?_
                      rintro _ v17 ⟨rfl, h4⟩
                      have hv17 := Lib.hid (hv16.out.text h4)
                      have hqv17 := Lib.hid ((h4.block b0 (Array.getElem?_eq_some_iff.1 hqv16.out).1).trans hqv16.out)
                      refine hK.out _ _ hv17.out.str (fun hHeld => ?_)
                      clear hK h4
                      (try simp only [Act.put]); (try simp only [List.setIfInBounds_toArray]); (try simp only [List.set_cons_succ]); (try simp only [List.set_cons_zero])
                      refine take_to (i := 16) 44 (.agg #[.string (mkS (cutZ (sub l 0 100))), .string (mkS (cutZ (sub l 157 100))), .string ⟨#[]⟩, .string ⟨#[]⟩, .string ⟨#[]⟩, .int .u8 (c.toNat : Int), .int .i64 (numAt l 100 8).1, .int .i64 (numAt l 108 8).1, .int .i64 (numAt l 116 8).1, .int .i64 (numAt l 124 12).1, .int .i64 (numAt l 136 12).1, .int .i64 0, .int .i64 0]) rfl rfl (by kernel_rfl) (by kernel_rfl) (by kernel_rfl) (fun _ _ _ h => h) (Or.inl ⟨by rfl, fun _ _ => by kernel_rfl⟩) (by assumption) ?_
                      simp only [List.setIfInBounds_toArray, List.set_cons_succ, List.set_cons_zero]
                      refine wpAnyH_ready (rs := [18]) (by kernel_rfl) (by simp) ?_
                      refine AllReadyH.cons rfl (fun K hK => ?_) AllReadyH.nil
                      rw [if_pos (by rfl)]
                      refine store_row_no rfl _ _ _ rfl b0 #[.string (mkS (cutZ (sub l 0 100))), .string (mkS (cutZ (sub l 157 100))), .string ⟨#[]⟩, .string ⟨#[]⟩, .string ⟨#[]⟩, .int .u8 (c.toNat : Int), .int .i64 (numAt l 100 8).1, .int .i64 (numAt l 108 8).1, .int .i64 (numAt l 116 8).1, .int .i64 (numAt l 124 12).1, .int .i64 (numAt l 136 12).1, .int .i64 0, .int .i64 0] rfl rfl _ _ hqv17.out infoRef rfl (by kernel_rfl) ?_
                      have h9 := Lib.hid (hv17.out.set hb.out #[.string (mkS (cutZ (sub l 0 100))), .string (mkS (cutZ (sub l 157 100))), .string ⟨#[]⟩, .string ⟨#[]⟩, .string ⟨#[]⟩, .int .u8 (c.toNat : Int), .int .i64 (numAt l 100 8).1, .int .i64 (numAt l 108 8).1, .int .i64 (numAt l 116 8).1, .int .i64 (numAt l 124 12).1, .int .i64 (numAt l 136 12).1, .int .i64 0, .int .i64 0])
                      have hq9 := Lib.hid (setRow_heap v17 _ _ #[.string (mkS (cutZ (sub l 0 100))), .string (mkS (cutZ (sub l 157 100))), .string ⟨#[]⟩, .string ⟨#[]⟩, .string ⟨#[]⟩, .int .u8 (c.toNat : Int), .int .i64 (numAt l 100 8).1, .int .i64 (numAt l 108 8).1, .int .i64 (numAt l 116 8).1, .int .i64 (numAt l 124 12).1, .int .i64 (numAt l 136 12).1, .int .i64 0, .int .i64 0] _ _ hqv17.out)
                      refine hK.out _ _ h9.out.str (fun hHeld => ?_)
                      clear hK
                      (try simp only [Act.put]); (try simp only [List.setIfInBounds_toArray]); (try simp only [List.set_cons_succ]); (try simp only [List.set_cons_zero])
                      refine wpAnyH_done (by kernel_rfl) ?_ _
                      go_wp2_with fail
                      go_meet
                      exact ⟨b0, rfl, hb.out, h9.out, hq9.out⟩
                    exact AllReadyH.nil
                  exact AllReadyH.nil
                exact AllReadyH.nil
              exact AllReadyH.nil
            refine AllReadyH.cons rfl (fun K hK => ?_) ?_
            · rw [if_pos (by rfl)]
              refine alloc_row_to 9 rfl _ rfl _ (zeroRef _) ?_
              have hv18 := Lib.hid (hv3.out.alloc (.cells #[.string ⟨#[]⟩, .string ⟨#[]⟩, .string ⟨#[]⟩, .string ⟨#[]⟩, .string ⟨#[]⟩, .int .u8 0, .int .i64 0, .int .i64 0, .int .i64 0, .int .i64 0, .int .i64 0, .int .i64 0, .int .i64 0] 23))
              have hqv18 := Lib.hid (heap_alloc_new v3 (.cells #[.string ⟨#[]⟩, .string ⟨#[]⟩, .string ⟨#[]⟩, .string ⟨#[]⟩, .string ⟨#[]⟩, .int .u8 0, .int .i64 0, .int .i64 0, .int .i64 0, .int .i64 0, .int .i64 0, .int .i64 0, .int .i64 0] 23))
              have hb := Lib.hid (hv3.out.below_box)
              refine hK.out _ _ hv18.out.str (fun hHeld => ?_)
              clear hK
              (try simp only [Act.put]); (try simp only [List.setIfInBounds_toArray]); (try simp only [List.set_cons_succ]); (try simp only [List.set_cons_zero])
              generalize v3.alloc (.cells #[.string ⟨#[]⟩, .string ⟨#[]⟩, .string ⟨#[]⟩, .string ⟨#[]⟩, .string ⟨#[]⟩, .int .u8 0, .int .i64 0, .int .i64 0, .int .i64 0, .int .i64 0, .int .i64 0, .int .i64 0, .int .i64 0] 23) = v18 at *
              generalize v3.heap.size = b0 at *
              refine wpAnyH_ready (rs := [7]) (by kernel_rfl) (by simp) ?_
              refine AllReadyH.cons rfl (fun K hK => ?_) ?_
              · rw [if_pos (by rfl)]
                refine call_at (R := fun v V => v = .int .i64 (numAt l 116 8).1 ∧ V.heap[cB]? = some (.cells #[.bool (((false || !((numAt l 100 8).2 == 0)) || !((numAt l 108 8).2 == 0)) || !((numAt l 116 8).2 == 0))] 4 (0, 0)) ∧ But v18.heap.size cB v18 V) 35 rfl 12 #[.int .i64 116, .int .i64 8, .pointer (some ⟨w.heap.size, 0, none⟩), .pointer (some ⟨cB, 0, none⟩)] (by kernel_rfl) ((refNum_any l w.heap.size cB 116 8 ((false || !((numAt l 100 8).2 == 0)) || !((numAt l 108 8).2 == 0)) (by omega) (by omega) _ hv18.out.str hv18.out.box).mono (by rintro e V ⟨he, hx, hb⟩; exact ⟨_, he, rfl, hx, hb⟩)) ?_
                rintro _ v19 ⟨rfl, hx4, h4⟩
                have hv19 := Lib.hid (hv18.out.num h4 hx4)
                have hqv19 := Lib.hid ((h4.block b0 (Array.getElem?_eq_some_iff.1 hqv18.out).1 (Nat.ne_of_gt hb.out)).trans hqv18.out)
                refine hK.out _ _ hv19.out.str (fun hHeld => ?_)
                clear hK h4
                (try simp only [Act.put]); (try simp only [List.setIfInBounds_toArray]); (try simp only [List.set_cons_succ]); (try simp only [List.set_cons_zero])
                refine wpAnyH_ready (rs := [9]) (by kernel_rfl) (by simp) ?_
                refine AllReadyH.cons rfl (fun K hK => ?_) ?_
                · rw [if_pos (by rfl)]
                  refine call_at (R := fun v V => v = .int .i64 (numAt l 124 12).1 ∧ V.heap[cB]? = some (.cells #[.bool ((((false || !((numAt l 100 8).2 == 0)) || !((numAt l 108 8).2 == 0)) || !((numAt l 116 8).2 == 0)) || !((numAt l 124 12).2 == 0))] 4 (0, 0)) ∧ But v19.heap.size cB v19 V) 37 rfl 12 #[.int .i64 124, .int .i64 12, .pointer (some ⟨w.heap.size, 0, none⟩), .pointer (some ⟨cB, 0, none⟩)] (by kernel_rfl) ((refNum_any l w.heap.size cB 124 12 (((false || !((numAt l 100 8).2 == 0)) || !((numAt l 108 8).2 == 0)) || !((numAt l 116 8).2 == 0)) (by omega) (by omega) _ hv19.out.str hv19.out.box).mono (by rintro e V ⟨he, hx, hb⟩; exact ⟨_, he, rfl, hx, hb⟩)) ?_
                  rintro _ v20 ⟨rfl, hx4, h4⟩
                  have hv20 := Lib.hid (hv19.out.num h4 hx4)
                  have hqv20 := Lib.hid ((h4.block b0 (Array.getElem?_eq_some_iff.1 hqv19.out).1 (Nat.ne_of_gt hb.out)).trans hqv19.out)
                  refine hK.out _ _ hv20.out.str (fun hHeld => ?_)
                  clear hK h4
                  (try simp only [Act.put]); (try simp only [List.setIfInBounds_toArray]); (try simp only [List.set_cons_succ]); (try simp only [List.set_cons_zero])
                  refine wpAnyH_ready (rs := [11]) (by kernel_rfl) (by simp) ?_
                  refine AllReadyH.cons rfl (fun K hK => ?_) ?_
                  · rw [if_pos (by rfl)]
                    refine call_at (R := fun v V => v = .int .i64 (numAt l 136 12).1 ∧ V.heap[cB]? = some (.cells #[.bool (((((false || !((numAt l 100 8).2 == 0)) || !((numAt l 108 8).2 == 0)) || !((numAt l 116 8).2 == 0)) || !((numAt l 124 12).2 == 0)) || !((numAt l 136 12).2 == 0))] 4 (0, 0)) ∧ But v20.heap.size cB v20 V) 39 rfl 12 #[.int .i64 136, .int .i64 12, .pointer (some ⟨w.heap.size, 0, none⟩), .pointer (some ⟨cB, 0, none⟩)] (by kernel_rfl) ((refNum_any l w.heap.size cB 136 12 ((((false || !((numAt l 100 8).2 == 0)) || !((numAt l 108 8).2 == 0)) || !((numAt l 116 8).2 == 0)) || !((numAt l 124 12).2 == 0)) (by omega) (by omega) _ hv20.out.str hv20.out.box).mono (by rintro e V ⟨he, hx, hb⟩; exact ⟨_, he, rfl, hx, hb⟩)) ?_
                    rintro _ v21 ⟨rfl, hx4, h4⟩
                    have hv21 := Lib.hid (hv20.out.num h4 hx4)
                    have hqv21 := Lib.hid ((h4.block b0 (Array.getElem?_eq_some_iff.1 hqv20.out).1 (Nat.ne_of_gt hb.out)).trans hqv20.out)
                    refine hK.out _ _ hv21.out.str (fun hHeld => ?_)
                    clear hK h4
                    (try simp only [Act.put]); (try simp only [List.setIfInBounds_toArray]); (try simp only [List.set_cons_succ]); (try simp only [List.set_cons_zero])
                    refine wpAnyH_ready (rs := [15]) (by kernel_rfl) (by simp) ?_
                    refine AllReadyH.cons rfl (fun K hK => ?_) ?_
                    · rw [if_pos (by rfl)]
                      refine call_at (R := fun v V => v = .string (mkS (cutZ (sub l 157 100))) ∧ Below v21.heap.size v21 V) 43 rfl 10 #[.int .i64 157, .int .i64 100, .pointer (some ⟨w.heap.size, 0, none⟩)] (by kernel_rfl) ((refText_any l w.heap.size 157 100 (by omega) (by omega) _ hv21.out.str).mono (by rintro e V ⟨he, hb⟩; exact ⟨_, he, rfl, hb⟩)) ?_
                      rintro _ v22 ⟨rfl, h4⟩
                      have hv22 := Lib.hid (hv21.out.text h4)
                      have hqv22 := Lib.hid ((h4.block b0 (Array.getElem?_eq_some_iff.1 hqv21.out).1).trans hqv21.out)
                      refine hK.out _ _ hv22.out.str (fun hHeld => ?_)
                      clear hK h4
                      (try simp only [Act.put]); (try simp only [List.setIfInBounds_toArray]); (try simp only [List.set_cons_succ]); (try simp only [List.set_cons_zero])
                      refine take_to (i := 16) 44 (.agg #[.string (mkS (cutZ (sub l 0 100))), .string (mkS (cutZ (sub l 157 100))), .string ⟨#[]⟩, .string ⟨#[]⟩, .string ⟨#[]⟩, .int .u8 (c.toNat : Int), .int .i64 (numAt l 100 8).1, .int .i64 (numAt l 108 8).1, .int .i64 (numAt l 116 8).1, .int .i64 (numAt l 124 12).1, .int .i64 (numAt l 136 12).1, .int .i64 0, .int .i64 0]) rfl rfl (by kernel_rfl) (by kernel_rfl) (by kernel_rfl) (fun _ _ _ h => h) (Or.inl ⟨by rfl, fun _ _ => by kernel_rfl⟩) (by assumption) ?_
                      simp only [List.setIfInBounds_toArray, List.set_cons_succ, List.set_cons_zero]
                      refine wpAnyH_ready (rs := [18]) (by kernel_rfl) (by simp) ?_
                      refine AllReadyH.cons rfl (fun K hK => ?_) AllReadyH.nil
                      rw [if_pos (by rfl)]
                      refine store_row_no rfl _ _ _ rfl b0 #[.string (mkS (cutZ (sub l 0 100))), .string (mkS (cutZ (sub l 157 100))), .string ⟨#[]⟩, .string ⟨#[]⟩, .string ⟨#[]⟩, .int .u8 (c.toNat : Int), .int .i64 (numAt l 100 8).1, .int .i64 (numAt l 108 8).1, .int .i64 (numAt l 116 8).1, .int .i64 (numAt l 124 12).1, .int .i64 (numAt l 136 12).1, .int .i64 0, .int .i64 0] rfl rfl _ _ hqv22.out infoRef rfl (by kernel_rfl) ?_
                      have h9 := Lib.hid (hv22.out.set hb.out #[.string (mkS (cutZ (sub l 0 100))), .string (mkS (cutZ (sub l 157 100))), .string ⟨#[]⟩, .string ⟨#[]⟩, .string ⟨#[]⟩, .int .u8 (c.toNat : Int), .int .i64 (numAt l 100 8).1, .int .i64 (numAt l 108 8).1, .int .i64 (numAt l 116 8).1, .int .i64 (numAt l 124 12).1, .int .i64 (numAt l 136 12).1, .int .i64 0, .int .i64 0])
                      have hq9 := Lib.hid (setRow_heap v22 _ _ #[.string (mkS (cutZ (sub l 0 100))), .string (mkS (cutZ (sub l 157 100))), .string ⟨#[]⟩, .string ⟨#[]⟩, .string ⟨#[]⟩, .int .u8 (c.toNat : Int), .int .i64 (numAt l 100 8).1, .int .i64 (numAt l 108 8).1, .int .i64 (numAt l 116 8).1, .int .i64 (numAt l 124 12).1, .int .i64 (numAt l 136 12).1, .int .i64 0, .int .i64 0] _ _ hqv22.out)
                      refine hK.out _ _ h9.out.str (fun hHeld => ?_)
                      clear hK
                      (try simp only [Act.put]); (try simp only [List.setIfInBounds_toArray]); (try simp only [List.set_cons_succ]); (try simp only [List.set_cons_zero])
                      refine wpAnyH_done (by kernel_rfl) ?_ _
                      go_wp2_with fail
                      go_meet
                      exact ⟨b0, rfl, hb.out, h9.out, hq9.out⟩
                    exact AllReadyH.nil
                  exact AllReadyH.nil
                exact AllReadyH.nil
              exact AllReadyH.nil
            exact AllReadyH.nil
          refine AllReadyH.cons rfl (fun K hK => ?_) ?_
          · rw [if_pos (by rfl)]
            refine alloc_row_to 9 rfl _ rfl _ (zeroRef _) ?_
            have hv23 := Lib.hid (hv2.out.alloc (.cells #[.string ⟨#[]⟩, .string ⟨#[]⟩, .string ⟨#[]⟩, .string ⟨#[]⟩, .string ⟨#[]⟩, .int .u8 0, .int .i64 0, .int .i64 0, .int .i64 0, .int .i64 0, .int .i64 0, .int .i64 0, .int .i64 0] 23))
            have hqv23 := Lib.hid (heap_alloc_new v2 (.cells #[.string ⟨#[]⟩, .string ⟨#[]⟩, .string ⟨#[]⟩, .string ⟨#[]⟩, .string ⟨#[]⟩, .int .u8 0, .int .i64 0, .int .i64 0, .int .i64 0, .int .i64 0, .int .i64 0, .int .i64 0, .int .i64 0] 23))
            have hb := Lib.hid (hv2.out.below_box)
            refine hK.out _ _ hv23.out.str (fun hHeld => ?_)
            clear hK
            (try simp only [Act.put]); (try simp only [List.setIfInBounds_toArray]); (try simp only [List.set_cons_succ]); (try simp only [List.set_cons_zero])
            generalize v2.alloc (.cells #[.string ⟨#[]⟩, .string ⟨#[]⟩, .string ⟨#[]⟩, .string ⟨#[]⟩, .string ⟨#[]⟩, .int .u8 0, .int .i64 0, .int .i64 0, .int .i64 0, .int .i64 0, .int .i64 0, .int .i64 0, .int .i64 0] 23) = v23 at *
            generalize v2.heap.size = b0 at *
            refine wpAnyH_ready (rs := [5]) (by kernel_rfl) (by simp) ?_
            refine AllReadyH.cons rfl (fun K hK => ?_) ?_
            · rw [if_pos (by rfl)]
              refine call_at (R := fun v V => v = .int .i64 (numAt l 108 8).1 ∧ V.heap[cB]? = some (.cells #[.bool ((false || !((numAt l 100 8).2 == 0)) || !((numAt l 108 8).2 == 0))] 4 (0, 0)) ∧ But v23.heap.size cB v23 V) 33 rfl 12 #[.int .i64 108, .int .i64 8, .pointer (some ⟨w.heap.size, 0, none⟩), .pointer (some ⟨cB, 0, none⟩)] (by kernel_rfl) ((refNum_any l w.heap.size cB 108 8 (false || !((numAt l 100 8).2 == 0)) (by omega) (by omega) _ hv23.out.str hv23.out.box).mono (by rintro e V ⟨he, hx, hb⟩; exact ⟨_, he, rfl, hx, hb⟩)) ?_
              rintro _ v24 ⟨rfl, hx4, h4⟩
              have hv24 := Lib.hid (hv23.out.num h4 hx4)
              have hqv24 := Lib.hid ((h4.block b0 (Array.getElem?_eq_some_iff.1 hqv23.out).1 (Nat.ne_of_gt hb.out)).trans hqv23.out)
              refine hK.out _ _ hv24.out.str (fun hHeld => ?_)
              clear hK h4
              (try simp only [Act.put]); (try simp only [List.setIfInBounds_toArray]); (try simp only [List.set_cons_succ]); (try simp only [List.set_cons_zero])
              refine wpAnyH_ready (rs := [7]) (by kernel_rfl) (by simp) ?_
              refine AllReadyH.cons rfl (fun K hK => ?_) ?_
              · rw [if_pos (by rfl)]
                refine call_at (R := fun v V => v = .int .i64 (numAt l 116 8).1 ∧ V.heap[cB]? = some (.cells #[.bool (((false || !((numAt l 100 8).2 == 0)) || !((numAt l 108 8).2 == 0)) || !((numAt l 116 8).2 == 0))] 4 (0, 0)) ∧ But v24.heap.size cB v24 V) 35 rfl 12 #[.int .i64 116, .int .i64 8, .pointer (some ⟨w.heap.size, 0, none⟩), .pointer (some ⟨cB, 0, none⟩)] (by kernel_rfl) ((refNum_any l w.heap.size cB 116 8 ((false || !((numAt l 100 8).2 == 0)) || !((numAt l 108 8).2 == 0)) (by omega) (by omega) _ hv24.out.str hv24.out.box).mono (by rintro e V ⟨he, hx, hb⟩; exact ⟨_, he, rfl, hx, hb⟩)) ?_
                rintro _ v25 ⟨rfl, hx4, h4⟩
                have hv25 := Lib.hid (hv24.out.num h4 hx4)
                have hqv25 := Lib.hid ((h4.block b0 (Array.getElem?_eq_some_iff.1 hqv24.out).1 (Nat.ne_of_gt hb.out)).trans hqv24.out)
                refine hK.out _ _ hv25.out.str (fun hHeld => ?_)
                clear hK h4
                (try simp only [Act.put]); (try simp only [List.setIfInBounds_toArray]); (try simp only [List.set_cons_succ]); (try simp only [List.set_cons_zero])
                refine wpAnyH_ready (rs := [9]) (by kernel_rfl) (by simp) ?_
                refine AllReadyH.cons rfl (fun K hK => ?_) ?_
                · rw [if_pos (by rfl)]
                  refine call_at (R := fun v V => v = .int .i64 (numAt l 124 12).1 ∧ V.heap[cB]? = some (.cells #[.bool ((((false || !((numAt l 100 8).2 == 0)) || !((numAt l 108 8).2 == 0)) || !((numAt l 116 8).2 == 0)) || !((numAt l 124 12).2 == 0))] 4 (0, 0)) ∧ But v25.heap.size cB v25 V) 37 rfl 12 #[.int .i64 124, .int .i64 12, .pointer (some ⟨w.heap.size, 0, none⟩), .pointer (some ⟨cB, 0, none⟩)] (by kernel_rfl) ((refNum_any l w.heap.size cB 124 12 (((false || !((numAt l 100 8).2 == 0)) || !((numAt l 108 8).2 == 0)) || !((numAt l 116 8).2 == 0)) (by omega) (by omega) _ hv25.out.str hv25.out.box).mono (by rintro e V ⟨he, hx, hb⟩; exact ⟨_, he, rfl, hx, hb⟩)) ?_
                  rintro _ v26 ⟨rfl, hx4, h4⟩
                  have hv26 := Lib.hid (hv25.out.num h4 hx4)
                  have hqv26 := Lib.hid ((h4.block b0 (Array.getElem?_eq_some_iff.1 hqv25.out).1 (Nat.ne_of_gt hb.out)).trans hqv25.out)
                  refine hK.out _ _ hv26.out.str (fun hHeld => ?_)
                  clear hK h4
                  (try simp only [Act.put]); (try simp only [List.setIfInBounds_toArray]); (try simp only [List.set_cons_succ]); (try simp only [List.set_cons_zero])
                  refine wpAnyH_ready (rs := [11]) (by kernel_rfl) (by simp) ?_
                  refine AllReadyH.cons rfl (fun K hK => ?_) ?_
                  · rw [if_pos (by rfl)]
                    refine call_at (R := fun v V => v = .int .i64 (numAt l 136 12).1 ∧ V.heap[cB]? = some (.cells #[.bool (((((false || !((numAt l 100 8).2 == 0)) || !((numAt l 108 8).2 == 0)) || !((numAt l 116 8).2 == 0)) || !((numAt l 124 12).2 == 0)) || !((numAt l 136 12).2 == 0))] 4 (0, 0)) ∧ But v26.heap.size cB v26 V) 39 rfl 12 #[.int .i64 136, .int .i64 12, .pointer (some ⟨w.heap.size, 0, none⟩), .pointer (some ⟨cB, 0, none⟩)] (by kernel_rfl) ((refNum_any l w.heap.size cB 136 12 ((((false || !((numAt l 100 8).2 == 0)) || !((numAt l 108 8).2 == 0)) || !((numAt l 116 8).2 == 0)) || !((numAt l 124 12).2 == 0)) (by omega) (by omega) _ hv26.out.str hv26.out.box).mono (by rintro e V ⟨he, hx, hb⟩; exact ⟨_, he, rfl, hx, hb⟩)) ?_
                    rintro _ v27 ⟨rfl, hx4, h4⟩
                    have hv27 := Lib.hid (hv26.out.num h4 hx4)
                    have hqv27 := Lib.hid ((h4.block b0 (Array.getElem?_eq_some_iff.1 hqv26.out).1 (Nat.ne_of_gt hb.out)).trans hqv26.out)
                    refine hK.out _ _ hv27.out.str (fun hHeld => ?_)
                    clear hK h4
                    (try simp only [Act.put]); (try simp only [List.setIfInBounds_toArray]); (try simp only [List.set_cons_succ]); (try simp only [List.set_cons_zero])
                    refine wpAnyH_ready (rs := [15]) (by kernel_rfl) (by simp) ?_
                    refine AllReadyH.cons rfl (fun K hK => ?_) ?_
                    · rw [if_pos (by rfl)]
                      refine call_at (R := fun v V => v = .string (mkS (cutZ (sub l 157 100))) ∧ Below v27.heap.size v27 V) 43 rfl 10 #[.int .i64 157, .int .i64 100, .pointer (some ⟨w.heap.size, 0, none⟩)] (by kernel_rfl) ((refText_any l w.heap.size 157 100 (by omega) (by omega) _ hv27.out.str).mono (by rintro e V ⟨he, hb⟩; exact ⟨_, he, rfl, hb⟩)) ?_
                      rintro _ v28 ⟨rfl, h4⟩
                      have hv28 := Lib.hid (hv27.out.text h4)
                      have hqv28 := Lib.hid ((h4.block b0 (Array.getElem?_eq_some_iff.1 hqv27.out).1).trans hqv27.out)
                      refine hK.out _ _ hv28.out.str (fun hHeld => ?_)
                      clear hK h4
                      (try simp only [Act.put]); (try simp only [List.setIfInBounds_toArray]); (try simp only [List.set_cons_succ]); (try simp only [List.set_cons_zero])
                      refine take_to (i := 16) 44 (.agg #[.string (mkS (cutZ (sub l 0 100))), .string (mkS (cutZ (sub l 157 100))), .string ⟨#[]⟩, .string ⟨#[]⟩, .string ⟨#[]⟩, .int .u8 (c.toNat : Int), .int .i64 (numAt l 100 8).1, .int .i64 (numAt l 108 8).1, .int .i64 (numAt l 116 8).1, .int .i64 (numAt l 124 12).1, .int .i64 (numAt l 136 12).1, .int .i64 0, .int .i64 0]) rfl rfl (by kernel_rfl) (by kernel_rfl) (by kernel_rfl) (fun _ _ _ h => h) (Or.inl ⟨by rfl, fun _ _ => by kernel_rfl⟩) (by assumption) ?_
                      simp only [List.setIfInBounds_toArray, List.set_cons_succ, List.set_cons_zero]
                      refine wpAnyH_ready (rs := [18]) (by kernel_rfl) (by simp) ?_
                      refine AllReadyH.cons rfl (fun K hK => ?_) AllReadyH.nil
                      rw [if_pos (by rfl)]
                      refine store_row_no rfl _ _ _ rfl b0 #[.string (mkS (cutZ (sub l 0 100))), .string (mkS (cutZ (sub l 157 100))), .string ⟨#[]⟩, .string ⟨#[]⟩, .string ⟨#[]⟩, .int .u8 (c.toNat : Int), .int .i64 (numAt l 100 8).1, .int .i64 (numAt l 108 8).1, .int .i64 (numAt l 116 8).1, .int .i64 (numAt l 124 12).1, .int .i64 (numAt l 136 12).1, .int .i64 0, .int .i64 0] rfl rfl _ _ hqv28.out infoRef rfl (by kernel_rfl) ?_
                      have h9 := Lib.hid (hv28.out.set hb.out #[.string (mkS (cutZ (sub l 0 100))), .string (mkS (cutZ (sub l 157 100))), .string ⟨#[]⟩, .string ⟨#[]⟩, .string ⟨#[]⟩, .int .u8 (c.toNat : Int), .int .i64 (numAt l 100 8).1, .int .i64 (numAt l 108 8).1, .int .i64 (numAt l 116 8).1, .int .i64 (numAt l 124 12).1, .int .i64 (numAt l 136 12).1, .int .i64 0, .int .i64 0])
                      have hq9 := Lib.hid (setRow_heap v28 _ _ #[.string (mkS (cutZ (sub l 0 100))), .string (mkS (cutZ (sub l 157 100))), .string ⟨#[]⟩, .string ⟨#[]⟩, .string ⟨#[]⟩, .int .u8 (c.toNat : Int), .int .i64 (numAt l 100 8).1, .int .i64 (numAt l 108 8).1, .int .i64 (numAt l 116 8).1, .int .i64 (numAt l 124 12).1, .int .i64 (numAt l 136 12).1, .int .i64 0, .int .i64 0] _ _ hqv28.out)
                      refine hK.out _ _ h9.out.str (fun hHeld => ?_)
                      clear hK
                      (try simp only [Act.put]); (try simp only [List.setIfInBounds_toArray]); (try simp only [List.set_cons_succ]); (try simp only [List.set_cons_zero])
                      refine wpAnyH_done (by kernel_rfl) ?_ _
                      go_wp2_with fail
                      go_meet
                      exact ⟨b0, rfl, hb.out, h9.out, hq9.out⟩
                    exact AllReadyH.nil
                  exact AllReadyH.nil
                exact AllReadyH.nil
              exact AllReadyH.nil
            exact AllReadyH.nil
          exact AllReadyH.nil
        refine AllReadyH.cons rfl (fun K hK => ?_) ?_
        · rw [if_pos (by rfl)]
          refine alloc_row_to 9 rfl _ rfl _ (zeroRef _) ?_
          have hv29 := Lib.hid (hv1.out.alloc (.cells #[.string ⟨#[]⟩, .string ⟨#[]⟩, .string ⟨#[]⟩, .string ⟨#[]⟩, .string ⟨#[]⟩, .int .u8 0, .int .i64 0, .int .i64 0, .int .i64 0, .int .i64 0, .int .i64 0, .int .i64 0, .int .i64 0] 23))
          have hqv29 := Lib.hid (heap_alloc_new v1 (.cells #[.string ⟨#[]⟩, .string ⟨#[]⟩, .string ⟨#[]⟩, .string ⟨#[]⟩, .string ⟨#[]⟩, .int .u8 0, .int .i64 0, .int .i64 0, .int .i64 0, .int .i64 0, .int .i64 0, .int .i64 0, .int .i64 0] 23))
          have hb := Lib.hid (hv1.out.below_box)
          refine hK.out _ _ hv29.out.str (fun hHeld => ?_)
          clear hK
          (try simp only [Act.put]); (try simp only [List.setIfInBounds_toArray]); (try simp only [List.set_cons_succ]); (try simp only [List.set_cons_zero])
          generalize v1.alloc (.cells #[.string ⟨#[]⟩, .string ⟨#[]⟩, .string ⟨#[]⟩, .string ⟨#[]⟩, .string ⟨#[]⟩, .int .u8 0, .int .i64 0, .int .i64 0, .int .i64 0, .int .i64 0, .int .i64 0, .int .i64 0, .int .i64 0] 23) = v29 at *
          generalize v1.heap.size = b0 at *
          refine wpAnyH_ready (rs := [3]) (by kernel_rfl) (by simp) ?_
          refine AllReadyH.cons rfl (fun K hK => ?_) ?_
          · rw [if_pos (by rfl)]
            refine call_at (R := fun v V => v = .int .i64 (numAt l 100 8).1 ∧ V.heap[cB]? = some (.cells #[.bool (false || !((numAt l 100 8).2 == 0))] 4 (0, 0)) ∧ But v29.heap.size cB v29 V) 31 rfl 12 #[.int .i64 100, .int .i64 8, .pointer (some ⟨w.heap.size, 0, none⟩), .pointer (some ⟨cB, 0, none⟩)] (by kernel_rfl) ((refNum_any l w.heap.size cB 100 8 false (by omega) (by omega) _ hv29.out.str hv29.out.box).mono (by rintro e V ⟨he, hx, hb⟩; exact ⟨_, he, rfl, hx, hb⟩)) ?_
            rintro _ v30 ⟨rfl, hx4, h4⟩
            have hv30 := Lib.hid (hv29.out.num h4 hx4)
            have hqv30 := Lib.hid ((h4.block b0 (Array.getElem?_eq_some_iff.1 hqv29.out).1 (Nat.ne_of_gt hb.out)).trans hqv29.out)
            refine hK.out _ _ hv30.out.str (fun hHeld => ?_)
            clear hK h4
            (try simp only [Act.put]); (try simp only [List.setIfInBounds_toArray]); (try simp only [List.set_cons_succ]); (try simp only [List.set_cons_zero])
            refine wpAnyH_ready (rs := [5]) (by kernel_rfl) (by simp) ?_
            refine AllReadyH.cons rfl (fun K hK => ?_) ?_
            · rw [if_pos (by rfl)]
              refine call_at (R := fun v V => v = .int .i64 (numAt l 108 8).1 ∧ V.heap[cB]? = some (.cells #[.bool ((false || !((numAt l 100 8).2 == 0)) || !((numAt l 108 8).2 == 0))] 4 (0, 0)) ∧ But v30.heap.size cB v30 V) 33 rfl 12 #[.int .i64 108, .int .i64 8, .pointer (some ⟨w.heap.size, 0, none⟩), .pointer (some ⟨cB, 0, none⟩)] (by kernel_rfl) ((refNum_any l w.heap.size cB 108 8 (false || !((numAt l 100 8).2 == 0)) (by omega) (by omega) _ hv30.out.str hv30.out.box).mono (by rintro e V ⟨he, hx, hb⟩; exact ⟨_, he, rfl, hx, hb⟩)) ?_
              rintro _ v31 ⟨rfl, hx4, h4⟩
              have hv31 := Lib.hid (hv30.out.num h4 hx4)
              have hqv31 := Lib.hid ((h4.block b0 (Array.getElem?_eq_some_iff.1 hqv30.out).1 (Nat.ne_of_gt hb.out)).trans hqv30.out)
              refine hK.out _ _ hv31.out.str (fun hHeld => ?_)
              clear hK h4
              (try simp only [Act.put]); (try simp only [List.setIfInBounds_toArray]); (try simp only [List.set_cons_succ]); (try simp only [List.set_cons_zero])
              refine wpAnyH_ready (rs := [7]) (by kernel_rfl) (by simp) ?_
              refine AllReadyH.cons rfl (fun K hK => ?_) ?_
              · rw [if_pos (by rfl)]
                refine call_at (R := fun v V => v = .int .i64 (numAt l 116 8).1 ∧ V.heap[cB]? = some (.cells #[.bool (((false || !((numAt l 100 8).2 == 0)) || !((numAt l 108 8).2 == 0)) || !((numAt l 116 8).2 == 0))] 4 (0, 0)) ∧ But v31.heap.size cB v31 V) 35 rfl 12 #[.int .i64 116, .int .i64 8, .pointer (some ⟨w.heap.size, 0, none⟩), .pointer (some ⟨cB, 0, none⟩)] (by kernel_rfl) ((refNum_any l w.heap.size cB 116 8 ((false || !((numAt l 100 8).2 == 0)) || !((numAt l 108 8).2 == 0)) (by omega) (by omega) _ hv31.out.str hv31.out.box).mono (by rintro e V ⟨he, hx, hb⟩; exact ⟨_, he, rfl, hx, hb⟩)) ?_
                rintro _ v32 ⟨rfl, hx4, h4⟩
                have hv32 := Lib.hid (hv31.out.num h4 hx4)
                have hqv32 := Lib.hid ((h4.block b0 (Array.getElem?_eq_some_iff.1 hqv31.out).1 (Nat.ne_of_gt hb.out)).trans hqv31.out)
                refine hK.out _ _ hv32.out.str (fun hHeld => ?_)
                clear hK h4
                (try simp only [Act.put]); (try simp only [List.setIfInBounds_toArray]); (try simp only [List.set_cons_succ]); (try simp only [List.set_cons_zero])
                refine wpAnyH_ready (rs := [9]) (by kernel_rfl) (by simp) ?_
                refine AllReadyH.cons rfl (fun K hK => ?_) ?_
                · rw [if_pos (by rfl)]
                  refine call_at (R := fun v V => v = .int .i64 (numAt l 124 12).1 ∧ V.heap[cB]? = some (.cells #[.bool ((((false || !((numAt l 100 8).2 == 0)) || !((numAt l 108 8).2 == 0)) || !((numAt l 116 8).2 == 0)) || !((numAt l 124 12).2 == 0))] 4 (0, 0)) ∧ But v32.heap.size cB v32 V) 37 rfl 12 #[.int .i64 124, .int .i64 12, .pointer (some ⟨w.heap.size, 0, none⟩), .pointer (some ⟨cB, 0, none⟩)] (by kernel_rfl) ((refNum_any l w.heap.size cB 124 12 (((false || !((numAt l 100 8).2 == 0)) || !((numAt l 108 8).2 == 0)) || !((numAt l 116 8).2 == 0)) (by omega) (by omega) _ hv32.out.str hv32.out.box).mono (by rintro e V ⟨he, hx, hb⟩; exact ⟨_, he, rfl, hx, hb⟩)) ?_
                  rintro _ v33 ⟨rfl, hx4, h4⟩
                  have hv33 := Lib.hid (hv32.out.num h4 hx4)
                  have hqv33 := Lib.hid ((h4.block b0 (Array.getElem?_eq_some_iff.1 hqv32.out).1 (Nat.ne_of_gt hb.out)).trans hqv32.out)
                  refine hK.out _ _ hv33.out.str (fun hHeld => ?_)
                  clear hK h4
                  (try simp only [Act.put]); (try simp only [List.setIfInBounds_toArray]); (try simp only [List.set_cons_succ]); (try simp only [List.set_cons_zero])
                  refine wpAnyH_ready (rs := [11]) (by kernel_rfl) (by simp) ?_
                  refine AllReadyH.cons rfl (fun K hK => ?_) ?_
                  · rw [if_pos (by rfl)]
                    refine call_at (R := fun v V => v = .int .i64 (numAt l 136 12).1 ∧ V.heap[cB]? = some (.cells #[.bool (((((false || !((numAt l 100 8).2 == 0)) || !((numAt l 108 8).2 == 0)) || !((numAt l 116 8).2 == 0)) || !((numAt l 124 12).2 == 0)) || !((numAt l 136 12).2 == 0))] 4 (0, 0)) ∧ But v33.heap.size cB v33 V) 39 rfl 12 #[.int .i64 136, .int .i64 12, .pointer (some ⟨w.heap.size, 0, none⟩), .pointer (some ⟨cB, 0, none⟩)] (by kernel_rfl) ((refNum_any l w.heap.size cB 136 12 ((((false || !((numAt l 100 8).2 == 0)) || !((numAt l 108 8).2 == 0)) || !((numAt l 116 8).2 == 0)) || !((numAt l 124 12).2 == 0)) (by omega) (by omega) _ hv33.out.str hv33.out.box).mono (by rintro e V ⟨he, hx, hb⟩; exact ⟨_, he, rfl, hx, hb⟩)) ?_
                    rintro _ v34 ⟨rfl, hx4, h4⟩
                    have hv34 := Lib.hid (hv33.out.num h4 hx4)
                    have hqv34 := Lib.hid ((h4.block b0 (Array.getElem?_eq_some_iff.1 hqv33.out).1 (Nat.ne_of_gt hb.out)).trans hqv33.out)
                    refine hK.out _ _ hv34.out.str (fun hHeld => ?_)
                    clear hK h4
                    (try simp only [Act.put]); (try simp only [List.setIfInBounds_toArray]); (try simp only [List.set_cons_succ]); (try simp only [List.set_cons_zero])
                    refine wpAnyH_ready (rs := [15]) (by kernel_rfl) (by simp) ?_
                    refine AllReadyH.cons rfl (fun K hK => ?_) ?_
                    · rw [if_pos (by rfl)]
                      refine call_at (R := fun v V => v = .string (mkS (cutZ (sub l 157 100))) ∧ Below v34.heap.size v34 V) 43 rfl 10 #[.int .i64 157, .int .i64 100, .pointer (some ⟨w.heap.size, 0, none⟩)] (by kernel_rfl) ((refText_any l w.heap.size 157 100 (by omega) (by omega) _ hv34.out.str).mono (by rintro e V ⟨he, hb⟩; exact ⟨_, he, rfl, hb⟩)) ?_
                      rintro _ v35 ⟨rfl, h4⟩
                      have hv35 := Lib.hid (hv34.out.text h4)
                      have hqv35 := Lib.hid ((h4.block b0 (Array.getElem?_eq_some_iff.1 hqv34.out).1).trans hqv34.out)
                      refine hK.out _ _ hv35.out.str (fun hHeld => ?_)
                      clear hK h4
                      (try simp only [Act.put]); (try simp only [List.setIfInBounds_toArray]); (try simp only [List.set_cons_succ]); (try simp only [List.set_cons_zero])
                      refine take_to (i := 16) 44 (.agg #[.string (mkS (cutZ (sub l 0 100))), .string (mkS (cutZ (sub l 157 100))), .string ⟨#[]⟩, .string ⟨#[]⟩, .string ⟨#[]⟩, .int .u8 (c.toNat : Int), .int .i64 (numAt l 100 8).1, .int .i64 (numAt l 108 8).1, .int .i64 (numAt l 116 8).1, .int .i64 (numAt l 124 12).1, .int .i64 (numAt l 136 12).1, .int .i64 0, .int .i64 0]) rfl rfl (by kernel_rfl) (by kernel_rfl) (by kernel_rfl) (fun _ _ _ h => h) (Or.inl ⟨by rfl, fun _ _ => by kernel_rfl⟩) (by assumption) ?_
                      simp only [List.setIfInBounds_toArray, List.set_cons_succ, List.set_cons_zero]
                      refine wpAnyH_ready (rs := [18]) (by kernel_rfl) (by simp) ?_
                      refine AllReadyH.cons rfl (fun K hK => ?_) AllReadyH.nil
                      rw [if_pos (by rfl)]
                      refine store_row_no rfl _ _ _ rfl b0 #[.string (mkS (cutZ (sub l 0 100))), .string (mkS (cutZ (sub l 157 100))), .string ⟨#[]⟩, .string ⟨#[]⟩, .string ⟨#[]⟩, .int .u8 (c.toNat : Int), .int .i64 (numAt l 100 8).1, .int .i64 (numAt l 108 8).1, .int .i64 (numAt l 116 8).1, .int .i64 (numAt l 124 12).1, .int .i64 (numAt l 136 12).1, .int .i64 0, .int .i64 0] rfl rfl _ _ hqv35.out infoRef rfl (by kernel_rfl) ?_
                      have h9 := Lib.hid (hv35.out.set hb.out #[.string (mkS (cutZ (sub l 0 100))), .string (mkS (cutZ (sub l 157 100))), .string ⟨#[]⟩, .string ⟨#[]⟩, .string ⟨#[]⟩, .int .u8 (c.toNat : Int), .int .i64 (numAt l 100 8).1, .int .i64 (numAt l 108 8).1, .int .i64 (numAt l 116 8).1, .int .i64 (numAt l 124 12).1, .int .i64 (numAt l 136 12).1, .int .i64 0, .int .i64 0])
                      have hq9 := Lib.hid (setRow_heap v35 _ _ #[.string (mkS (cutZ (sub l 0 100))), .string (mkS (cutZ (sub l 157 100))), .string ⟨#[]⟩, .string ⟨#[]⟩, .string ⟨#[]⟩, .int .u8 (c.toNat : Int), .int .i64 (numAt l 100 8).1, .int .i64 (numAt l 108 8).1, .int .i64 (numAt l 116 8).1, .int .i64 (numAt l 124 12).1, .int .i64 (numAt l 136 12).1, .int .i64 0, .int .i64 0] _ _ hqv35.out)
                      refine hK.out _ _ h9.out.str (fun hHeld => ?_)
                      clear hK
                      (try simp only [Act.put]); (try simp only [List.setIfInBounds_toArray]); (try simp only [List.set_cons_succ]); (try simp only [List.set_cons_zero])
                      refine wpAnyH_done (by kernel_rfl) ?_ _
                      go_wp2_with fail
                      go_meet
                      exact ⟨b0, rfl, hb.out, h9.out, hq9.out⟩
                    exact AllReadyH.nil
                  exact AllReadyH.nil
                exact AllReadyH.nil
              exact AllReadyH.nil
            exact AllReadyH.nil
          exact AllReadyH.nil
        exact AllReadyH.nil
      refine AllReadyH.cons rfl (fun K hK => ?_) ?_
      · rw [if_pos (by rfl)]
        refine alloc_row_to 9 rfl _ rfl _ (zeroRef _) ?_
        have hv36 := Lib.hid (hv0.out.alloc (.cells #[.string ⟨#[]⟩, .string ⟨#[]⟩, .string ⟨#[]⟩, .string ⟨#[]⟩, .string ⟨#[]⟩, .int .u8 0, .int .i64 0, .int .i64 0, .int .i64 0, .int .i64 0, .int .i64 0, .int .i64 0, .int .i64 0] 23))
        have hqv36 := Lib.hid (heap_alloc_new v0 (.cells #[.string ⟨#[]⟩, .string ⟨#[]⟩, .string ⟨#[]⟩, .string ⟨#[]⟩, .string ⟨#[]⟩, .int .u8 0, .int .i64 0, .int .i64 0, .int .i64 0, .int .i64 0, .int .i64 0, .int .i64 0, .int .i64 0] 23))
        have hb := Lib.hid (hv0.out.below_box)
        refine hK.out _ _ hv36.out.str (fun hHeld => ?_)
        clear hK
        (try simp only [Act.put]); (try simp only [List.setIfInBounds_toArray]); (try simp only [List.set_cons_succ]); (try simp only [List.set_cons_zero])
        generalize v0.alloc (.cells #[.string ⟨#[]⟩, .string ⟨#[]⟩, .string ⟨#[]⟩, .string ⟨#[]⟩, .string ⟨#[]⟩, .int .u8 0, .int .i64 0, .int .i64 0, .int .i64 0, .int .i64 0, .int .i64 0, .int .i64 0, .int .i64 0] 23) = v36 at *
        generalize v0.heap.size = b0 at *
        refine wpAnyH_ready (rs := [1]) (by kernel_rfl) (by simp) ?_
        refine AllReadyH.cons rfl (fun K hK => ?_) ?_
        · rw [if_pos (by rfl)]
          refine call_at (R := fun v V => v = .string (mkS (cutZ (sub l 0 100))) ∧ Below v36.heap.size v36 V) 29 rfl 10 #[.int .i64 0, .int .i64 100, .pointer (some ⟨w.heap.size, 0, none⟩)] (by kernel_rfl) ((refText_any l w.heap.size 0 100 (by omega) (by omega) _ hv36.out.str).mono (by rintro e V ⟨he, hb⟩; exact ⟨_, he, rfl, hb⟩)) ?_
          rintro _ v37 ⟨rfl, h4⟩
          have hv37 := Lib.hid (hv36.out.text h4)
          have hqv37 := Lib.hid ((h4.block b0 (Array.getElem?_eq_some_iff.1 hqv36.out).1).trans hqv36.out)
          refine hK.out _ _ hv37.out.str (fun hHeld => ?_)
          clear hK h4
          (try simp only [Act.put]); (try simp only [List.setIfInBounds_toArray]); (try simp only [List.set_cons_succ]); (try simp only [List.set_cons_zero])
          refine wpAnyH_ready (rs := [3]) (by kernel_rfl) (by simp) ?_
          refine AllReadyH.cons rfl (fun K hK => ?_) ?_
          · rw [if_pos (by rfl)]
            refine call_at (R := fun v V => v = .int .i64 (numAt l 100 8).1 ∧ V.heap[cB]? = some (.cells #[.bool (false || !((numAt l 100 8).2 == 0))] 4 (0, 0)) ∧ But v37.heap.size cB v37 V) 31 rfl 12 #[.int .i64 100, .int .i64 8, .pointer (some ⟨w.heap.size, 0, none⟩), .pointer (some ⟨cB, 0, none⟩)] (by kernel_rfl) ((refNum_any l w.heap.size cB 100 8 false (by omega) (by omega) _ hv37.out.str hv37.out.box).mono (by rintro e V ⟨he, hx, hb⟩; exact ⟨_, he, rfl, hx, hb⟩)) ?_
            rintro _ v38 ⟨rfl, hx4, h4⟩
            have hv38 := Lib.hid (hv37.out.num h4 hx4)
            have hqv38 := Lib.hid ((h4.block b0 (Array.getElem?_eq_some_iff.1 hqv37.out).1 (Nat.ne_of_gt hb.out)).trans hqv37.out)
            refine hK.out _ _ hv38.out.str (fun hHeld => ?_)
            clear hK h4
            (try simp only [Act.put]); (try simp only [List.setIfInBounds_toArray]); (try simp only [List.set_cons_succ]); (try simp only [List.set_cons_zero])
            refine wpAnyH_ready (rs := [5]) (by kernel_rfl) (by simp) ?_
            refine AllReadyH.cons rfl (fun K hK => ?_) ?_
            · rw [if_pos (by rfl)]
              refine call_at (R := fun v V => v = .int .i64 (numAt l 108 8).1 ∧ V.heap[cB]? = some (.cells #[.bool ((false || !((numAt l 100 8).2 == 0)) || !((numAt l 108 8).2 == 0))] 4 (0, 0)) ∧ But v38.heap.size cB v38 V) 33 rfl 12 #[.int .i64 108, .int .i64 8, .pointer (some ⟨w.heap.size, 0, none⟩), .pointer (some ⟨cB, 0, none⟩)] (by kernel_rfl) ((refNum_any l w.heap.size cB 108 8 (false || !((numAt l 100 8).2 == 0)) (by omega) (by omega) _ hv38.out.str hv38.out.box).mono (by rintro e V ⟨he, hx, hb⟩; exact ⟨_, he, rfl, hx, hb⟩)) ?_
              rintro _ v39 ⟨rfl, hx4, h4⟩
              have hv39 := Lib.hid (hv38.out.num h4 hx4)
              have hqv39 := Lib.hid ((h4.block b0 (Array.getElem?_eq_some_iff.1 hqv38.out).1 (Nat.ne_of_gt hb.out)).trans hqv38.out)
              refine hK.out _ _ hv39.out.str (fun hHeld => ?_)
              clear hK h4
              (try simp only [Act.put]); (try simp only [List.setIfInBounds_toArray]); (try simp only [List.set_cons_succ]); (try simp only [List.set_cons_zero])
              refine wpAnyH_ready (rs := [7]) (by kernel_rfl) (by simp) ?_
              refine AllReadyH.cons rfl (fun K hK => ?_) ?_
              · rw [if_pos (by rfl)]
                refine call_at (R := fun v V => v = .int .i64 (numAt l 116 8).1 ∧ V.heap[cB]? = some (.cells #[.bool (((false || !((numAt l 100 8).2 == 0)) || !((numAt l 108 8).2 == 0)) || !((numAt l 116 8).2 == 0))] 4 (0, 0)) ∧ But v39.heap.size cB v39 V) 35 rfl 12 #[.int .i64 116, .int .i64 8, .pointer (some ⟨w.heap.size, 0, none⟩), .pointer (some ⟨cB, 0, none⟩)] (by kernel_rfl) ((refNum_any l w.heap.size cB 116 8 ((false || !((numAt l 100 8).2 == 0)) || !((numAt l 108 8).2 == 0)) (by omega) (by omega) _ hv39.out.str hv39.out.box).mono (by rintro e V ⟨he, hx, hb⟩; exact ⟨_, he, rfl, hx, hb⟩)) ?_
                rintro _ v40 ⟨rfl, hx4, h4⟩
                have hv40 := Lib.hid (hv39.out.num h4 hx4)
                have hqv40 := Lib.hid ((h4.block b0 (Array.getElem?_eq_some_iff.1 hqv39.out).1 (Nat.ne_of_gt hb.out)).trans hqv39.out)
                refine hK.out _ _ hv40.out.str (fun hHeld => ?_)
                clear hK h4
                (try simp only [Act.put]); (try simp only [List.setIfInBounds_toArray]); (try simp only [List.set_cons_succ]); (try simp only [List.set_cons_zero])
                refine wpAnyH_ready (rs := [9]) (by kernel_rfl) (by simp) ?_
                refine AllReadyH.cons rfl (fun K hK => ?_) ?_
                · rw [if_pos (by rfl)]
                  refine call_at (R := fun v V => v = .int .i64 (numAt l 124 12).1 ∧ V.heap[cB]? = some (.cells #[.bool ((((false || !((numAt l 100 8).2 == 0)) || !((numAt l 108 8).2 == 0)) || !((numAt l 116 8).2 == 0)) || !((numAt l 124 12).2 == 0))] 4 (0, 0)) ∧ But v40.heap.size cB v40 V) 37 rfl 12 #[.int .i64 124, .int .i64 12, .pointer (some ⟨w.heap.size, 0, none⟩), .pointer (some ⟨cB, 0, none⟩)] (by kernel_rfl) ((refNum_any l w.heap.size cB 124 12 (((false || !((numAt l 100 8).2 == 0)) || !((numAt l 108 8).2 == 0)) || !((numAt l 116 8).2 == 0)) (by omega) (by omega) _ hv40.out.str hv40.out.box).mono (by rintro e V ⟨he, hx, hb⟩; exact ⟨_, he, rfl, hx, hb⟩)) ?_
                  rintro _ v41 ⟨rfl, hx4, h4⟩
                  have hv41 := Lib.hid (hv40.out.num h4 hx4)
                  have hqv41 := Lib.hid ((h4.block b0 (Array.getElem?_eq_some_iff.1 hqv40.out).1 (Nat.ne_of_gt hb.out)).trans hqv40.out)
                  refine hK.out _ _ hv41.out.str (fun hHeld => ?_)
                  clear hK h4
                  (try simp only [Act.put]); (try simp only [List.setIfInBounds_toArray]); (try simp only [List.set_cons_succ]); (try simp only [List.set_cons_zero])
                  refine wpAnyH_ready (rs := [11]) (by kernel_rfl) (by simp) ?_
                  refine AllReadyH.cons rfl (fun K hK => ?_) ?_
                  · rw [if_pos (by rfl)]
                    refine call_at (R := fun v V => v = .int .i64 (numAt l 136 12).1 ∧ V.heap[cB]? = some (.cells #[.bool (((((false || !((numAt l 100 8).2 == 0)) || !((numAt l 108 8).2 == 0)) || !((numAt l 116 8).2 == 0)) || !((numAt l 124 12).2 == 0)) || !((numAt l 136 12).2 == 0))] 4 (0, 0)) ∧ But v41.heap.size cB v41 V) 39 rfl 12 #[.int .i64 136, .int .i64 12, .pointer (some ⟨w.heap.size, 0, none⟩), .pointer (some ⟨cB, 0, none⟩)] (by kernel_rfl) ((refNum_any l w.heap.size cB 136 12 ((((false || !((numAt l 100 8).2 == 0)) || !((numAt l 108 8).2 == 0)) || !((numAt l 116 8).2 == 0)) || !((numAt l 124 12).2 == 0)) (by omega) (by omega) _ hv41.out.str hv41.out.box).mono (by rintro e V ⟨he, hx, hb⟩; exact ⟨_, he, rfl, hx, hb⟩)) ?_
                    rintro _ v42 ⟨rfl, hx4, h4⟩
                    have hv42 := Lib.hid (hv41.out.num h4 hx4)
                    have hqv42 := Lib.hid ((h4.block b0 (Array.getElem?_eq_some_iff.1 hqv41.out).1 (Nat.ne_of_gt hb.out)).trans hqv41.out)
                    refine hK.out _ _ hv42.out.str (fun hHeld => ?_)
                    clear hK h4
                    (try simp only [Act.put]); (try simp only [List.setIfInBounds_toArray]); (try simp only [List.set_cons_succ]); (try simp only [List.set_cons_zero])
                    refine wpAnyH_ready (rs := [15]) (by kernel_rfl) (by simp) ?_
                    refine AllReadyH.cons rfl (fun K hK => ?_) ?_
                    · rw [if_pos (by rfl)]
                      refine call_at (R := fun v V => v = .string (mkS (cutZ (sub l 157 100))) ∧ Below v42.heap.size v42 V) 43 rfl 10 #[.int .i64 157, .int .i64 100, .pointer (some ⟨w.heap.size, 0, none⟩)] (by kernel_rfl) ((refText_any l w.heap.size 157 100 (by omega) (by omega) _ hv42.out.str).mono (by rintro e V ⟨he, hb⟩; exact ⟨_, he, rfl, hb⟩)) ?_
                      rintro _ v43 ⟨rfl, h4⟩
                      have hv43 := Lib.hid (hv42.out.text h4)
                      have hqv43 := Lib.hid ((h4.block b0 (Array.getElem?_eq_some_iff.1 hqv42.out).1).trans hqv42.out)
                      refine hK.out _ _ hv43.out.str (fun hHeld => ?_)
                      clear hK h4
                      (try simp only [Act.put]); (try simp only [List.setIfInBounds_toArray]); (try simp only [List.set_cons_succ]); (try simp only [List.set_cons_zero])
                      refine take_to (i := 16) 44 (.agg #[.string (mkS (cutZ (sub l 0 100))), .string (mkS (cutZ (sub l 157 100))), .string ⟨#[]⟩, .string ⟨#[]⟩, .string ⟨#[]⟩, .int .u8 (c.toNat : Int), .int .i64 (numAt l 100 8).1, .int .i64 (numAt l 108 8).1, .int .i64 (numAt l 116 8).1, .int .i64 (numAt l 124 12).1, .int .i64 (numAt l 136 12).1, .int .i64 0, .int .i64 0]) rfl rfl (by kernel_rfl) (by kernel_rfl) (by kernel_rfl) (fun _ _ _ h => h) (Or.inl ⟨by rfl, fun _ _ => by kernel_rfl⟩) (by assumption) ?_
                      simp only [List.setIfInBounds_toArray, List.set_cons_succ, List.set_cons_zero]
                      refine wpAnyH_ready (rs := [18]) (by kernel_rfl) (by simp) ?_
                      refine AllReadyH.cons rfl (fun K hK => ?_) AllReadyH.nil
                      rw [if_pos (by rfl)]
                      refine store_row_no rfl _ _ _ rfl b0 #[.string (mkS (cutZ (sub l 0 100))), .string (mkS (cutZ (sub l 157 100))), .string ⟨#[]⟩, .string ⟨#[]⟩, .string ⟨#[]⟩, .int .u8 (c.toNat : Int), .int .i64 (numAt l 100 8).1, .int .i64 (numAt l 108 8).1, .int .i64 (numAt l 116 8).1, .int .i64 (numAt l 124 12).1, .int .i64 (numAt l 136 12).1, .int .i64 0, .int .i64 0] rfl rfl _ _ hqv43.out infoRef rfl (by kernel_rfl) ?_
                      have h9 := Lib.hid (hv43.out.set hb.out #[.string (mkS (cutZ (sub l 0 100))), .string (mkS (cutZ (sub l 157 100))), .string ⟨#[]⟩, .string ⟨#[]⟩, .string ⟨#[]⟩, .int .u8 (c.toNat : Int), .int .i64 (numAt l 100 8).1, .int .i64 (numAt l 108 8).1, .int .i64 (numAt l 116 8).1, .int .i64 (numAt l 124 12).1, .int .i64 (numAt l 136 12).1, .int .i64 0, .int .i64 0])
                      have hq9 := Lib.hid (setRow_heap v43 _ _ #[.string (mkS (cutZ (sub l 0 100))), .string (mkS (cutZ (sub l 157 100))), .string ⟨#[]⟩, .string ⟨#[]⟩, .string ⟨#[]⟩, .int .u8 (c.toNat : Int), .int .i64 (numAt l 100 8).1, .int .i64 (numAt l 108 8).1, .int .i64 (numAt l 116 8).1, .int .i64 (numAt l 124 12).1, .int .i64 (numAt l 136 12).1, .int .i64 0, .int .i64 0] _ _ hqv43.out)
                      refine hK.out _ _ h9.out.str (fun hHeld => ?_)
                      clear hK
                      (try simp only [Act.put]); (try simp only [List.setIfInBounds_toArray]); (try simp only [List.set_cons_succ]); (try simp only [List.set_cons_zero])
                      refine wpAnyH_done (by kernel_rfl) ?_ _
                      go_wp2_with fail
                      go_meet
                      exact ⟨b0, rfl, hb.out, h9.out, hq9.out⟩
                    exact AllReadyH.nil
                  exact AllReadyH.nil
                exact AllReadyH.nil
              exact AllReadyH.nil
            exact AllReadyH.nil
          exact AllReadyH.nil
        exact AllReadyH.nil
      exact AllReadyH.nil
    case rest =>
      obtain ⟨b0, rfl, hb, hH, hq⟩ := hcut
      have HA := Lib.hid hH
      have QA := Lib.hid hq
      clear hq hH
      go_wp2_with (first
          | (go_at_call 10; (with_reducible refine (refText_at l w.heap.size 265 32 265 32 rfl rfl (by omega) (by omega) _ HA.out.str).mono ?_); rintro e y1 ⟨rfl, h4⟩; have H1 := Lib.hid (HA.out.text h4); have qa := Lib.hid ((h4.block b0 (Array.getElem?_eq_some_iff.1 QA.out).1).trans QA.out); clear h4)
          | (go_at_call 10; (with_reducible refine (refText_at l w.heap.size 297 32 297 32 rfl rfl (by omega) (by omega) _ H1.out.str).mono ?_); rintro e y2 ⟨rfl, h4⟩; have H2 := Lib.hid (H1.out.text h4); have qb := Lib.hid ((h4.block b0 (Array.getElem?_eq_some_iff.1 qa.out).1).trans qa.out); clear h4)
          | (go_at_call 12; (with_reducible refine (refNum_at l w.heap.size cB 329 8 329 8 rfl rfl (bad5 l) (by omega) (by omega) _ H2.out.str H2.out.box).mono ?_); rintro e y3 ⟨rfl, hx4, h4⟩; have H3 := Lib.hid (H2.out.num h4 hx4); have qc := Lib.hid ((h4.block b0 (Array.getElem?_eq_some_iff.1 qb.out).1 (Nat.ne_of_gt hb)).trans qb.out); clear h4 hx4)
          | fail)
      go_at_call 12
      (with_reducible refine (refNum_at l w.heap.size cB 337 8 337 8 rfl rfl _ (by omega) (by omega) _ H3.out.str H3.out.box).mono ?_)
      rintro e y4 ⟨rfl, hx4, h4⟩
      have H4 := Lib.hid (H3.out.num h4 hx4)
      have qd := Lib.hid ((h4.block b0 (Array.getElem?_eq_some_iff.1 qc.out).1 (Nat.ne_of_gt hb)).trans qc.out)
      clear h4 hx4
      obtain ⟨_, _, d2, d3, _, d5, _, _, _, _, _, d11, d12⟩ := refAt_of_row qd.out
      have g2 : y4.frozen? ⟨b0, 2, none⟩ = false := frozen_of_row y4 b0 2 _ _ qd.out
      have g3 : y4.frozen? ⟨b0, 3, none⟩ = false := frozen_of_row y4 b0 3 _ _ qd.out
      have g11 : y4.frozen? ⟨b0, 11, none⟩ = false := frozen_of_row y4 b0 11 _ _ qd.out
      have g12 : y4.frozen? ⟨b0, 12, none⟩ = false := frozen_of_row y4 b0 12 _ _ qd.out
      have qe := Lib.hid (show ((((y4.setCell ⟨b0, 2, none⟩ (.string (mkS (cutZ (sub l 265 32))))).setCell ⟨b0, 3, none⟩ (.string (mkS (cutZ (sub l 297 32))))).setCell ⟨b0, 11, none⟩ (.int .i64 (numAt l 329 8).1)).setCell ⟨b0, 12, none⟩ (.int .i64 (numAt l 337 8).1)).heap[b0]? = some (.cells #[.string (mkS (cutZ (sub l 0 100))), .string (mkS (cutZ (sub l 157 100))), .string (mkS (cutZ (sub l 265 32))), .string (mkS (cutZ (sub l 297 32))), .string ⟨#[]⟩, .int .u8 (c.toNat : Int), .int .i64 (numAt l 100 8).1, .int .i64 (numAt l 108 8).1, .int .i64 (numAt l 116 8).1, .int .i64 (numAt l 124 12).1, .int .i64 (numAt l 136 12).1, .int .i64 (numAt l 329 8).1, .int .i64 (numAt l 337 8).1] 23 (0, 0)) from setC (setC (setC (setC qd.out 2 _) 3 _) 11 _) 12 _)
      have H5 := Lib.hid ((((H4.out.cellSet hb qd.out 2 (.string (mkS (cutZ (sub l 265 32))))).cellSet hb (setC qd.out 2 _) 3 (.string (mkS (cutZ (sub l 297 32))))).cellSet hb (setC (setC qd.out 2 _) 3 _) 11 (.int .i64 (numAt l 329 8).1)).cellSet hb (setC (setC (setC qd.out 2 _) 3 _) 11 _) 12 (.int .i64 (numAt l 337 8).1))

      go_upto_if 66 with fail
      clear d2 d3 d5 d11 d12 g2 g3 g11 g12
      generalize ((((y4.setCell ⟨b0, 2, none⟩ (.string (mkS (cutZ (sub l 265 32))))).setCell ⟨b0, 3, none⟩ (.string (mkS (cutZ (sub l 297 32))))).setCell ⟨b0, 11, none⟩ (.int .i64 (numAt l 329 8).1)).setCell ⟨b0, 12, none⟩ (.int .i64 (numAt l 337 8).1)) = y5 at *
      by_cases hc0 : c = 0
      · have hk : ((c.toNat : Int) == 0) = true := by rw [hc0]; rfl
        have HK := Lib.hid (show kindF c = 48 by unfold kindF; rw [if_pos hc0])
        obtain ⟨_, _, _, _, _, k5, _⟩ := refAt_of_row qe.out
        have f5 : y5.frozen? ⟨b0, 5, none⟩ = false := frozen_of_row y5 b0 5 _ _ qe.out
        have qk := Lib.hid (show (y5.setCell ⟨b0, 5, none⟩ (.int .u8 48)).heap[b0]? = some (.cells #[.string (mkS (cutZ (sub l 0 100))), .string (mkS (cutZ (sub l 157 100))), .string (mkS (cutZ (sub l 265 32))), .string (mkS (cutZ (sub l 297 32))), .string ⟨#[]⟩, .int .u8 48, .int .i64 (numAt l 100 8).1, .int .i64 (numAt l 108 8).1, .int .i64 (numAt l 116 8).1, .int .i64 (numAt l 124 12).1, .int .i64 (numAt l 136 12).1, .int .i64 (numAt l 329 8).1, .int .i64 (numAt l 337 8).1] 23 (0, 0)) from setC qe.out 5 _)
        have hk2 := Lib.hid (H5.out.cellSet hb qe.out 5 (.int .u8 48))
        have bx := cell_of_one hk2.out.box
        obtain ⟨r0, r1, r2, r3, r4, r5, r6, r7, r8, r9, r10, r11, r12⟩ := refAt_of_row qk.out
        generalize hzz : ((bad5 l || !((numAt l 329 8).2 == 0)) || !((numAt l 337 8).2 == 0)) = zz at bx
        have HZZ := Lib.hid hzz
        clear hzz hc0
        cases zz with
        | true =>
          have HB := Lib.hid (show ReadIs l (rawZ 0) 0 2 from .range l HR.out fun hn => by have := (bad7_iff (by rw [HDL.out]; decide)).2 hn; rw [HZZ.out] at this; cases this)
          go_wp2_with (refine wpList_store_row rfl _ _ _ rfl (w.heap.size + 1) #[.string ⟨#[]⟩, .string ⟨#[]⟩, .string ⟨#[]⟩, .string ⟨#[]⟩, .string ⟨#[]⟩, .int .u8 0, .int .i64 0, .int .i64 0, .int .i64 0, .int .i64 0, .int .i64 0, .int .i64 0, .int .i64 0] rfl rfl _ _ hk2.out.res infoRef rfl (by kernel_rfl) ?_)
          refine bodyPost_ret (results_row3 rfl _ _ (w.heap.size + 1) _ _ _ _ rfl (setRow_heap _ _ _ #[.string ⟨#[]⟩, .string ⟨#[]⟩, .string ⟨#[]⟩, .string ⟨#[]⟩, .string ⟨#[]⟩, .int .u8 0, .int .i64 0, .int .i64 0, .int .i64 0, .int .i64 0, .int .i64 0, .int .i64 0, .int .i64 0] _ _ hk2.out.res) Tryz.underlying23 rfl infoRef) rfl ?_
          exact ⟨_, _, _, HB.out, rfl, below_setRow hk2.out.below (by omega) _⟩
        | false =>
          have HB := Lib.hid (ref_ok (D := 3) HR.out HDL.out HC.out ((bad7_iff (by rw [HDL.out]; decide)).1 HZZ.out))
          rw [HK.out] at HB
          go_wp2_with (refine wpList_store_row rfl _ _ _ rfl (w.heap.size + 1) #[.string (mkS (cutZ (sub l 0 100))), .string (mkS (cutZ (sub l 157 100))), .string (mkS (cutZ (sub l 265 32))), .string (mkS (cutZ (sub l 297 32))), .string ⟨#[]⟩, .int .u8 48, .int .i64 (numAt l 100 8).1, .int .i64 (numAt l 108 8).1, .int .i64 (numAt l 116 8).1, .int .i64 (numAt l 124 12).1, .int .i64 (numAt l 136 12).1, .int .i64 (numAt l 329 8).1, .int .i64 (numAt l 337 8).1] rfl rfl _ _ hk2.out.res infoRef rfl (by kernel_rfl) ?_)
          refine bodyPost_ret (results_row3 rfl _ _ (w.heap.size + 1) _ _ _ _ rfl (setRow_heap _ _ _ #[.string (mkS (cutZ (sub l 0 100))), .string (mkS (cutZ (sub l 157 100))), .string (mkS (cutZ (sub l 265 32))), .string (mkS (cutZ (sub l 297 32))), .string ⟨#[]⟩, .int .u8 48, .int .i64 (numAt l 100 8).1, .int .i64 (numAt l 108 8).1, .int .i64 (numAt l 116 8).1, .int .i64 (numAt l 124 12).1, .int .i64 (numAt l 136 12).1, .int .i64 (numAt l 329 8).1, .int .i64 (numAt l 337 8).1] _ _ hk2.out.res) Tryz.underlying23 rfl infoRef) rfl ?_
          exact ⟨_, _, _, HB.out, rfl, below_setRow hk2.out.below (by omega) _⟩
      · have hk : ((c.toNat : Int) == 0) = false := by rw [beq_eq_false_iff_ne]; intro e; exact hc0 (UInt8.toNat_inj.1 (by show c.toNat = 0; omega))
        have HK := Lib.hid (show kindF c = c by unfold kindF; rw [if_neg hc0])
        obtain ⟨_, _, _, _, _, k5, _⟩ := refAt_of_row qe.out
        have f5 : y5.frozen? ⟨b0, 5, none⟩ = false := frozen_of_row y5 b0 5 _ _ qe.out
        have bx := cell_of_one H5.out.box
        obtain ⟨r0, r1, r2, r3, r4, r5, r6, r7, r8, r9, r10, r11, r12⟩ := refAt_of_row qe.out
        generalize hzz : ((bad5 l || !((numAt l 329 8).2 == 0)) || !((numAt l 337 8).2 == 0)) = zz at bx
        have HZZ := Lib.hid hzz
        clear hzz hc0
        cases zz with
        | true =>
          have HB := Lib.hid (show ReadIs l (rawZ 0) 0 2 from .range l HR.out fun hn => by have := (bad7_iff (by rw [HDL.out]; decide)).2 hn; rw [HZZ.out] at this; cases this)
          go_wp2_with (refine wpList_store_row rfl _ _ _ rfl (w.heap.size + 1) #[.string ⟨#[]⟩, .string ⟨#[]⟩, .string ⟨#[]⟩, .string ⟨#[]⟩, .string ⟨#[]⟩, .int .u8 0, .int .i64 0, .int .i64 0, .int .i64 0, .int .i64 0, .int .i64 0, .int .i64 0, .int .i64 0] rfl rfl _ _ H5.out.res infoRef rfl (by kernel_rfl) ?_)
          refine bodyPost_ret (results_row3 rfl _ _ (w.heap.size + 1) _ _ _ _ rfl (setRow_heap _ _ _ #[.string ⟨#[]⟩, .string ⟨#[]⟩, .string ⟨#[]⟩, .string ⟨#[]⟩, .string ⟨#[]⟩, .int .u8 0, .int .i64 0, .int .i64 0, .int .i64 0, .int .i64 0, .int .i64 0, .int .i64 0, .int .i64 0] _ _ H5.out.res) Tryz.underlying23 rfl infoRef) rfl ?_
          exact ⟨_, _, _, HB.out, rfl, below_setRow H5.out.below (by omega) _⟩
        | false =>
          have HB := Lib.hid (ref_ok (D := 3) HR.out HDL.out HC.out ((bad7_iff (by rw [HDL.out]; decide)).1 HZZ.out))
          rw [HK.out] at HB
          go_wp2_with (refine wpList_store_row rfl _ _ _ rfl (w.heap.size + 1) #[.string (mkS (cutZ (sub l 0 100))), .string (mkS (cutZ (sub l 157 100))), .string (mkS (cutZ (sub l 265 32))), .string (mkS (cutZ (sub l 297 32))), .string ⟨#[]⟩, .int .u8 (c.toNat : Int), .int .i64 (numAt l 100 8).1, .int .i64 (numAt l 108 8).1, .int .i64 (numAt l 116 8).1, .int .i64 (numAt l 124 12).1, .int .i64 (numAt l 136 12).1, .int .i64 (numAt l 329 8).1, .int .i64 (numAt l 337 8).1] rfl rfl _ _ H5.out.res infoRef rfl (by kernel_rfl) ?_)
          refine bodyPost_ret (results_row3 rfl _ _ (w.heap.size + 1) _ _ _ _ rfl (setRow_heap _ _ _ #[.string (mkS (cutZ (sub l 0 100))), .string (mkS (cutZ (sub l 157 100))), .string (mkS (cutZ (sub l 265 32))), .string (mkS (cutZ (sub l 297 32))), .string ⟨#[]⟩, .int .u8 (c.toNat : Int), .int .i64 (numAt l 100 8).1, .int .i64 (numAt l 108 8).1, .int .i64 (numAt l 116 8).1, .int .i64 (numAt l 124 12).1, .int .i64 (numAt l 136 12).1, .int .i64 (numAt l 329 8).1, .int .i64 (numAt l 337 8).1] _ _ H5.out.res) Tryz.underlying23 rfl infoRef) rfl ?_
          exact ⟨_, _, _, HB.out, rfl, below_setRow H5.out.below (by omega) _⟩
  · go_wp2_with fail
    have q3 := fun d os => cell_regrown hS2.out d os
    refine wp_region_quiet_below (by kernel_rfl) (by kernel_rfl) ?_
    repeat (go_big_quiet_step ((go_at_call 9; with_reducible exact Calls.regrown_of (M3.out _))))
    refine wpQuiet_nil ?_
    intro _ hw'
    obtain ⟨⟨dq, osq⟩, hw''⟩ := hw'
    subst hw''
    have hB3 := Lib.hid (hB2.out.trans ((below_regrown u2 dq osq).mono hB2.out.size))
    have hS3 := Lib.hid (q3 dq osq)
    have hZ3 := Lib.hid (((below_regrown u2 dq osq).block _ (Array.getElem?_eq_some_iff.1 hZ2.out).1).trans hZ2.out)
    clear q3 hB2 hZ2 hS2
    dsimp only at *
    generalize Sort.grow (redrawn u2 dq) osq = u3 at *
    clear dq osq
    go_wp2_with fail
    have hH0 := Lib.hid (show HrIs l w u3.heap.size false (u3.alloc (.cells #[.bool false] 4)) from
      ⟨hB3.out.alloc hB3.out.size _, (World.cell?_alloc_lt _ _ _ (block_lt_of_cell hS3.out)).trans hS3.out, (Below.heap_alloc u3 _ _ (Array.getElem?_eq_some_iff.1 hZ3.out).1).trans hZ3.out, heap_alloc_new u3 _, (Array.getElem?_eq_some_iff.1 hZ3.out).1⟩)
    clear hB3 hS3 hZ3
    generalize u3.alloc (.cells #[.bool false] 4) = W0 at *
    generalize u3.heap.size = cB at *
    go_cut [9] from 28 to 44 (fun p wc => ∃ b0, p = .pointer (some ⟨b0, 0, none⟩) ∧ cB < b0 ∧ HrIs l w cB (bad5 l) wc ∧ wc.heap[b0]? = some (.cells #[.string (mkS (cutZ (sub l 0 100))), .string (mkS (cutZ (sub l 157 100))), .string ⟨#[]⟩, .string ⟨#[]⟩, .string ⟨#[]⟩, .int .u8 (c.toNat : Int), .int .i64 (numAt l 100 8).1, .int .i64 (numAt l 108 8).1, .int .i64 (numAt l 116 8).1, .int .i64 (numAt l 124 12).1, .int .i64 (numAt l 136 12).1, .int .i64 0, .int .i64 0] 23 (0, 0)))
    case first =>
      refine wp_region_held_drew (S := fun w' => w'.cell? ⟨w.heap.size, 0, none⟩ = some (.string (mkS l))) (by kernel_rfl) hH0.out.drew.str (fun hHeld => ?_)
      have hv0 := Lib.hid hH0.out.drew
      generalize W0.drew = v0 at *
      refine take_to (i := 0) 28 (.func (.func 10) #[] #[.pointer (some ⟨w.heap.size, 0, none⟩)]) rfl rfl (by kernel_rfl) (by kernel_rfl) (by kernel_rfl) (fun _ _ _ h => h) (Or.inl ⟨by rfl, fun _ _ => rfl⟩) (by assumption) ?_
      simp only [List.setIfInBounds_toArray, List.set_cons_succ, List.set_cons_zero]
      refine take_to (i := 14) 42 (.func (.func 10) #[] #[.pointer (some ⟨w.heap.size, 0, none⟩)]) rfl rfl (by kernel_rfl) (by kernel_rfl) (by kernel_rfl) (fun _ _ _ h => h) (Or.inl ⟨by rfl, fun _ _ => rfl⟩) (by assumption) ?_
      simp only [List.setIfInBounds_toArray, List.set_cons_succ, List.set_cons_zero]
      refine take_to (i := 2) 30 (.func (.func 12) #[] #[.pointer (some ⟨w.heap.size, 0, none⟩), .pointer (some ⟨cB, 0, none⟩)]) rfl rfl (by kernel_rfl) (by kernel_rfl) (by kernel_rfl) (fun _ _ _ h => h) (Or.inl ⟨by rfl, fun _ _ => rfl⟩) (by assumption) ?_
      simp only [List.setIfInBounds_toArray, List.set_cons_succ, List.set_cons_zero]
      refine take_to (i := 4) 32 (.func (.func 12) #[] #[.pointer (some ⟨w.heap.size, 0, none⟩), .pointer (some ⟨cB, 0, none⟩)]) rfl rfl (by kernel_rfl) (by kernel_rfl) (by kernel_rfl) (fun _ _ _ h => h) (Or.inl ⟨by rfl, fun _ _ => rfl⟩) (by assumption) ?_
      simp only [List.setIfInBounds_toArray, List.set_cons_succ, List.set_cons_zero]
      refine take_to (i := 6) 34 (.func (.func 12) #[] #[.pointer (some ⟨w.heap.size, 0, none⟩), .pointer (some ⟨cB, 0, none⟩)]) rfl rfl (by kernel_rfl) (by kernel_rfl) (by kernel_rfl) (fun _ _ _ h => h) (Or.inl ⟨by rfl, fun _ _ => rfl⟩) (by assumption) ?_
      simp only [List.setIfInBounds_toArray, List.set_cons_succ, List.set_cons_zero]
      refine take_to (i := 8) 36 (.func (.func 12) #[] #[.pointer (some ⟨w.heap.size, 0, none⟩), .pointer (some ⟨cB, 0, none⟩)]) rfl rfl (by kernel_rfl) (by kernel_rfl) (by kernel_rfl) (fun _ _ _ h => h) (Or.inl ⟨by rfl, fun _ _ => rfl⟩) (by assumption) ?_
      simp only [List.setIfInBounds_toArray, List.set_cons_succ, List.set_cons_zero]
      refine take_to (i := 10) 38 (.func (.func 12) #[] #[.pointer (some ⟨w.heap.size, 0, none⟩), .pointer (some ⟨cB, 0, none⟩)]) rfl rfl (by kernel_rfl) (by kernel_rfl) (by kernel_rfl) (fun _ _ _ h => h) (Or.inl ⟨by rfl, fun _ _ => rfl⟩) (by assumption) ?_
      simp only [List.setIfInBounds_toArray, List.set_cons_succ, List.set_cons_zero]
      refine take_to (i := 12) 40 (.string (mkS l)) rfl rfl (by kernel_rfl) (by kernel_rfl) (by kernel_rfl) (fun _ _ _ h => h) (Or.inl ⟨by rfl, ?_⟩) (by assumption) ?_
      · (intro w hSw; go_simp; try with_reducible rfl)
      simp only [List.setIfInBounds_toArray, List.set_cons_succ, List.set_cons_zero]
      refine take_to (i := 13) 41 (.int .u8 (c.toNat : Int)) rfl rfl (by kernel_rfl) (by kernel_rfl) (by kernel_rfl) (fun _ _ _ h => h) (Or.inl ⟨by rfl, ?_⟩) (by assumption) ?_
      · (intro w hSw; go_simp; try with_reducible rfl)
      simp only [List.setIfInBounds_toArray, List.set_cons_succ, List.set_cons_zero]
      clear i1 m1 e2 e3 C1 M2 M3 s1 hH0
      refine wpAnyH_ready (rs := [1, 17]) (by kernel_rfl) (by simp) ?_
      refine AllReadyH.cons rfl (fun K hK => ?_) ?_
      · rw [if_pos (by rfl)]
        refine call_at (R := fun v V => v = .string (mkS (cutZ (sub l 0 100))) ∧ Below v0.heap.size v0 V) 29 rfl 10 #[.int .i64 0, .int .i64 100, .pointer (some ⟨w.heap.size, 0, none⟩)] (by kernel_rfl) ((refText_any l w.heap.size 0 100 (by omega) (by omega) _ hv0.out.str).mono (by rintro e V ⟨he, hb⟩; exact ⟨_, he, rfl, hb⟩)) ?_
        rintro _ v1 ⟨rfl, h4⟩
        have hv1 := Lib.hid (hv0.out.text h4)
        refine hK.out _ _ hv1.out.str (fun hHeld => ?_)
        clear hK h4
        (try simp only [Act.put]); (try simp only [List.setIfInBounds_toArray]); (try simp only [List.set_cons_succ]); (try simp only [List.set_cons_zero])
        refine wpAnyH_ready (rs := [3, 17]) (by kernel_rfl) (by simp) ?_
        refine AllReadyH.cons rfl (fun K hK => ?_) ?_
        · rw [if_pos (by rfl)]
          refine call_at (R := fun v V => v = .int .i64 (numAt l 100 8).1 ∧ V.heap[cB]? = some (.cells #[.bool (false || !((numAt l 100 8).2 == 0))] 4 (0, 0)) ∧ But v1.heap.size cB v1 V) 31 rfl 12 #[.int .i64 100, .int .i64 8, .pointer (some ⟨w.heap.size, 0, none⟩), .pointer (some ⟨cB, 0, none⟩)] (by kernel_rfl) ((refNum_any l w.heap.size cB 100 8 false (by omega) (by omega) _ hv1.out.str hv1.out.box).mono (by rintro e V ⟨he, hx, hb⟩; exact ⟨_, he, rfl, hx, hb⟩)) ?_
          rintro _ v2 ⟨rfl, hx4, h4⟩
          have hv2 := Lib.hid (hv1.out.num h4 hx4)
          refine hK.out _ _ hv2.out.str (fun hHeld => ?_)
          clear hK h4
          (try simp only [Act.put]); (try simp only [List.setIfInBounds_toArray]); (try simp only [List.set_cons_succ]); (try simp only [List.set_cons_zero])
          refine wpAnyH_ready (rs := [5, 17]) (by kernel_rfl) (by simp) ?_
          refine AllReadyH.cons rfl (fun K hK => ?_) ?_
          · rw [if_pos (by rfl)]
            refine call_at (R := fun v V => v = .int .i64 (numAt l 108 8).1 ∧ V.heap[cB]? = some (.cells #[.bool ((false || !((numAt l 100 8).2 == 0)) || !((numAt l 108 8).2 == 0))] 4 (0, 0)) ∧ But v2.heap.size cB v2 V) 33 rfl 12 #[.int .i64 108, .int .i64 8, .pointer (some ⟨w.heap.size, 0, none⟩), .pointer (some ⟨cB, 0, none⟩)] (by kernel_rfl) ((refNum_any l w.heap.size cB 108 8 (false || !((numAt l 100 8).2 == 0)) (by omega) (by omega) _ hv2.out.str hv2.out.box).mono (by rintro e V ⟨he, hx, hb⟩; exact ⟨_, he, rfl, hx, hb⟩)) ?_
            rintro _ v3 ⟨rfl, hx4, h4⟩
            have hv3 := Lib.hid (hv2.out.num h4 hx4)
            refine hK.out _ _ hv3.out.str (fun hHeld => ?_)
            clear hK h4
            (try simp only [Act.put]); (try simp only [List.setIfInBounds_toArray]); (try simp only [List.set_cons_succ]); (try simp only [List.set_cons_zero])
            refine wpAnyH_ready (rs := [7, 17]) (by kernel_rfl) (by simp) ?_
            refine AllReadyH.cons rfl (fun K hK => ?_) ?_
            · rw [if_pos (by rfl)]
              refine call_at (R := fun v V => v = .int .i64 (numAt l 116 8).1 ∧ V.heap[cB]? = some (.cells #[.bool (((false || !((numAt l 100 8).2 == 0)) || !((numAt l 108 8).2 == 0)) || !((numAt l 116 8).2 == 0))] 4 (0, 0)) ∧ But v3.heap.size cB v3 V) 35 rfl 12 #[.int .i64 116, .int .i64 8, .pointer (some ⟨w.heap.size, 0, none⟩), .pointer (some ⟨cB, 0, none⟩)] (by kernel_rfl) ((refNum_any l w.heap.size cB 116 8 ((false || !((numAt l 100 8).2 == 0)) || !((numAt l 108 8).2 == 0)) (by omega) (by omega) _ hv3.out.str hv3.out.box).mono (by rintro e V ⟨he, hx, hb⟩; exact ⟨_, he, rfl, hx, hb⟩)) ?_
              rintro _ v4 ⟨rfl, hx4, h4⟩
              have hv4 := Lib.hid (hv3.out.num h4 hx4)
              refine hK.out _ _ hv4.out.str (fun hHeld => ?_)
              clear hK h4
              (try simp only [Act.put]); (try simp only [List.setIfInBounds_toArray]); (try simp only [List.set_cons_succ]); (try simp only [List.set_cons_zero])
              refine wpAnyH_ready (rs := [9, 17]) (by kernel_rfl) (by simp) ?_
              refine AllReadyH.cons rfl (fun K hK => ?_) ?_
              · rw [if_pos (by rfl)]
                refine call_at (R := fun v V => v = .int .i64 (numAt l 124 12).1 ∧ V.heap[cB]? = some (.cells #[.bool ((((false || !((numAt l 100 8).2 == 0)) || !((numAt l 108 8).2 == 0)) || !((numAt l 116 8).2 == 0)) || !((numAt l 124 12).2 == 0))] 4 (0, 0)) ∧ But v4.heap.size cB v4 V) 37 rfl 12 #[.int .i64 124, .int .i64 12, .pointer (some ⟨w.heap.size, 0, none⟩), .pointer (some ⟨cB, 0, none⟩)] (by kernel_rfl) ((refNum_any l w.heap.size cB 124 12 (((false || !((numAt l 100 8).2 == 0)) || !((numAt l 108 8).2 == 0)) || !((numAt l 116 8).2 == 0)) (by omega) (by omega) _ hv4.out.str hv4.out.box).mono (by rintro e V ⟨he, hx, hb⟩; exact ⟨_, he, rfl, hx, hb⟩)) ?_
                rintro _ v5 ⟨rfl, hx4, h4⟩
                have hv5 := Lib.hid (hv4.out.num h4 hx4)
                refine hK.out _ _ hv5.out.str (fun hHeld => ?_)
                clear hK h4
                (try simp only [Act.put]); (try simp only [List.setIfInBounds_toArray]); (try simp only [List.set_cons_succ]); (try simp only [List.set_cons_zero])
                refine wpAnyH_ready (rs := [11, 17]) (by kernel_rfl) (by simp) ?_
                refine AllReadyH.cons rfl (fun K hK => ?_) ?_
                · rw [if_pos (by rfl)]
                  refine call_at (R := fun v V => v = .int .i64 (numAt l 136 12).1 ∧ V.heap[cB]? = some (.cells #[.bool (((((false || !((numAt l 100 8).2 == 0)) || !((numAt l 108 8).2 == 0)) || !((numAt l 116 8).2 == 0)) || !((numAt l 124 12).2 == 0)) || !((numAt l 136 12).2 == 0))] 4 (0, 0)) ∧ But v5.heap.size cB v5 V) 39 rfl 12 #[.int .i64 136, .int .i64 12, .pointer (some ⟨w.heap.size, 0, none⟩), .pointer (some ⟨cB, 0, none⟩)] (by kernel_rfl) ((refNum_any l w.heap.size cB 136 12 ((((false || !((numAt l 100 8).2 == 0)) || !((numAt l 108 8).2 == 0)) || !((numAt l 116 8).2 == 0)) || !((numAt l 124 12).2 == 0)) (by omega) (by omega) _ hv5.out.str hv5.out.box).mono (by rintro e V ⟨he, hx, hb⟩; exact ⟨_, he, rfl, hx, hb⟩)) ?_
                  rintro _ v6 ⟨rfl, hx4, h4⟩
                  have hv6 := Lib.hid (hv5.out.num h4 hx4)
                  refine hK.out _ _ hv6.out.str (fun hHeld => ?_)
                  clear hK h4
                  (try simp only [Act.put]); (try simp only [List.setIfInBounds_toArray]); (try simp only [List.set_cons_succ]); (try simp only [List.set_cons_zero])
                  refine wpAnyH_ready (rs := [15, 17]) (by kernel_rfl) (by simp) ?_
                  refine AllReadyH.cons rfl (fun K hK => ?_) ?_
                  · rw [if_pos (by rfl)]
                    refine call_at (R := fun v V => v = .string (mkS (cutZ (sub l 157 100))) ∧ Below v6.heap.size v6 V) 43 rfl 10 #[.int .i64 157, .int .i64 100, .pointer (some ⟨w.heap.size, 0, none⟩)] (by kernel_rfl) ((refText_any l w.heap.size 157 100 (by omega) (by omega) _ hv6.out.str).mono (by rintro e V ⟨he, hb⟩; exact ⟨_, he, rfl, hb⟩)) ?_
                    rintro _ v7 ⟨rfl, h4⟩
                    have hv7 := Lib.hid (hv6.out.text h4)
                    refine hK.out _ _ hv7.out.str (fun hHeld => ?_)
                    clear hK h4
                    (try simp only [Act.put]); (try simp only [List.setIfInBounds_toArray]); (try simp only [List.set_cons_succ]); (try simp only [List.set_cons_zero])
                    refine take_to (i := 16) 44 (.agg #[.string (mkS (cutZ (sub l 0 100))), .string (mkS (cutZ (sub l 157 100))), .string ⟨#[]⟩, .string ⟨#[]⟩, .string ⟨#[]⟩, .int .u8 (c.toNat : Int), .int .i64 (numAt l 100 8).1, .int .i64 (numAt l 108 8).1, .int .i64 (numAt l 116 8).1, .int .i64 (numAt l 124 12).1, .int .i64 (numAt l 136 12).1, .int .i64 0, .int .i64 0]) rfl rfl (by kernel_rfl) (by kernel_rfl) (by kernel_rfl) (fun _ _ _ h => h) (Or.inl ⟨by rfl, fun _ _ => by kernel_rfl⟩) (by assumption) ?_
                    simp only [List.setIfInBounds_toArray, List.set_cons_succ, List.set_cons_zero]
                    refine wpAnyH_ready (rs := [17]) (by kernel_rfl) (by simp) ?_
                    refine AllReadyH.cons rfl (fun K hK => ?_) ?_
                    · rw [if_pos (by rfl)]
                      refine alloc_row_to 9 rfl _ rfl _ (zeroRef _) ?_
                      have hv8 := Lib.hid (hv7.out.alloc (.cells #[.string ⟨#[]⟩, .string ⟨#[]⟩, .string ⟨#[]⟩, .string ⟨#[]⟩, .string ⟨#[]⟩, .int .u8 0, .int .i64 0, .int .i64 0, .int .i64 0, .int .i64 0, .int .i64 0, .int .i64 0, .int .i64 0] 23))
                      have hqv8 := Lib.hid (heap_alloc_new v7 (.cells #[.string ⟨#[]⟩, .string ⟨#[]⟩, .string ⟨#[]⟩, .string ⟨#[]⟩, .string ⟨#[]⟩, .int .u8 0, .int .i64 0, .int .i64 0, .int .i64 0, .int .i64 0, .int .i64 0, .int .i64 0, .int .i64 0] 23))
                      have hb := Lib.hid (hv7.out.below_box)
                      refine hK.out _ _ hv8.out.str (fun hHeld => ?_)
                      clear hK
                      (try simp only [Act.put]); (try simp only [List.setIfInBounds_toArray]); (try simp only [List.set_cons_succ]); (try simp only [List.set_cons_zero])
                      generalize v7.alloc (.cells #[.string ⟨#[]⟩, .string ⟨#[]⟩, .string ⟨#[]⟩, .string ⟨#[]⟩, .string ⟨#[]⟩, .int .u8 0, .int .i64 0, .int .i64 0, .int .i64 0, .int .i64 0, .int .i64 0, .int .i64 0, .int .i64 0] 23) = v8 at *
                      generalize v7.heap.size = b0 at *
                      refine wpAnyH_ready (rs := [18]) (by kernel_rfl) (by simp) ?_
                      refine AllReadyH.cons rfl (fun K hK => ?_) AllReadyH.nil
                      rw [if_pos (by rfl)]
                      refine store_row_no rfl _ _ _ rfl b0 #[.string (mkS (cutZ (sub l 0 100))), .string (mkS (cutZ (sub l 157 100))), .string ⟨#[]⟩, .string ⟨#[]⟩, .string ⟨#[]⟩, .int .u8 (c.toNat : Int), .int .i64 (numAt l 100 8).1, .int .i64 (numAt l 108 8).1, .int .i64 (numAt l 116 8).1, .int .i64 (numAt l 124 12).1, .int .i64 (numAt l 136 12).1, .int .i64 0, .int .i64 0] rfl rfl _ _ hqv8.out infoRef rfl (by kernel_rfl) ?_
                      have h9 := Lib.hid (hv8.out.set hb.out #[.string (mkS (cutZ (sub l 0 100))), .string (mkS (cutZ (sub l 157 100))), .string ⟨#[]⟩, .string ⟨#[]⟩, .string ⟨#[]⟩, .int .u8 (c.toNat : Int), .int .i64 (numAt l 100 8).1, .int .i64 (numAt l 108 8).1, .int .i64 (numAt l 116 8).1, .int .i64 (numAt l 124 12).1, .int .i64 (numAt l 136 12).1, .int .i64 0, .int .i64 0])
                      have hq9 := Lib.hid (setRow_heap v8 _ _ #[.string (mkS (cutZ (sub l 0 100))), .string (mkS (cutZ (sub l 157 100))), .string ⟨#[]⟩, .string ⟨#[]⟩, .string ⟨#[]⟩, .int .u8 (c.toNat : Int), .int .i64 (numAt l 100 8).1, .int .i64 (numAt l 108 8).1, .int .i64 (numAt l 116 8).1, .int .i64 (numAt l 124 12).1, .int .i64 (numAt l 136 12).1, .int .i64 0, .int .i64 0] _ _ hqv8.out)
                      refine hK.out _ _ h9.out.str (fun hHeld => ?_)
                      clear hK
                      (try simp only [Act.put]); (try simp only [List.setIfInBounds_toArray]); (try simp only [List.set_cons_succ]); (try simp only [List.set_cons_zero])
                      refine wpAnyH_done (by kernel_rfl) ?_ _
                      go_wp2_with fail
                      go_meet
                      exact ⟨b0, rfl, hb.out, h9.out, hq9.out⟩
                    exact AllReadyH.nil
                  refine AllReadyH.cons rfl (fun K hK => ?_) ?_
                  · rw [if_pos (by rfl)]
                    refine alloc_row_to 9 rfl _ rfl _ (zeroRef _) ?_
                    have hv9 := Lib.hid (hv6.out.alloc (.cells #[.string ⟨#[]⟩, .string ⟨#[]⟩, .string ⟨#[]⟩, .string ⟨#[]⟩, .string ⟨#[]⟩, .int .u8 0, .int .i64 0, .int .i64 0, .int .i64 0, .int .i64 0, .int .i64 0, .int .i64 0, .int .i64 0] 23))
                    have hqv9 := Lib.hid (heap_alloc_new v6 (.cells #[.string ⟨#[]⟩, .string ⟨#[]⟩, .string ⟨#[]⟩, .string ⟨#[]⟩, .string ⟨#[]⟩, .int .u8 0, .int .i64 0, .int .i64 0, .int .i64 0, .int .i64 0, .int .i64 0, .int .i64 0, .int .i64 0] 23))
                    have hb := Lib.hid (hv6.out.below_box)
                    refine hK.out _ _ hv9.out.str (fun hHeld => ?_)
                    clear hK
                    (try simp only [Act.put]); (try simp only [List.setIfInBounds_toArray]); (try simp only [List.set_cons_succ]); (try simp only [List.set_cons_zero])
                    generalize v6.alloc (.cells #[.string ⟨#[]⟩, .string ⟨#[]⟩, .string ⟨#[]⟩, .string ⟨#[]⟩, .string ⟨#[]⟩, .int .u8 0, .int .i64 0, .int .i64 0, .int .i64 0, .int .i64 0, .int .i64 0, .int .i64 0, .int .i64 0] 23) = v9 at *
                    generalize v6.heap.size = b0 at *
                    refine wpAnyH_ready (rs := [15]) (by kernel_rfl) (by simp) ?_
                    refine AllReadyH.cons rfl (fun K hK => ?_) ?_
                    · rw [if_pos (by rfl)]
                      refine call_at (R := fun v V => v = .string (mkS (cutZ (sub l 157 100))) ∧ Below v9.heap.size v9 V) 43 rfl 10 #[.int .i64 157, .int .i64 100, .pointer (some ⟨w.heap.size, 0, none⟩)] (by kernel_rfl) ((refText_any l w.heap.size 157 100 (by omega) (by omega) _ hv9.out.str).mono (by rintro e V ⟨he, hb⟩; exact ⟨_, he, rfl, hb⟩)) ?_
                      rintro _ v10 ⟨rfl, h4⟩
                      have hv10 := Lib.hid (hv9.out.text h4)
                      have hqv10 := Lib.hid ((h4.block b0 (Array.getElem?_eq_some_iff.1 hqv9.out).1).trans hqv9.out)
                      refine hK.out _ _ hv10.out.str (fun hHeld => ?_)
                      clear hK h4
                      (try simp only [Act.put]); (try simp only [List.setIfInBounds_toArray]); (try simp only [List.set_cons_succ]); (try simp only [List.set_cons_zero])
                      refine take_to (i := 16) 44 (.agg #[.string (mkS (cutZ (sub l 0 100))), .string (mkS (cutZ (sub l 157 100))), .string ⟨#[]⟩, .string ⟨#[]⟩, .string ⟨#[]⟩, .int .u8 (c.toNat : Int), .int .i64 (numAt l 100 8).1, .int .i64 (numAt l 108 8).1, .int .i64 (numAt l 116 8).1, .int .i64 (numAt l 124 12).1, .int .i64 (numAt l 136 12).1, .int .i64 0, .int .i64 0]) rfl rfl (by kernel_rfl) (by kernel_rfl) (by kernel_rfl) (fun _ _ _ h => h) (Or.inl ⟨by rfl, fun _ _ => by kernel_rfl⟩) (by assumption) ?_
                      simp only [List.setIfInBounds_toArray, List.set_cons_succ, List.set_cons_zero]
                      refine wpAnyH_ready (rs := [18]) (by kernel_rfl) (by simp) ?_
                      refine AllReadyH.cons rfl (fun K hK => ?_) AllReadyH.nil
                      rw [if_pos (by rfl)]
                      refine store_row_no rfl _ _ _ rfl b0 #[.string (mkS (cutZ (sub l 0 100))), .string (mkS (cutZ (sub l 157 100))), .string ⟨#[]⟩, .string ⟨#[]⟩, .string ⟨#[]⟩, .int .u8 (c.toNat : Int), .int .i64 (numAt l 100 8).1, .int .i64 (numAt l 108 8).1, .int .i64 (numAt l 116 8).1, .int .i64 (numAt l 124 12).1, .int .i64 (numAt l 136 12).1, .int .i64 0, .int .i64 0] rfl rfl _ _ hqv10.out infoRef rfl (by kernel_rfl) ?_
                      have h9 := Lib.hid (hv10.out.set hb.out #[.string (mkS (cutZ (sub l 0 100))), .string (mkS (cutZ (sub l 157 100))), .string ⟨#[]⟩, .string ⟨#[]⟩, .string ⟨#[]⟩, .int .u8 (c.toNat : Int), .int .i64 (numAt l 100 8).1, .int .i64 (numAt l 108 8).1, .int .i64 (numAt l 116 8).1, .int .i64 (numAt l 124 12).1, .int .i64 (numAt l 136 12).1, .int .i64 0, .int .i64 0])
                      have hq9 := Lib.hid (setRow_heap v10 _ _ #[.string (mkS (cutZ (sub l 0 100))), .string (mkS (cutZ (sub l 157 100))), .string ⟨#[]⟩, .string ⟨#[]⟩, .string ⟨#[]⟩, .int .u8 (c.toNat : Int), .int .i64 (numAt l 100 8).1, .int .i64 (numAt l 108 8).1, .int .i64 (numAt l 116 8).1, .int .i64 (numAt l 124 12).1, .int .i64 (numAt l 136 12).1, .int .i64 0, .int .i64 0] _ _ hqv10.out)
                      refine hK.out _ _ h9.out.str (fun hHeld => ?_)
                      clear hK
                      (try simp only [Act.put]); (try simp only [List.setIfInBounds_toArray]); (try simp only [List.set_cons_succ]); (try simp only [List.set_cons_zero])
                      refine wpAnyH_done (by kernel_rfl) ?_ _
                      go_wp2_with fail
                      go_meet
                      exact ⟨b0, rfl, hb.out, h9.out, hq9.out⟩
                    exact AllReadyH.nil
                  exact AllReadyH.nil
                refine AllReadyH.cons rfl (fun K hK => ?_) ?_
                · rw [if_pos (by rfl)]
                  refine alloc_row_to 9 rfl _ rfl _ (zeroRef _) ?_
                  have hv11 := Lib.hid (hv5.out.alloc (.cells #[.string ⟨#[]⟩, .string ⟨#[]⟩, .string ⟨#[]⟩, .string ⟨#[]⟩, .string ⟨#[]⟩, .int .u8 0, .int .i64 0, .int .i64 0, .int .i64 0, .int .i64 0, .int .i64 0, .int .i64 0, .int .i64 0] 23))
                  have hqv11 := Lib.hid (heap_alloc_new v5 (.cells #[.string ⟨#[]⟩, .string ⟨#[]⟩, .string ⟨#[]⟩, .string ⟨#[]⟩, .string ⟨#[]⟩, .int .u8 0, .int .i64 0, .int .i64 0, .int .i64 0, .int .i64 0, .int .i64 0, .int .i64 0, .int .i64 0] 23))
                  have hb := Lib.hid (hv5.out.below_box)
                  refine hK.out _ _ hv11.out.str (fun hHeld => ?_)
                  clear hK
                  (try simp only [Act.put]); (try simp only [List.setIfInBounds_toArray]); (try simp only [List.set_cons_succ]); (try simp only [List.set_cons_zero])
                  generalize v5.alloc (.cells #[.string ⟨#[]⟩, .string ⟨#[]⟩, .string ⟨#[]⟩, .string ⟨#[]⟩, .string ⟨#[]⟩, .int .u8 0, .int .i64 0, .int .i64 0, .int .i64 0, .int .i64 0, .int .i64 0, .int .i64 0, .int .i64 0] 23) = v11 at *
                  generalize v5.heap.size = b0 at *
                  refine wpAnyH_ready (rs := [11]) (by kernel_rfl) (by simp) ?_
                  refine AllReadyH.cons rfl (fun K hK => ?_) ?_
                  · rw [if_pos (by rfl)]
                    refine call_at (R := fun v V => v = .int .i64 (numAt l 136 12).1 ∧ V.heap[cB]? = some (.cells #[.bool (((((false || !((numAt l 100 8).2 == 0)) || !((numAt l 108 8).2 == 0)) || !((numAt l 116 8).2 == 0)) || !((numAt l 124 12).2 == 0)) || !((numAt l 136 12).2 == 0))] 4 (0, 0)) ∧ But v11.heap.size cB v11 V) 39 rfl 12 #[.int .i64 136, .int .i64 12, .pointer (some ⟨w.heap.size, 0, none⟩), .pointer (some ⟨cB, 0, none⟩)] (by kernel_rfl) ((refNum_any l w.heap.size cB 136 12 ((((false || !((numAt l 100 8).2 == 0)) || !((numAt l 108 8).2 == 0)) || !((numAt l 116 8).2 == 0)) || !((numAt l 124 12).2 == 0)) (by omega) (by omega) _ hv11.out.str hv11.out.box).mono (by rintro e V ⟨he, hx, hb⟩; exact ⟨_, he, rfl, hx, hb⟩)) ?_
                    rintro _ v12 ⟨rfl, hx4, h4⟩
                    have hv12 := Lib.hid (hv11.out.num h4 hx4)
                    have hqv12 := Lib.hid ((h4.block b0 (Array.getElem?_eq_some_iff.1 hqv11.out).1 (Nat.ne_of_gt hb.out)).trans hqv11.out)
                    refine hK.out _ _ hv12.out.str (fun hHeld => ?_)
                    clear hK h4
                    (try simp only [Act.put]); (try simp only [List.setIfInBounds_toArray]); (try simp only [List.set_cons_succ]); (try simp only [List.set_cons_zero])
                    refine wpAnyH_ready (rs := [15]) (by kernel_rfl) (by simp) ?_
                    refine AllReadyH.cons rfl (fun K hK => ?_) ?_
                    · rw [if_pos (by rfl)]
                      refine call_at (R := fun v V => v = .string (mkS (cutZ (sub l 157 100))) ∧ Below v12.heap.size v12 V) 43 rfl 10 #[.int .i64 157, .int .i64 100, .pointer (some ⟨w.heap.size, 0, none⟩)] (by kernel_rfl) ((refText_any l w.heap.size 157 100 (by omega) (by omega) _ hv12.out.str).mono (by rintro e V ⟨he, hb⟩; exact ⟨_, he, rfl, hb⟩)) ?_
                      rintro _ v13 ⟨rfl, h4⟩
                      have hv13 := Lib.hid (hv12.out.text h4)
                      have hqv13 := Lib.hid ((h4.block b0 (Array.getElem?_eq_some_iff.1 hqv12.out).1).trans hqv12.out)
                      refine hK.out _ _ hv13.out.str (fun hHeld => ?_)
                      clear hK h4
                      (try simp only [Act.put]); (try simp only [List.setIfInBounds_toArray]); (try simp only [List.set_cons_succ]); (try simp only [List.set_cons_zero])
                      refine take_to (i := 16) 44 (.agg #[.string (mkS (cutZ (sub l 0 100))), .string (mkS (cutZ (sub l 157 100))), .string ⟨#[]⟩, .string ⟨#[]⟩, .string ⟨#[]⟩, .int .u8 (c.toNat : Int), .int .i64 (numAt l 100 8).1, .int .i64 (numAt l 108 8).1, .int .i64 (numAt l 116 8).1, .int .i64 (numAt l 124 12).1, .int .i64 (numAt l 136 12).1, .int .i64 0, .int .i64 0]) rfl rfl (by kernel_rfl) (by kernel_rfl) (by kernel_rfl) (fun _ _ _ h => h) (Or.inl ⟨by rfl, fun _ _ => by kernel_rfl⟩) (by assumption) ?_
                      simp only [List.setIfInBounds_toArray, List.set_cons_succ, List.set_cons_zero]
                      refine wpAnyH_ready (rs := [18]) (by kernel_rfl) (by simp) ?_
                      refine AllReadyH.cons rfl (fun K hK => ?_) AllReadyH.nil
                      rw [if_pos (by rfl)]
                      refine store_row_no rfl _ _ _ rfl b0 #[.string (mkS (cutZ (sub l 0 100))), .string (mkS (cutZ (sub l 157 100))), .string ⟨#[]⟩, .string ⟨#[]⟩, .string ⟨#[]⟩, .int .u8 (c.toNat : Int), .int .i64 (numAt l 100 8).1, .int .i64 (numAt l 108 8).1, .int .i64 (numAt l 116 8).1, .int .i64 (numAt l 124 12).1, .int .i64 (numAt l 136 12).1, .int .i64 0, .int .i64 0] rfl rfl _ _ hqv13.out infoRef rfl (by kernel_rfl) ?_
                      have h9 := Lib.hid (hv13.out.set hb.out #[.string (mkS (cutZ (sub l 0 100))), .string (mkS (cutZ (sub l 157 100))), .string ⟨#[]⟩, .string ⟨#[]⟩, .string ⟨#[]⟩, .int .u8 (c.toNat : Int), .int .i64 (numAt l 100 8).1, .int .i64 (numAt l 108 8).1, .int .i64 (numAt l 116 8).1, .int .i64 (numAt l 124 12).1, .int .i64 (numAt l 136 12).1, .int .i64 0, .int .i64 0])
                      have hq9 := Lib.hid (setRow_heap v13 _ _ #[.string (mkS (cutZ (sub l 0 100))), .string (mkS (cutZ (sub l 157 100))), .string ⟨#[]⟩, .string ⟨#[]⟩, .string ⟨#[]⟩, .int .u8 (c.toNat : Int), .int .i64 (numAt l 100 8).1, .int .i64 (numAt l 108 8).1, .int .i64 (numAt l 116 8).1, .int .i64 (numAt l 124 12).1, .int .i64 (numAt l 136 12).1, .int .i64 0, .int .i64 0] _ _ hqv13.out)
                      refine hK.out _ _ h9.out.str (fun hHeld => ?_)
                      clear hK
                      (try simp only [Act.put]); (try simp only [List.setIfInBounds_toArray]); (try simp only [List.set_cons_succ]); (try simp only [List.set_cons_zero])
                      refine wpAnyH_done (by kernel_rfl) ?_ _
                      go_wp2_with fail
                      go_meet
                      exact ⟨b0, rfl, hb.out, h9.out, hq9.out⟩
                    exact AllReadyH.nil
                  exact AllReadyH.nil
                exact AllReadyH.nil
              refine AllReadyH.cons rfl (fun K hK => ?_) ?_
              · rw [if_pos (by rfl)]
                refine alloc_row_to 9 rfl _ rfl _ (zeroRef _) ?_
                have hv14 := Lib.hid (hv4.out.alloc (.cells #[.string ⟨#[]⟩, .string ⟨#[]⟩, .string ⟨#[]⟩, .string ⟨#[]⟩, .string ⟨#[]⟩, .int .u8 0, .int .i64 0, .int .i64 0, .int .i64 0, .int .i64 0, .int .i64 0, .int .i64 0, .int .i64 0] 23))
                have hqv14 := Lib.hid (heap_alloc_new v4 (.cells #[.string ⟨#[]⟩, .string ⟨#[]⟩, .string ⟨#[]⟩, .string ⟨#[]⟩, .string ⟨#[]⟩, .int .u8 0, .int .i64 0, .int .i64 0, .int .i64 0, .int .i64 0, .int .i64 0, .int .i64 0, .int .i64 0] 23))
                have hb := Lib.hid (hv4.out.below_box)
                refine hK.out _ _ hv14.out.str (fun hHeld => ?_)
                clear hK
                (try simp only [Act.put]); (try simp only [List.setIfInBounds_toArray]); (try simp only [List.set_cons_succ]); (try simp only [List.set_cons_zero])
                generalize v4.alloc (.cells #[.string ⟨#[]⟩, .string ⟨#[]⟩, .string ⟨#[]⟩, .string ⟨#[]⟩, .string ⟨#[]⟩, .int .u8 0, .int .i64 0, .int .i64 0, .int .i64 0, .int .i64 0, .int .i64 0, .int .i64 0, .int .i64 0] 23) = v14 at *
                generalize v4.heap.size = b0 at *
                refine wpAnyH_ready (rs := [9]) (by kernel_rfl) (by simp) ?_
                refine AllReadyH.cons rfl (fun K hK => ?_) ?_
                · rw [if_pos (by rfl)]
                  refine call_at (R := fun v V => v = .int .i64 (numAt l 124 12).1 ∧ V.heap[cB]? = some (.cells #[.bool ((((false || !((numAt l 100 8).2 == 0)) || !((numAt l 108 8).2 == 0)) || !((numAt l 116 8).2 == 0)) || !((numAt l 124 12).2 == 0))] 4 (0, 0)) ∧ But v14.heap.size cB v14 V) 37 rfl 12 #[.int .i64 124, .int .i64 12, .pointer (some ⟨w.heap.size, 0, none⟩), .pointer (some ⟨cB, 0, none⟩)] (by kernel_rfl) ((refNum_any l w.heap.size cB 124 12 (((false || !((numAt l 100 8).2 == 0)) || !((numAt l 108 8).2 == 0)) || !((numAt l 116 8).2 == 0)) (by omega) (by omega) _ hv14.out.str hv14.out.box).mono (by rintro e V ⟨he, hx, hb⟩; exact ⟨_, he, rfl, hx, hb⟩)) ?_
                  rintro _ v15 ⟨rfl, hx4, h4⟩
                  have hv15 := Lib.hid (hv14.out.num h4 hx4)
                  have hqv15 := Lib.hid ((h4.block b0 (Array.getElem?_eq_some_iff.1 hqv14.out).1 (Nat.ne_of_gt hb.out)).trans hqv14.out)
                  refine hK.out _ _ hv15.out.str (fun hHeld => ?_)
                  clear hK h4
                  (try simp only [Act.put]); (try simp only [List.setIfInBounds_toArray]); (try simp only [List.set_cons_succ]); (try simp only [List.set_cons_zero])
                  refine wpAnyH_ready (rs := [11]) (by kernel_rfl) (by simp) ?_
                  refine AllReadyH.cons rfl (fun K hK => ?_) ?_
                  · rw [if_pos (by rfl)]
                    refine call_at (R := fun v V => v = .int .i64 (numAt l 136 12).1 ∧ V.heap[cB]? = some (.cells #[.bool (((((false || !((numAt l 100 8).2 == 0)) || !((numAt l 108 8).2 == 0)) || !((numAt l 116 8).2 == 0)) || !((numAt l 124 12).2 == 0)) || !((numAt l 136 12).2 == 0))] 4 (0, 0)) ∧ But v15.heap.size cB v15 V) 39 rfl 12 #[.int .i64 136, .int .i64 12, .pointer (some ⟨w.heap.size, 0, none⟩), .pointer (some ⟨cB, 0, none⟩)] (by kernel_rfl) ((refNum_any l w.heap.size cB 136 12 ((((false || !((numAt l 100 8).2 == 0)) || !((numAt l 108 8).2 == 0)) || !((numAt l 116 8).2 == 0)) || !((numAt l 124 12).2 == 0)) (by omega) (by omega) _ hv15.out.str hv15.out.box).mono (by rintro e V ⟨he, hx, hb⟩; exact ⟨_, he, rfl, hx, hb⟩)) ?_
                    rintro _ v16 ⟨rfl, hx4, h4⟩
                    have hv16 := Lib.hid (hv15.out.num h4 hx4)
                    have hqv16 := Lib.hid ((h4.block b0 (Array.getElem?_eq_some_iff.1 hqv15.out).1 (Nat.ne_of_gt hb.out)).trans hqv15.out)
                    refine hK.out _ _ hv16.out.str (fun hHeld => ?_)
                    clear hK h4
                    (try simp only [Act.put]); (try simp only [List.setIfInBounds_toArray]); (try simp only [List.set_cons_succ]); (try simp only [List.set_cons_zero])
                    refine wpAnyH_ready (rs := [15]) (by kernel_rfl) (by simp) ?_
                    refine AllReadyH.cons rfl (fun K hK => ?_) ?_
                    · rw [if_pos (by rfl)]
                      refine call_at (R := fun v V => v = .string (mkS (cutZ (sub l 157 100))) ∧ Below v16.heap.size v16 V) 43 rfl 10 #[.int .i64 157, .int .i64 100, .pointer (some ⟨w.heap.size, 0, none⟩)] (by kernel_rfl) ((refText_any l w.heap.size 157 100 (by omega) (by omega) _ hv16.out.str).mono (by rintro e V ⟨he, hb⟩; exact ⟨_, he, rfl, hb⟩)) ?_
                      rintro _ v17 ⟨rfl, h4⟩
                      have hv17 := Lib.hid (hv16.out.text h4)
                      have hqv17 := Lib.hid ((h4.block b0 (Array.getElem?_eq_some_iff.1 hqv16.out).1).trans hqv16.out)
                      refine hK.out _ _ hv17.out.str (fun hHeld => ?_)
                      clear hK h4
                      (try simp only [Act.put]); (try simp only [List.setIfInBounds_toArray]); (try simp only [List.set_cons_succ]); (try simp only [List.set_cons_zero])
                      refine take_to (i := 16) 44 (.agg #[.string (mkS (cutZ (sub l 0 100))), .string (mkS (cutZ (sub l 157 100))), .string ⟨#[]⟩, .string ⟨#[]⟩, .string ⟨#[]⟩, .int .u8 (c.toNat : Int), .int .i64 (numAt l 100 8).1, .int .i64 (numAt l 108 8).1, .int .i64 (numAt l 116 8).1, .int .i64 (numAt l 124 12).1, .int .i64 (numAt l 136 12).1, .int .i64 0, .int .i64 0]) rfl rfl (by kernel_rfl) (by kernel_rfl) (by kernel_rfl) (fun _ _ _ h => h) (Or.inl ⟨by rfl, fun _ _ => by kernel_rfl⟩) (by assumption) ?_
                      simp only [List.setIfInBounds_toArray, List.set_cons_succ, List.set_cons_zero]
                      refine wpAnyH_ready (rs := [18]) (by kernel_rfl) (by simp) ?_
                      refine AllReadyH.cons rfl (fun K hK => ?_) AllReadyH.nil
                      rw [if_pos (by rfl)]
                      refine store_row_no rfl _ _ _ rfl b0 #[.string (mkS (cutZ (sub l 0 100))), .string (mkS (cutZ (sub l 157 100))), .string ⟨#[]⟩, .string ⟨#[]⟩, .string ⟨#[]⟩, .int .u8 (c.toNat : Int), .int .i64 (numAt l 100 8).1, .int .i64 (numAt l 108 8).1, .int .i64 (numAt l 116 8).1, .int .i64 (numAt l 124 12).1, .int .i64 (numAt l 136 12).1, .int .i64 0, .int .i64 0] rfl rfl _ _ hqv17.out infoRef rfl (by kernel_rfl) ?_
                      have h9 := Lib.hid (hv17.out.set hb.out #[.string (mkS (cutZ (sub l 0 100))), .string (mkS (cutZ (sub l 157 100))), .string ⟨#[]⟩, .string ⟨#[]⟩, .string ⟨#[]⟩, .int .u8 (c.toNat : Int), .int .i64 (numAt l 100 8).1, .int .i64 (numAt l 108 8).1, .int .i64 (numAt l 116 8).1, .int .i64 (numAt l 124 12).1, .int .i64 (numAt l 136 12).1, .int .i64 0, .int .i64 0])
                      have hq9 := Lib.hid (setRow_heap v17 _ _ #[.string (mkS (cutZ (sub l 0 100))), .string (mkS (cutZ (sub l 157 100))), .string ⟨#[]⟩, .string ⟨#[]⟩, .string ⟨#[]⟩, .int .u8 (c.toNat : Int), .int .i64 (numAt l 100 8).1, .int .i64 (numAt l 108 8).1, .int .i64 (numAt l 116 8).1, .int .i64 (numAt l 124 12).1, .int .i64 (numAt l 136 12).1, .int .i64 0, .int .i64 0] _ _ hqv17.out)
                      refine hK.out _ _ h9.out.str (fun hHeld => ?_)
                      clear hK
                      (try simp only [Act.put]); (try simp only [List.setIfInBounds_toArray]); (try simp only [List.set_cons_succ]); (try simp only [List.set_cons_zero])
                      refine wpAnyH_done (by kernel_rfl) ?_ _
                      go_wp2_with fail
                      go_meet
                      exact ⟨b0, rfl, hb.out, h9.out, hq9.out⟩
                    exact AllReadyH.nil
                  exact AllReadyH.nil
                exact AllReadyH.nil
              exact AllReadyH.nil
            refine AllReadyH.cons rfl (fun K hK => ?_) ?_
            · rw [if_pos (by rfl)]
              refine alloc_row_to 9 rfl _ rfl _ (zeroRef _) ?_
              have hv18 := Lib.hid (hv3.out.alloc (.cells #[.string ⟨#[]⟩, .string ⟨#[]⟩, .string ⟨#[]⟩, .string ⟨#[]⟩, .string ⟨#[]⟩, .int .u8 0, .int .i64 0, .int .i64 0, .int .i64 0, .int .i64 0, .int .i64 0, .int .i64 0, .int .i64 0] 23))
              have hqv18 := Lib.hid (heap_alloc_new v3 (.cells #[.string ⟨#[]⟩, .string ⟨#[]⟩, .string ⟨#[]⟩, .string ⟨#[]⟩, .string ⟨#[]⟩, .int .u8 0, .int .i64 0, .int .i64 0, .int .i64 0, .int .i64 0, .int .i64 0, .int .i64 0, .int .i64 0] 23))
              have hb := Lib.hid (hv3.out.below_box)
              refine hK.out _ _ hv18.out.str (fun hHeld => ?_)
              clear hK
              (try simp only [Act.put]); (try simp only [List.setIfInBounds_toArray]); (try simp only [List.set_cons_succ]); (try simp only [List.set_cons_zero])
              generalize v3.alloc (.cells #[.string ⟨#[]⟩, .string ⟨#[]⟩, .string ⟨#[]⟩, .string ⟨#[]⟩, .string ⟨#[]⟩, .int .u8 0, .int .i64 0, .int .i64 0, .int .i64 0, .int .i64 0, .int .i64 0, .int .i64 0, .int .i64 0] 23) = v18 at *
              generalize v3.heap.size = b0 at *
              refine wpAnyH_ready (rs := [7]) (by kernel_rfl) (by simp) ?_
              refine AllReadyH.cons rfl (fun K hK => ?_) ?_
              · rw [if_pos (by rfl)]
                refine call_at (R := fun v V => v = .int .i64 (numAt l 116 8).1 ∧ V.heap[cB]? = some (.cells #[.bool (((false || !((numAt l 100 8).2 == 0)) || !((numAt l 108 8).2 == 0)) || !((numAt l 116 8).2 == 0))] 4 (0, 0)) ∧ But v18.heap.size cB v18 V) 35 rfl 12 #[.int .i64 116, .int .i64 8, .pointer (some ⟨w.heap.size, 0, none⟩), .pointer (some ⟨cB, 0, none⟩)] (by kernel_rfl) ((refNum_any l w.heap.size cB 116 8 ((false || !((numAt l 100 8).2 == 0)) || !((numAt l 108 8).2 == 0)) (by omega) (by omega) _ hv18.out.str hv18.out.box).mono (by rintro e V ⟨he, hx, hb⟩; exact ⟨_, he, rfl, hx, hb⟩)) ?_
                rintro _ v19 ⟨rfl, hx4, h4⟩
                have hv19 := Lib.hid (hv18.out.num h4 hx4)
                have hqv19 := Lib.hid ((h4.block b0 (Array.getElem?_eq_some_iff.1 hqv18.out).1 (Nat.ne_of_gt hb.out)).trans hqv18.out)
                refine hK.out _ _ hv19.out.str (fun hHeld => ?_)
                clear hK h4
                (try simp only [Act.put]); (try simp only [List.setIfInBounds_toArray]); (try simp only [List.set_cons_succ]); (try simp only [List.set_cons_zero])
                refine wpAnyH_ready (rs := [9]) (by kernel_rfl) (by simp) ?_
                refine AllReadyH.cons rfl (fun K hK => ?_) ?_
                · rw [if_pos (by rfl)]
                  refine call_at (R := fun v V => v = .int .i64 (numAt l 124 12).1 ∧ V.heap[cB]? = some (.cells #[.bool ((((false || !((numAt l 100 8).2 == 0)) || !((numAt l 108 8).2 == 0)) || !((numAt l 116 8).2 == 0)) || !((numAt l 124 12).2 == 0))] 4 (0, 0)) ∧ But v19.heap.size cB v19 V) 37 rfl 12 #[.int .i64 124, .int .i64 12, .pointer (some ⟨w.heap.size, 0, none⟩), .pointer (some ⟨cB, 0, none⟩)] (by kernel_rfl) ((refNum_any l w.heap.size cB 124 12 (((false || !((numAt l 100 8).2 == 0)) || !((numAt l 108 8).2 == 0)) || !((numAt l 116 8).2 == 0)) (by omega) (by omega) _ hv19.out.str hv19.out.box).mono (by rintro e V ⟨he, hx, hb⟩; exact ⟨_, he, rfl, hx, hb⟩)) ?_
                  rintro _ v20 ⟨rfl, hx4, h4⟩
                  have hv20 := Lib.hid (hv19.out.num h4 hx4)
                  have hqv20 := Lib.hid ((h4.block b0 (Array.getElem?_eq_some_iff.1 hqv19.out).1 (Nat.ne_of_gt hb.out)).trans hqv19.out)
                  refine hK.out _ _ hv20.out.str (fun hHeld => ?_)
                  clear hK h4
                  (try simp only [Act.put]); (try simp only [List.setIfInBounds_toArray]); (try simp only [List.set_cons_succ]); (try simp only [List.set_cons_zero])
                  refine wpAnyH_ready (rs := [11]) (by kernel_rfl) (by simp) ?_
                  refine AllReadyH.cons rfl (fun K hK => ?_) ?_
                  · rw [if_pos (by rfl)]
                    refine call_at (R := fun v V => v = .int .i64 (numAt l 136 12).1 ∧ V.heap[cB]? = some (.cells #[.bool (((((false || !((numAt l 100 8).2 == 0)) || !((numAt l 108 8).2 == 0)) || !((numAt l 116 8).2 == 0)) || !((numAt l 124 12).2 == 0)) || !((numAt l 136 12).2 == 0))] 4 (0, 0)) ∧ But v20.heap.size cB v20 V) 39 rfl 12 #[.int .i64 136, .int .i64 12, .pointer (some ⟨w.heap.size, 0, none⟩), .pointer (some ⟨cB, 0, none⟩)] (by kernel_rfl) ((refNum_any l w.heap.size cB 136 12 ((((false || !((numAt l 100 8).2 == 0)) || !((numAt l 108 8).2 == 0)) || !((numAt l 116 8).2 == 0)) || !((numAt l 124 12).2 == 0)) (by omega) (by omega) _ hv20.out.str hv20.out.box).mono (by rintro e V ⟨he, hx, hb⟩; exact ⟨_, he, rfl, hx, hb⟩)) ?_
                    rintro _ v21 ⟨rfl, hx4, h4⟩
                    have hv21 := Lib.hid (hv20.out.num h4 hx4)
                    have hqv21 := Lib.hid ((h4.block b0 (Array.getElem?_eq_some_iff.1 hqv20.out).1 (Nat.ne_of_gt hb.out)).trans hqv20.out)
                    refine hK.out _ _ hv21.out.str (fun hHeld => ?_)
                    clear hK h4
                    (try simp only [Act.put]); (try simp only [List.setIfInBounds_toArray]); (try simp only [List.set_cons_succ]); (try simp only [List.set_cons_zero])
                    refine wpAnyH_ready (rs := [15]) (by kernel_rfl) (by simp) ?_
                    refine AllReadyH.cons rfl (fun K hK => ?_) ?_
                    · rw [if_pos (by rfl)]
                      refine call_at (R := fun v V => v = .string (mkS (cutZ (sub l 157 100))) ∧ Below v21.heap.size v21 V) 43 rfl 10 #[.int .i64 157, .int .i64 100, .pointer (some ⟨w.heap.size, 0, none⟩)] (by kernel_rfl) ((refText_any l w.heap.size 157 100 (by omega) (by omega) _ hv21.out.str).mono (by rintro e V ⟨he, hb⟩; exact ⟨_, he, rfl, hb⟩)) ?_
                      rintro _ v22 ⟨rfl, h4⟩
                      have hv22 := Lib.hid (hv21.out.text h4)
                      have hqv22 := Lib.hid ((h4.block b0 (Array.getElem?_eq_some_iff.1 hqv21.out).1).trans hqv21.out)
                      refine hK.out _ _ hv22.out.str (fun hHeld => ?_)
                      clear hK h4
                      (try simp only [Act.put]); (try simp only [List.setIfInBounds_toArray]); (try simp only [List.set_cons_succ]); (try simp only [List.set_cons_zero])
                      refine take_to (i := 16) 44 (.agg #[.string (mkS (cutZ (sub l 0 100))), .string (mkS (cutZ (sub l 157 100))), .string ⟨#[]⟩, .string ⟨#[]⟩, .string ⟨#[]⟩, .int .u8 (c.toNat : Int), .int .i64 (numAt l 100 8).1, .int .i64 (numAt l 108 8).1, .int .i64 (numAt l 116 8).1, .int .i64 (numAt l 124 12).1, .int .i64 (numAt l 136 12).1, .int .i64 0, .int .i64 0]) rfl rfl (by kernel_rfl) (by kernel_rfl) (by kernel_rfl) (fun _ _ _ h => h) (Or.inl ⟨by rfl, fun _ _ => by kernel_rfl⟩) (by assumption) ?_
                      simp only [List.setIfInBounds_toArray, List.set_cons_succ, List.set_cons_zero]
                      refine wpAnyH_ready (rs := [18]) (by kernel_rfl) (by simp) ?_
                      refine AllReadyH.cons rfl (fun K hK => ?_) AllReadyH.nil
                      rw [if_pos (by rfl)]
                      refine store_row_no rfl _ _ _ rfl b0 #[.string (mkS (cutZ (sub l 0 100))), .string (mkS (cutZ (sub l 157 100))), .string ⟨#[]⟩, .string ⟨#[]⟩, .string ⟨#[]⟩, .int .u8 (c.toNat : Int), .int .i64 (numAt l 100 8).1, .int .i64 (numAt l 108 8).1, .int .i64 (numAt l 116 8).1, .int .i64 (numAt l 124 12).1, .int .i64 (numAt l 136 12).1, .int .i64 0, .int .i64 0] rfl rfl _ _ hqv22.out infoRef rfl (by kernel_rfl) ?_
                      have h9 := Lib.hid (hv22.out.set hb.out #[.string (mkS (cutZ (sub l 0 100))), .string (mkS (cutZ (sub l 157 100))), .string ⟨#[]⟩, .string ⟨#[]⟩, .string ⟨#[]⟩, .int .u8 (c.toNat : Int), .int .i64 (numAt l 100 8).1, .int .i64 (numAt l 108 8).1, .int .i64 (numAt l 116 8).1, .int .i64 (numAt l 124 12).1, .int .i64 (numAt l 136 12).1, .int .i64 0, .int .i64 0])
                      have hq9 := Lib.hid (setRow_heap v22 _ _ #[.string (mkS (cutZ (sub l 0 100))), .string (mkS (cutZ (sub l 157 100))), .string ⟨#[]⟩, .string ⟨#[]⟩, .string ⟨#[]⟩, .int .u8 (c.toNat : Int), .int .i64 (numAt l 100 8).1, .int .i64 (numAt l 108 8).1, .int .i64 (numAt l 116 8).1, .int .i64 (numAt l 124 12).1, .int .i64 (numAt l 136 12).1, .int .i64 0, .int .i64 0] _ _ hqv22.out)
                      refine hK.out _ _ h9.out.str (fun hHeld => ?_)
                      clear hK
                      (try simp only [Act.put]); (try simp only [List.setIfInBounds_toArray]); (try simp only [List.set_cons_succ]); (try simp only [List.set_cons_zero])
                      refine wpAnyH_done (by kernel_rfl) ?_ _
                      go_wp2_with fail
                      go_meet
                      exact ⟨b0, rfl, hb.out, h9.out, hq9.out⟩
                    exact AllReadyH.nil
                  exact AllReadyH.nil
                exact AllReadyH.nil
              exact AllReadyH.nil
            exact AllReadyH.nil
          refine AllReadyH.cons rfl (fun K hK => ?_) ?_
          · rw [if_pos (by rfl)]
            refine alloc_row_to 9 rfl _ rfl _ (zeroRef _) ?_
            have hv23 := Lib.hid (hv2.out.alloc (.cells #[.string ⟨#[]⟩, .string ⟨#[]⟩, .string ⟨#[]⟩, .string ⟨#[]⟩, .string ⟨#[]⟩, .int .u8 0, .int .i64 0, .int .i64 0, .int .i64 0, .int .i64 0, .int .i64 0, .int .i64 0, .int .i64 0] 23))
            have hqv23 := Lib.hid (heap_alloc_new v2 (.cells #[.string ⟨#[]⟩, .string ⟨#[]⟩, .string ⟨#[]⟩, .string ⟨#[]⟩, .string ⟨#[]⟩, .int .u8 0, .int .i64 0, .int .i64 0, .int .i64 0, .int .i64 0, .int .i64 0, .int .i64 0, .int .i64 0] 23))
            have hb := Lib.hid (hv2.out.below_box)
            refine hK.out _ _ hv23.out.str (fun hHeld => ?_)
            clear hK
            (try simp only [Act.put]); (try simp only [List.setIfInBounds_toArray]); (try simp only [List.set_cons_succ]); (try simp only [List.set_cons_zero])
            generalize v2.alloc (.cells #[.string ⟨#[]⟩, .string ⟨#[]⟩, .string ⟨#[]⟩, .string ⟨#[]⟩, .string ⟨#[]⟩, .int .u8 0, .int .i64 0, .int .i64 0, .int .i64 0, .int .i64 0, .int .i64 0, .int .i64 0, .int .i64 0] 23) = v23 at *
            generalize v2.heap.size = b0 at *
            refine wpAnyH_ready (rs := [5]) (by kernel_rfl) (by simp) ?_
            refine AllReadyH.cons rfl (fun K hK => ?_) ?_
            · rw [if_pos (by rfl)]
              refine call_at (R := fun v V => v = .int .i64 (numAt l 108 8).1 ∧ V.heap[cB]? = some (.cells #[.bool ((false || !((numAt l 100 8).2 == 0)) || !((numAt l 108 8).2 == 0))] 4 (0, 0)) ∧ But v23.heap.size cB v23 V) 33 rfl 12 #[.int .i64 108, .int .i64 8, .pointer (some ⟨w.heap.size, 0, none⟩), .pointer (some ⟨cB, 0, none⟩)] (by kernel_rfl) ((refNum_any l w.heap.size cB 108 8 (false || !((numAt l 100 8).2 == 0)) (by omega) (by omega) _ hv23.out.str hv23.out.box).mono (by rintro e V ⟨he, hx, hb⟩; exact ⟨_, he, rfl, hx, hb⟩)) ?_
              rintro _ v24 ⟨rfl, hx4, h4⟩
              have hv24 := Lib.hid (hv23.out.num h4 hx4)
              have hqv24 := Lib.hid ((h4.block b0 (Array.getElem?_eq_some_iff.1 hqv23.out).1 (Nat.ne_of_gt hb.out)).trans hqv23.out)
              refine hK.out _ _ hv24.out.str (fun hHeld => ?_)
              clear hK h4
              (try simp only [Act.put]); (try simp only [List.setIfInBounds_toArray]); (try simp only [List.set_cons_succ]); (try simp only [List.set_cons_zero])
              refine wpAnyH_ready (rs := [7]) (by kernel_rfl) (by simp) ?_
              refine AllReadyH.cons rfl (fun K hK => ?_) ?_
              · rw [if_pos (by rfl)]
                refine call_at (R := fun v V => v = .int .i64 (numAt l 116 8).1 ∧ V.heap[cB]? = some (.cells #[.bool (((false || !((numAt l 100 8).2 == 0)) || !((numAt l 108 8).2 == 0)) || !((numAt l 116 8).2 == 0))] 4 (0, 0)) ∧ But v24.heap.size cB v24 V) 35 rfl 12 #[.int .i64 116, .int .i64 8, .pointer (some ⟨w.heap.size, 0, none⟩), .pointer (some ⟨cB, 0, none⟩)] (by kernel_rfl) ((refNum_any l w.heap.size cB 116 8 ((false || !((numAt l 100 8).2 == 0)) || !((numAt l 108 8).2 == 0)) (by omega) (by omega) _ hv24.out.str hv24.out.box).mono (by rintro e V ⟨he, hx, hb⟩; exact ⟨_, he, rfl, hx, hb⟩)) ?_
                rintro _ v25 ⟨rfl, hx4, h4⟩
                have hv25 := Lib.hid (hv24.out.num h4 hx4)
                have hqv25 := Lib.hid ((h4.block b0 (Array.getElem?_eq_some_iff.1 hqv24.out).1 (Nat.ne_of_gt hb.out)).trans hqv24.out)
                refine hK.out _ _ hv25.out.str (fun hHeld => ?_)
                clear hK h4
                (try simp only [Act.put]); (try simp only [List.setIfInBounds_toArray]); (try simp only [List.set_cons_succ]); (try simp only [List.set_cons_zero])
                refine wpAnyH_ready (rs := [9]) (by kernel_rfl) (by simp) ?_
                refine AllReadyH.cons rfl (fun K hK => ?_) ?_
                · rw [if_pos (by rfl)]
                  refine call_at (R := fun v V => v = .int .i64 (numAt l 124 12).1 ∧ V.heap[cB]? = some (.cells #[.bool ((((false || !((numAt l 100 8).2 == 0)) || !((numAt l 108 8).2 == 0)) || !((numAt l 116 8).2 == 0)) || !((numAt l 124 12).2 == 0))] 4 (0, 0)) ∧ But v25.heap.size cB v25 V) 37 rfl 12 #[.int .i64 124, .int .i64 12, .pointer (some ⟨w.heap.size, 0, none⟩), .pointer (some ⟨cB, 0, none⟩)] (by kernel_rfl) ((refNum_any l w.heap.size cB 124 12 (((false || !((numAt l 100 8).2 == 0)) || !((numAt l 108 8).2 == 0)) || !((numAt l 116 8).2 == 0)) (by omega) (by omega) _ hv25.out.str hv25.out.box).mono (by rintro e V ⟨he, hx, hb⟩; exact ⟨_, he, rfl, hx, hb⟩)) ?_
                  rintro _ v26 ⟨rfl, hx4, h4⟩
                  have hv26 := Lib.hid (hv25.out.num h4 hx4)
                  have hqv26 := Lib.hid ((h4.block b0 (Array.getElem?_eq_some_iff.1 hqv25.out).1 (Nat.ne_of_gt hb.out)).trans hqv25.out)
                  refine hK.out _ _ hv26.out.str (fun hHeld => ?_)
                  clear hK h4
                  (try simp only [Act.put]); (try simp only [List.setIfInBounds_toArray]); (try simp only [List.set_cons_succ]); (try simp only [List.set_cons_zero])
                  refine wpAnyH_ready (rs := [11]) (by kernel_rfl) (by simp) ?_
                  refine AllReadyH.cons rfl (fun K hK => ?_) ?_
                  · rw [if_pos (by rfl)]
                    refine call_at (R := fun v V => v = .int .i64 (numAt l 136 12).1 ∧ V.heap[cB]? = some (.cells #[.bool (((((false || !((numAt l 100 8).2 == 0)) || !((numAt l 108 8).2 == 0)) || !((numAt l 116 8).2 == 0)) || !((numAt l 124 12).2 == 0)) || !((numAt l 136 12).2 == 0))] 4 (0, 0)) ∧ But v26.heap.size cB v26 V) 39 rfl 12 #[.int .i64 136, .int .i64 12, .pointer (some ⟨w.heap.size, 0, none⟩), .pointer (some ⟨cB, 0, none⟩)] (by kernel_rfl) ((refNum_any l w.heap.size cB 136 12 ((((false || !((numAt l 100 8).2 == 0)) || !((numAt l 108 8).2 == 0)) || !((numAt l 116 8).2 == 0)) || !((numAt l 124 12).2 == 0)) (by omega) (by omega) _ hv26.out.str hv26.out.box).mono (by rintro e V ⟨he, hx, hb⟩; exact ⟨_, he, rfl, hx, hb⟩)) ?_
                    rintro _ v27 ⟨rfl, hx4, h4⟩
                    have hv27 := Lib.hid (hv26.out.num h4 hx4)
                    have hqv27 := Lib.hid ((h4.block b0 (Array.getElem?_eq_some_iff.1 hqv26.out).1 (Nat.ne_of_gt hb.out)).trans hqv26.out)
                    refine hK.out _ _ hv27.out.str (fun hHeld => ?_)
                    clear hK h4
                    (try simp only [Act.put]); (try simp only [List.setIfInBounds_toArray]); (try simp only [List.set_cons_succ]); (try simp only [List.set_cons_zero])
                    refine wpAnyH_ready (rs := [15]) (by kernel_rfl) (by simp) ?_
                    refine AllReadyH.cons rfl (fun K hK => ?_) ?_
                    · rw [if_pos (by rfl)]
                      refine call_at (R := fun v V => v = .string (mkS (cutZ (sub l 157 100))) ∧ Below v27.heap.size v27 V) 43 rfl 10 #[.int .i64 157, .int .i64 100, .pointer (some ⟨w.heap.size, 0, none⟩)] (by kernel_rfl) ((refText_any l w.heap.size 157 100 (by omega) (by omega) _ hv27.out.str).mono (by rintro e V ⟨he, hb⟩; exact ⟨_, he, rfl, hb⟩)) ?_
                      rintro _ v28 ⟨rfl, h4⟩
                      have hv28 := Lib.hid (hv27.out.text h4)
                      have hqv28 := Lib.hid ((h4.block b0 (Array.getElem?_eq_some_iff.1 hqv27.out).1).trans hqv27.out)
                      refine hK.out _ _ hv28.out.str (fun hHeld => ?_)
                      clear hK h4
                      (try simp only [Act.put]); (try simp only [List.setIfInBounds_toArray]); (try simp only [List.set_cons_succ]); (try simp only [List.set_cons_zero])
                      refine take_to (i := 16) 44 (.agg #[.string (mkS (cutZ (sub l 0 100))), .string (mkS (cutZ (sub l 157 100))), .string ⟨#[]⟩, .string ⟨#[]⟩, .string ⟨#[]⟩, .int .u8 (c.toNat : Int), .int .i64 (numAt l 100 8).1, .int .i64 (numAt l 108 8).1, .int .i64 (numAt l 116 8).1, .int .i64 (numAt l 124 12).1, .int .i64 (numAt l 136 12).1, .int .i64 0, .int .i64 0]) rfl rfl (by kernel_rfl) (by kernel_rfl) (by kernel_rfl) (fun _ _ _ h => h) (Or.inl ⟨by rfl, fun _ _ => by kernel_rfl⟩) (by assumption) ?_
                      simp only [List.setIfInBounds_toArray, List.set_cons_succ, List.set_cons_zero]
                      refine wpAnyH_ready (rs := [18]) (by kernel_rfl) (by simp) ?_
                      refine AllReadyH.cons rfl (fun K hK => ?_) AllReadyH.nil
                      rw [if_pos (by rfl)]
                      refine store_row_no rfl _ _ _ rfl b0 #[.string (mkS (cutZ (sub l 0 100))), .string (mkS (cutZ (sub l 157 100))), .string ⟨#[]⟩, .string ⟨#[]⟩, .string ⟨#[]⟩, .int .u8 (c.toNat : Int), .int .i64 (numAt l 100 8).1, .int .i64 (numAt l 108 8).1, .int .i64 (numAt l 116 8).1, .int .i64 (numAt l 124 12).1, .int .i64 (numAt l 136 12).1, .int .i64 0, .int .i64 0] rfl rfl _ _ hqv28.out infoRef rfl (by kernel_rfl) ?_
                      have h9 := Lib.hid (hv28.out.set hb.out #[.string (mkS (cutZ (sub l 0 100))), .string (mkS (cutZ (sub l 157 100))), .string ⟨#[]⟩, .string ⟨#[]⟩, .string ⟨#[]⟩, .int .u8 (c.toNat : Int), .int .i64 (numAt l 100 8).1, .int .i64 (numAt l 108 8).1, .int .i64 (numAt l 116 8).1, .int .i64 (numAt l 124 12).1, .int .i64 (numAt l 136 12).1, .int .i64 0, .int .i64 0])
                      have hq9 := Lib.hid (setRow_heap v28 _ _ #[.string (mkS (cutZ (sub l 0 100))), .string (mkS (cutZ (sub l 157 100))), .string ⟨#[]⟩, .string ⟨#[]⟩, .string ⟨#[]⟩, .int .u8 (c.toNat : Int), .int .i64 (numAt l 100 8).1, .int .i64 (numAt l 108 8).1, .int .i64 (numAt l 116 8).1, .int .i64 (numAt l 124 12).1, .int .i64 (numAt l 136 12).1, .int .i64 0, .int .i64 0] _ _ hqv28.out)
                      refine hK.out _ _ h9.out.str (fun hHeld => ?_)
                      clear hK
                      (try simp only [Act.put]); (try simp only [List.setIfInBounds_toArray]); (try simp only [List.set_cons_succ]); (try simp only [List.set_cons_zero])
                      refine wpAnyH_done (by kernel_rfl) ?_ _
                      go_wp2_with fail
                      go_meet
                      exact ⟨b0, rfl, hb.out, h9.out, hq9.out⟩
                    exact AllReadyH.nil
                  exact AllReadyH.nil
                exact AllReadyH.nil
              exact AllReadyH.nil
            exact AllReadyH.nil
          exact AllReadyH.nil
        refine AllReadyH.cons rfl (fun K hK => ?_) ?_
        · rw [if_pos (by rfl)]
          refine alloc_row_to 9 rfl _ rfl _ (zeroRef _) ?_
          have hv29 := Lib.hid (hv1.out.alloc (.cells #[.string ⟨#[]⟩, .string ⟨#[]⟩, .string ⟨#[]⟩, .string ⟨#[]⟩, .string ⟨#[]⟩, .int .u8 0, .int .i64 0, .int .i64 0, .int .i64 0, .int .i64 0, .int .i64 0, .int .i64 0, .int .i64 0] 23))
          have hqv29 := Lib.hid (heap_alloc_new v1 (.cells #[.string ⟨#[]⟩, .string ⟨#[]⟩, .string ⟨#[]⟩, .string ⟨#[]⟩, .string ⟨#[]⟩, .int .u8 0, .int .i64 0, .int .i64 0, .int .i64 0, .int .i64 0, .int .i64 0, .int .i64 0, .int .i64 0] 23))
          have hb := Lib.hid (hv1.out.below_box)
          refine hK.out _ _ hv29.out.str (fun hHeld => ?_)
          clear hK
          (try simp only [Act.put]); (try simp only [List.setIfInBounds_toArray]); (try simp only [List.set_cons_succ]); (try simp only [List.set_cons_zero])
          generalize v1.alloc (.cells #[.string ⟨#[]⟩, .string ⟨#[]⟩, .string ⟨#[]⟩, .string ⟨#[]⟩, .string ⟨#[]⟩, .int .u8 0, .int .i64 0, .int .i64 0, .int .i64 0, .int .i64 0, .int .i64 0, .int .i64 0, .int .i64 0] 23) = v29 at *
          generalize v1.heap.size = b0 at *
          refine wpAnyH_ready (rs := [3]) (by kernel_rfl) (by simp) ?_
          refine AllReadyH.cons rfl (fun K hK => ?_) ?_
          · rw [if_pos (by rfl)]
            refine call_at (R := fun v V => v = .int .i64 (numAt l 100 8).1 ∧ V.heap[cB]? = some (.cells #[.bool (false || !((numAt l 100 8).2 == 0))] 4 (0, 0)) ∧ But v29.heap.size cB v29 V) 31 rfl 12 #[.int .i64 100, .int .i64 8, .pointer (some ⟨w.heap.size, 0, none⟩), .pointer (some ⟨cB, 0, none⟩)] (by kernel_rfl) ((refNum_any l w.heap.size cB 100 8 false (by omega) (by omega) _ hv29.out.str hv29.out.box).mono (by rintro e V ⟨he, hx, hb⟩; exact ⟨_, he, rfl, hx, hb⟩)) ?_
            rintro _ v30 ⟨rfl, hx4, h4⟩
            have hv30 := Lib.hid (hv29.out.num h4 hx4)
            have hqv30 := Lib.hid ((h4.block b0 (Array.getElem?_eq_some_iff.1 hqv29.out).1 (Nat.ne_of_gt hb.out)).trans hqv29.out)
            refine hK.out _ _ hv30.out.str (fun hHeld => ?_)
            clear hK h4
            (try simp only [Act.put]); (try simp only [List.setIfInBounds_toArray]); (try simp only [List.set_cons_succ]); (try simp only [List.set_cons_zero])
            refine wpAnyH_ready (rs := [5]) (by kernel_rfl) (by simp) ?_
            refine AllReadyH.cons rfl (fun K hK => ?_) ?_
            · rw [if_pos (by rfl)]
              refine call_at (R := fun v V => v = .int .i64 (numAt l 108 8).1 ∧ V.heap[cB]? = some (.cells #[.bool ((false || !((numAt l 100 8).2 == 0)) || !((numAt l 108 8).2 == 0))] 4 (0, 0)) ∧ But v30.heap.size cB v30 V) 33 rfl 12 #[.int .i64 108, .int .i64 8, .pointer (some ⟨w.heap.size, 0, none⟩), .pointer (some ⟨cB, 0, none⟩)] (by kernel_rfl) ((refNum_any l w.heap.size cB 108 8 (false || !((numAt l 100 8).2 == 0)) (by omega) (by omega) _ hv30.out.str hv30.out.box).mono (by rintro e V ⟨he, hx, hb⟩; exact ⟨_, he, rfl, hx, hb⟩)) ?_
              rintro _ v31 ⟨rfl, hx4, h4⟩
              have hv31 := Lib.hid (hv30.out.num h4 hx4)
              have hqv31 := Lib.hid ((h4.block b0 (Array.getElem?_eq_some_iff.1 hqv30.out).1 (Nat.ne_of_gt hb.out)).trans hqv30.out)
              refine hK.out _ _ hv31.out.str (fun hHeld => ?_)
              clear hK h4
              (try simp only [Act.put]); (try simp only [List.setIfInBounds_toArray]); (try simp only [List.set_cons_succ]); (try simp only [List.set_cons_zero])
              refine wpAnyH_ready (rs := [7]) (by kernel_rfl) (by simp) ?_
              refine AllReadyH.cons rfl (fun K hK => ?_) ?_
              · rw [if_pos (by rfl)]
                refine call_at (R := fun v V => v = .int .i64 (numAt l 116 8).1 ∧ V.heap[cB]? = some (.cells #[.bool (((false || !((numAt l 100 8).2 == 0)) || !((numAt l 108 8).2 == 0)) || !((numAt l 116 8).2 == 0))] 4 (0, 0)) ∧ But v31.heap.size cB v31 V) 35 rfl 12 #[.int .i64 116, .int .i64 8, .pointer (some ⟨w.heap.size, 0, none⟩), .pointer (some ⟨cB, 0, none⟩)] (by kernel_rfl) ((refNum_any l w.heap.size cB 116 8 ((false || !((numAt l 100 8).2 == 0)) || !((numAt l 108 8).2 == 0)) (by omega) (by omega) _ hv31.out.str hv31.out.box).mono (by rintro e V ⟨he, hx, hb⟩; exact ⟨_, he, rfl, hx, hb⟩)) ?_
                rintro _ v32 ⟨rfl, hx4, h4⟩
                have hv32 := Lib.hid (hv31.out.num h4 hx4)
                have hqv32 := Lib.hid ((h4.block b0 (Array.getElem?_eq_some_iff.1 hqv31.out).1 (Nat.ne_of_gt hb.out)).trans hqv31.out)
                refine hK.out _ _ hv32.out.str (fun hHeld => ?_)
                clear hK h4
                (try simp only [Act.put]); (try simp only [List.setIfInBounds_toArray]); (try simp only [List.set_cons_succ]); (try simp only [List.set_cons_zero])
                refine wpAnyH_ready (rs := [9]) (by kernel_rfl) (by simp) ?_
                refine AllReadyH.cons rfl (fun K hK => ?_) ?_
                · rw [if_pos (by rfl)]
                  refine call_at (R := fun v V => v = .int .i64 (numAt l 124 12).1 ∧ V.heap[cB]? = some (.cells #[.bool ((((false || !((numAt l 100 8).2 == 0)) || !((numAt l 108 8).2 == 0)) || !((numAt l 116 8).2 == 0)) || !((numAt l 124 12).2 == 0))] 4 (0, 0)) ∧ But v32.heap.size cB v32 V) 37 rfl 12 #[.int .i64 124, .int .i64 12, .pointer (some ⟨w.heap.size, 0, none⟩), .pointer (some ⟨cB, 0, none⟩)] (by kernel_rfl) ((refNum_any l w.heap.size cB 124 12 (((false || !((numAt l 100 8).2 == 0)) || !((numAt l 108 8).2 == 0)) || !((numAt l 116 8).2 == 0)) (by omega) (by omega) _ hv32.out.str hv32.out.box).mono (by rintro e V ⟨he, hx, hb⟩; exact ⟨_, he, rfl, hx, hb⟩)) ?_
                  rintro _ v33 ⟨rfl, hx4, h4⟩
                  have hv33 := Lib.hid (hv32.out.num h4 hx4)
                  have hqv33 := Lib.hid ((h4.block b0 (Array.getElem?_eq_some_iff.1 hqv32.out).1 (Nat.ne_of_gt hb.out)).trans hqv32.out)
                  refine hK.out _ _ hv33.out.str (fun hHeld => ?_)
                  clear hK h4
                  (try simp only [Act.put]); (try simp only [List.setIfInBounds_toArray]); (try simp only [List.set_cons_succ]); (try simp only [List.set_cons_zero])
                  refine wpAnyH_ready (rs := [11]) (by kernel_rfl) (by simp) ?_
                  refine AllReadyH.cons rfl (fun K hK => ?_) ?_
                  · rw [if_pos (by rfl)]
                    refine call_at (R := fun v V => v = .int .i64 (numAt l 136 12).1 ∧ V.heap[cB]? = some (.cells #[.bool (((((false || !((numAt l 100 8).2 == 0)) || !((numAt l 108 8).2 == 0)) || !((numAt l 116 8).2 == 0)) || !((numAt l 124 12).2 == 0)) || !((numAt l 136 12).2 == 0))] 4 (0, 0)) ∧ But v33.heap.size cB v33 V) 39 rfl 12 #[.int .i64 136, .int .i64 12, .pointer (some ⟨w.heap.size, 0, none⟩), .pointer (some ⟨cB, 0, none⟩)] (by kernel_rfl) ((refNum_any l w.heap.size cB 136 12 ((((false || !((numAt l 100 8).2 == 0)) || !((numAt l 108 8).2 == 0)) || !((numAt l 116 8).2 == 0)) || !((numAt l 124 12).2 == 0)) (by omega) (by omega) _ hv33.out.str hv33.out.box).mono (by rintro e V ⟨he, hx, hb⟩; exact ⟨_, he, rfl, hx, hb⟩)) ?_
                    rintro _ v34 ⟨rfl, hx4, h4⟩
                    have hv34 := Lib.hid (hv33.out.num h4 hx4)
                    have hqv34 := Lib.hid ((h4.block b0 (Array.getElem?_eq_some_iff.1 hqv33.out).1 (Nat.ne_of_gt hb.out)).trans hqv33.out)
                    refine hK.out _ _ hv34.out.str (fun hHeld => ?_)
                    clear hK h4
                    (try simp only [Act.put]); (try simp only [List.setIfInBounds_toArray]); (try simp only [List.set_cons_succ]); (try simp only [List.set_cons_zero])
                    refine wpAnyH_ready (rs := [15]) (by kernel_rfl) (by simp) ?_
                    refine AllReadyH.cons rfl (fun K hK => ?_) ?_
                    · rw [if_pos (by rfl)]
                      refine call_at (R := fun v V => v = .string (mkS (cutZ (sub l 157 100))) ∧ Below v34.heap.size v34 V) 43 rfl 10 #[.int .i64 157, .int .i64 100, .pointer (some ⟨w.heap.size, 0, none⟩)] (by kernel_rfl) ((refText_any l w.heap.size 157 100 (by omega) (by omega) _ hv34.out.str).mono (by rintro e V ⟨he, hb⟩; exact ⟨_, he, rfl, hb⟩)) ?_
                      rintro _ v35 ⟨rfl, h4⟩
                      have hv35 := Lib.hid (hv34.out.text h4)
                      have hqv35 := Lib.hid ((h4.block b0 (Array.getElem?_eq_some_iff.1 hqv34.out).1).trans hqv34.out)
                      refine hK.out _ _ hv35.out.str (fun hHeld => ?_)
                      clear hK h4
                      (try simp only [Act.put]); (try simp only [List.setIfInBounds_toArray]); (try simp only [List.set_cons_succ]); (try simp only [List.set_cons_zero])
                      refine take_to (i := 16) 44 (.agg #[.string (mkS (cutZ (sub l 0 100))), .string (mkS (cutZ (sub l 157 100))), .string ⟨#[]⟩, .string ⟨#[]⟩, .string ⟨#[]⟩, .int .u8 (c.toNat : Int), .int .i64 (numAt l 100 8).1, .int .i64 (numAt l 108 8).1, .int .i64 (numAt l 116 8).1, .int .i64 (numAt l 124 12).1, .int .i64 (numAt l 136 12).1, .int .i64 0, .int .i64 0]) rfl rfl (by kernel_rfl) (by kernel_rfl) (by kernel_rfl) (fun _ _ _ h => h) (Or.inl ⟨by rfl, fun _ _ => by kernel_rfl⟩) (by assumption) ?_
                      simp only [List.setIfInBounds_toArray, List.set_cons_succ, List.set_cons_zero]
                      refine wpAnyH_ready (rs := [18]) (by kernel_rfl) (by simp) ?_
                      refine AllReadyH.cons rfl (fun K hK => ?_) AllReadyH.nil
                      rw [if_pos (by rfl)]
                      refine store_row_no rfl _ _ _ rfl b0 #[.string (mkS (cutZ (sub l 0 100))), .string (mkS (cutZ (sub l 157 100))), .string ⟨#[]⟩, .string ⟨#[]⟩, .string ⟨#[]⟩, .int .u8 (c.toNat : Int), .int .i64 (numAt l 100 8).1, .int .i64 (numAt l 108 8).1, .int .i64 (numAt l 116 8).1, .int .i64 (numAt l 124 12).1, .int .i64 (numAt l 136 12).1, .int .i64 0, .int .i64 0] rfl rfl _ _ hqv35.out infoRef rfl (by kernel_rfl) ?_
                      have h9 := Lib.hid (hv35.out.set hb.out #[.string (mkS (cutZ (sub l 0 100))), .string (mkS (cutZ (sub l 157 100))), .string ⟨#[]⟩, .string ⟨#[]⟩, .string ⟨#[]⟩, .int .u8 (c.toNat : Int), .int .i64 (numAt l 100 8).1, .int .i64 (numAt l 108 8).1, .int .i64 (numAt l 116 8).1, .int .i64 (numAt l 124 12).1, .int .i64 (numAt l 136 12).1, .int .i64 0, .int .i64 0])
                      have hq9 := Lib.hid (setRow_heap v35 _ _ #[.string (mkS (cutZ (sub l 0 100))), .string (mkS (cutZ (sub l 157 100))), .string ⟨#[]⟩, .string ⟨#[]⟩, .string ⟨#[]⟩, .int .u8 (c.toNat : Int), .int .i64 (numAt l 100 8).1, .int .i64 (numAt l 108 8).1, .int .i64 (numAt l 116 8).1, .int .i64 (numAt l 124 12).1, .int .i64 (numAt l 136 12).1, .int .i64 0, .int .i64 0] _ _ hqv35.out)
                      refine hK.out _ _ h9.out.str (fun hHeld => ?_)
                      clear hK
                      (try simp only [Act.put]); (try simp only [List.setIfInBounds_toArray]); (try simp only [List.set_cons_succ]); (try simp only [List.set_cons_zero])
                      refine wpAnyH_done (by kernel_rfl) ?_ _
                      go_wp2_with fail
                      go_meet
                      exact ⟨b0, rfl, hb.out, h9.out, hq9.out⟩
                    exact AllReadyH.nil
                  exact AllReadyH.nil
                exact AllReadyH.nil
              exact AllReadyH.nil
            exact AllReadyH.nil
          exact AllReadyH.nil
        exact AllReadyH.nil
      refine AllReadyH.cons rfl (fun K hK => ?_) ?_
      · rw [if_pos (by rfl)]
        refine alloc_row_to 9 rfl _ rfl _ (zeroRef _) ?_
        have hv36 := Lib.hid (hv0.out.alloc (.cells #[.string ⟨#[]⟩, .string ⟨#[]⟩, .string ⟨#[]⟩, .string ⟨#[]⟩, .string ⟨#[]⟩, .int .u8 0, .int .i64 0, .int .i64 0, .int .i64 0, .int .i64 0, .int .i64 0, .int .i64 0, .int .i64 0] 23))
        have hqv36 := Lib.hid (heap_alloc_new v0 (.cells #[.string ⟨#[]⟩, .string ⟨#[]⟩, .string ⟨#[]⟩, .string ⟨#[]⟩, .string ⟨#[]⟩, .int .u8 0, .int .i64 0, .int .i64 0, .int .i64 0, .int .i64 0, .int .i64 0, .int .i64 0, .int .i64 0] 23))
        have hb := Lib.hid (hv0.out.below_box)
        refine hK.out _ _ hv36.out.str (fun hHeld => ?_)
        clear hK
        (try simp only [Act.put]); (try simp only [List.setIfInBounds_toArray]); (try simp only [List.set_cons_succ]); (try simp only [List.set_cons_zero])
        generalize v0.alloc (.cells #[.string ⟨#[]⟩, .string ⟨#[]⟩, .string ⟨#[]⟩, .string ⟨#[]⟩, .string ⟨#[]⟩, .int .u8 0, .int .i64 0, .int .i64 0, .int .i64 0, .int .i64 0, .int .i64 0, .int .i64 0, .int .i64 0] 23) = v36 at *
        generalize v0.heap.size = b0 at *
        refine wpAnyH_ready (rs := [1]) (by kernel_rfl) (by simp) ?_
        refine AllReadyH.cons rfl (fun K hK => ?_) ?_
        · rw [if_pos (by rfl)]
          refine call_at (R := fun v V => v = .string (mkS (cutZ (sub l 0 100))) ∧ Below v36.heap.size v36 V) 29 rfl 10 #[.int .i64 0, .int .i64 100, .pointer (some ⟨w.heap.size, 0, none⟩)] (by kernel_rfl) ((refText_any l w.heap.size 0 100 (by omega) (by omega) _ hv36.out.str).mono (by rintro e V ⟨he, hb⟩; exact ⟨_, he, rfl, hb⟩)) ?_
          rintro _ v37 ⟨rfl, h4⟩
          have hv37 := Lib.hid (hv36.out.text h4)
          have hqv37 := Lib.hid ((h4.block b0 (Array.getElem?_eq_some_iff.1 hqv36.out).1).trans hqv36.out)
          refine hK.out _ _ hv37.out.str (fun hHeld => ?_)
          clear hK h4
          (try simp only [Act.put]); (try simp only [List.setIfInBounds_toArray]); (try simp only [List.set_cons_succ]); (try simp only [List.set_cons_zero])
          refine wpAnyH_ready (rs := [3]) (by kernel_rfl) (by simp) ?_
          refine AllReadyH.cons rfl (fun K hK => ?_) ?_
          · rw [if_pos (by rfl)]
            refine call_at (R := fun v V => v = .int .i64 (numAt l 100 8).1 ∧ V.heap[cB]? = some (.cells #[.bool (false || !((numAt l 100 8).2 == 0))] 4 (0, 0)) ∧ But v37.heap.size cB v37 V) 31 rfl 12 #[.int .i64 100, .int .i64 8, .pointer (some ⟨w.heap.size, 0, none⟩), .pointer (some ⟨cB, 0, none⟩)] (by kernel_rfl) ((refNum_any l w.heap.size cB 100 8 false (by omega) (by omega) _ hv37.out.str hv37.out.box).mono (by rintro e V ⟨he, hx, hb⟩; exact ⟨_, he, rfl, hx, hb⟩)) ?_
            rintro _ v38 ⟨rfl, hx4, h4⟩
            have hv38 := Lib.hid (hv37.out.num h4 hx4)
            have hqv38 := Lib.hid ((h4.block b0 (Array.getElem?_eq_some_iff.1 hqv37.out).1 (Nat.ne_of_gt hb.out)).trans hqv37.out)
            refine hK.out _ _ hv38.out.str (fun hHeld => ?_)
            clear hK h4
            (try simp only [Act.put]); (try simp only [List.setIfInBounds_toArray]); (try simp only [List.set_cons_succ]); (try simp only [List.set_cons_zero])
            refine wpAnyH_ready (rs := [5]) (by kernel_rfl) (by simp) ?_
            refine AllReadyH.cons rfl (fun K hK => ?_) ?_
            · rw [if_pos (by rfl)]
              refine call_at (R := fun v V => v = .int .i64 (numAt l 108 8).1 ∧ V.heap[cB]? = some (.cells #[.bool ((false || !((numAt l 100 8).2 == 0)) || !((numAt l 108 8).2 == 0))] 4 (0, 0)) ∧ But v38.heap.size cB v38 V) 33 rfl 12 #[.int .i64 108, .int .i64 8, .pointer (some ⟨w.heap.size, 0, none⟩), .pointer (some ⟨cB, 0, none⟩)] (by kernel_rfl) ((refNum_any l w.heap.size cB 108 8 (false || !((numAt l 100 8).2 == 0)) (by omega) (by omega) _ hv38.out.str hv38.out.box).mono (by rintro e V ⟨he, hx, hb⟩; exact ⟨_, he, rfl, hx, hb⟩)) ?_
              rintro _ v39 ⟨rfl, hx4, h4⟩
              have hv39 := Lib.hid (hv38.out.num h4 hx4)
              have hqv39 := Lib.hid ((h4.block b0 (Array.getElem?_eq_some_iff.1 hqv38.out).1 (Nat.ne_of_gt hb.out)).trans hqv38.out)
              refine hK.out _ _ hv39.out.str (fun hHeld => ?_)
              clear hK h4
              (try simp only [Act.put]); (try simp only [List.setIfInBounds_toArray]); (try simp only [List.set_cons_succ]); (try simp only [List.set_cons_zero])
              refine wpAnyH_ready (rs := [7]) (by kernel_rfl) (by simp) ?_
              refine AllReadyH.cons rfl (fun K hK => ?_) ?_
              · rw [if_pos (by rfl)]
                refine call_at (R := fun v V => v = .int .i64 (numAt l 116 8).1 ∧ V.heap[cB]? = some (.cells #[.bool (((false || !((numAt l 100 8).2 == 0)) || !((numAt l 108 8).2 == 0)) || !((numAt l 116 8).2 == 0))] 4 (0, 0)) ∧ But v39.heap.size cB v39 V) 35 rfl 12 #[.int .i64 116, .int .i64 8, .pointer (some ⟨w.heap.size, 0, none⟩), .pointer (some ⟨cB, 0, none⟩)] (by kernel_rfl) ((refNum_any l w.heap.size cB 116 8 ((false || !((numAt l 100 8).2 == 0)) || !((numAt l 108 8).2 == 0)) (by omega) (by omega) _ hv39.out.str hv39.out.box).mono (by rintro e V ⟨he, hx, hb⟩; exact ⟨_, he, rfl, hx, hb⟩)) ?_
                rintro _ v40 ⟨rfl, hx4, h4⟩
                have hv40 := Lib.hid (hv39.out.num h4 hx4)
                have hqv40 := Lib.hid ((h4.block b0 (Array.getElem?_eq_some_iff.1 hqv39.out).1 (Nat.ne_of_gt hb.out)).trans hqv39.out)
                refine hK.out _ _ hv40.out.str (fun hHeld => ?_)
                clear hK h4
                (try simp only [Act.put]); (try simp only [List.setIfInBounds_toArray]); (try simp only [List.set_cons_succ]); (try simp only [List.set_cons_zero])
                refine wpAnyH_ready (rs := [9]) (by kernel_rfl) (by simp) ?_
                refine AllReadyH.cons rfl (fun K hK => ?_) ?_
                · rw [if_pos (by rfl)]
                  refine call_at (R := fun v V => v = .int .i64 (numAt l 124 12).1 ∧ V.heap[cB]? = some (.cells #[.bool ((((false || !((numAt l 100 8).2 == 0)) || !((numAt l 108 8).2 == 0)) || !((numAt l 116 8).2 == 0)) || !((numAt l 124 12).2 == 0))] 4 (0, 0)) ∧ But v40.heap.size cB v40 V) 37 rfl 12 #[.int .i64 124, .int .i64 12, .pointer (some ⟨w.heap.size, 0, none⟩), .pointer (some ⟨cB, 0, none⟩)] (by kernel_rfl) ((refNum_any l w.heap.size cB 124 12 (((false || !((numAt l 100 8).2 == 0)) || !((numAt l 108 8).2 == 0)) || !((numAt l 116 8).2 == 0)) (by omega) (by omega) _ hv40.out.str hv40.out.box).mono (by rintro e V ⟨he, hx, hb⟩; exact ⟨_, he, rfl, hx, hb⟩)) ?_
                  rintro _ v41 ⟨rfl, hx4, h4⟩
                  have hv41 := Lib.hid (hv40.out.num h4 hx4)
                  have hqv41 := Lib.hid ((h4.block b0 (Array.getElem?_eq_some_iff.1 hqv40.out).1 (Nat.ne_of_gt hb.out)).trans hqv40.out)
                  refine hK.out _ _ hv41.out.str (fun hHeld => ?_)
                  clear hK h4
                  (try simp only [Act.put]); (try simp only [List.setIfInBounds_toArray]); (try simp only [List.set_cons_succ]); (try simp only [List.set_cons_zero])
                  refine wpAnyH_ready (rs := [11]) (by kernel_rfl) (by simp) ?_
                  refine AllReadyH.cons rfl (fun K hK => ?_) ?_
                  · rw [if_pos (by rfl)]
                    refine call_at (R := fun v V => v = .int .i64 (numAt l 136 12).1 ∧ V.heap[cB]? = some (.cells #[.bool (((((false || !((numAt l 100 8).2 == 0)) || !((numAt l 108 8).2 == 0)) || !((numAt l 116 8).2 == 0)) || !((numAt l 124 12).2 == 0)) || !((numAt l 136 12).2 == 0))] 4 (0, 0)) ∧ But v41.heap.size cB v41 V) 39 rfl 12 #[.int .i64 136, .int .i64 12, .pointer (some ⟨w.heap.size, 0, none⟩), .pointer (some ⟨cB, 0, none⟩)] (by kernel_rfl) ((refNum_any l w.heap.size cB 136 12 ((((false || !((numAt l 100 8).2 == 0)) || !((numAt l 108 8).2 == 0)) || !((numAt l 116 8).2 == 0)) || !((numAt l 124 12).2 == 0)) (by omega) (by omega) _ hv41.out.str hv41.out.box).mono (by rintro e V ⟨he, hx, hb⟩; exact ⟨_, he, rfl, hx, hb⟩)) ?_
                    rintro _ v42 ⟨rfl, hx4, h4⟩
                    have hv42 := Lib.hid (hv41.out.num h4 hx4)
                    have hqv42 := Lib.hid ((h4.block b0 (Array.getElem?_eq_some_iff.1 hqv41.out).1 (Nat.ne_of_gt hb.out)).trans hqv41.out)
                    refine hK.out _ _ hv42.out.str (fun hHeld => ?_)
                    clear hK h4
                    (try simp only [Act.put]); (try simp only [List.setIfInBounds_toArray]); (try simp only [List.set_cons_succ]); (try simp only [List.set_cons_zero])
                    refine wpAnyH_ready (rs := [15]) (by kernel_rfl) (by simp) ?_
                    refine AllReadyH.cons rfl (fun K hK => ?_) ?_
                    · rw [if_pos (by rfl)]
                      refine call_at (R := fun v V => v = .string (mkS (cutZ (sub l 157 100))) ∧ Below v42.heap.size v42 V) 43 rfl 10 #[.int .i64 157, .int .i64 100, .pointer (some ⟨w.heap.size, 0, none⟩)] (by kernel_rfl) ((refText_any l w.heap.size 157 100 (by omega) (by omega) _ hv42.out.str).mono (by rintro e V ⟨he, hb⟩; exact ⟨_, he, rfl, hb⟩)) ?_
                      rintro _ v43 ⟨rfl, h4⟩
                      have hv43 := Lib.hid (hv42.out.text h4)
                      have hqv43 := Lib.hid ((h4.block b0 (Array.getElem?_eq_some_iff.1 hqv42.out).1).trans hqv42.out)
                      refine hK.out _ _ hv43.out.str (fun hHeld => ?_)
                      clear hK h4
                      (try simp only [Act.put]); (try simp only [List.setIfInBounds_toArray]); (try simp only [List.set_cons_succ]); (try simp only [List.set_cons_zero])
                      refine take_to (i := 16) 44 (.agg #[.string (mkS (cutZ (sub l 0 100))), .string (mkS (cutZ (sub l 157 100))), .string ⟨#[]⟩, .string ⟨#[]⟩, .string ⟨#[]⟩, .int .u8 (c.toNat : Int), .int .i64 (numAt l 100 8).1, .int .i64 (numAt l 108 8).1, .int .i64 (numAt l 116 8).1, .int .i64 (numAt l 124 12).1, .int .i64 (numAt l 136 12).1, .int .i64 0, .int .i64 0]) rfl rfl (by kernel_rfl) (by kernel_rfl) (by kernel_rfl) (fun _ _ _ h => h) (Or.inl ⟨by rfl, fun _ _ => by kernel_rfl⟩) (by assumption) ?_
                      simp only [List.setIfInBounds_toArray, List.set_cons_succ, List.set_cons_zero]
                      refine wpAnyH_ready (rs := [18]) (by kernel_rfl) (by simp) ?_
                      refine AllReadyH.cons rfl (fun K hK => ?_) AllReadyH.nil
                      rw [if_pos (by rfl)]
                      refine store_row_no rfl _ _ _ rfl b0 #[.string (mkS (cutZ (sub l 0 100))), .string (mkS (cutZ (sub l 157 100))), .string ⟨#[]⟩, .string ⟨#[]⟩, .string ⟨#[]⟩, .int .u8 (c.toNat : Int), .int .i64 (numAt l 100 8).1, .int .i64 (numAt l 108 8).1, .int .i64 (numAt l 116 8).1, .int .i64 (numAt l 124 12).1, .int .i64 (numAt l 136 12).1, .int .i64 0, .int .i64 0] rfl rfl _ _ hqv43.out infoRef rfl (by kernel_rfl) ?_
                      have h9 := Lib.hid (hv43.out.set hb.out #[.string (mkS (cutZ (sub l 0 100))), .string (mkS (cutZ (sub l 157 100))), .string ⟨#[]⟩, .string ⟨#[]⟩, .string ⟨#[]⟩, .int .u8 (c.toNat : Int), .int .i64 (numAt l 100 8).1, .int .i64 (numAt l 108 8).1, .int .i64 (numAt l 116 8).1, .int .i64 (numAt l 124 12).1, .int .i64 (numAt l 136 12).1, .int .i64 0, .int .i64 0])
                      have hq9 := Lib.hid (setRow_heap v43 _ _ #[.string (mkS (cutZ (sub l 0 100))), .string (mkS (cutZ (sub l 157 100))), .string ⟨#[]⟩, .string ⟨#[]⟩, .string ⟨#[]⟩, .int .u8 (c.toNat : Int), .int .i64 (numAt l 100 8).1, .int .i64 (numAt l 108 8).1, .int .i64 (numAt l 116 8).1, .int .i64 (numAt l 124 12).1, .int .i64 (numAt l 136 12).1, .int .i64 0, .int .i64 0] _ _ hqv43.out)
                      refine hK.out _ _ h9.out.str (fun hHeld => ?_)
                      clear hK
                      (try simp only [Act.put]); (try simp only [List.setIfInBounds_toArray]); (try simp only [List.set_cons_succ]); (try simp only [List.set_cons_zero])
                      refine wpAnyH_done (by kernel_rfl) ?_ _
                      go_wp2_with fail
                      go_meet
                      exact ⟨b0, rfl, hb.out, h9.out, hq9.out⟩
                    exact AllReadyH.nil
                  exact AllReadyH.nil
                exact AllReadyH.nil
              exact AllReadyH.nil
            exact AllReadyH.nil
          exact AllReadyH.nil
        exact AllReadyH.nil
      exact AllReadyH.nil
    case rest =>
      obtain ⟨b0, rfl, hb, hH, hq⟩ := hcut
      have HA := Lib.hid hH
      have QA := Lib.hid hq
      clear hq hH
      by_cases hc0 : c = 0
      · have hk : ((c.toNat : Int) == 0) = true := by rw [hc0]; rfl
        have HK := Lib.hid (show kindF c = 48 by unfold kindF; rw [if_pos hc0])
        obtain ⟨_, _, _, _, _, k5, _⟩ := refAt_of_row QA.out
        have f5 : wc.frozen? ⟨b0, 5, none⟩ = false := frozen_of_row wc b0 5 _ _ QA.out
        have qk := Lib.hid (show (wc.setCell ⟨b0, 5, none⟩ (.int .u8 48)).heap[b0]? = some (.cells #[.string (mkS (cutZ (sub l 0 100))), .string (mkS (cutZ (sub l 157 100))), .string ⟨#[]⟩, .string ⟨#[]⟩, .string ⟨#[]⟩, .int .u8 48, .int .i64 (numAt l 100 8).1, .int .i64 (numAt l 108 8).1, .int .i64 (numAt l 116 8).1, .int .i64 (numAt l 124 12).1, .int .i64 (numAt l 136 12).1, .int .i64 0, .int .i64 0] 23 (0, 0)) from setC QA.out 5 _)
        have hk2 := Lib.hid (HA.out.cellSet hb QA.out 5 (.int .u8 48))
        have bx := cell_of_one hk2.out.box
        obtain ⟨r0, r1, r2, r3, r4, r5, r6, r7, r8, r9, r10, r11, r12⟩ := refAt_of_row qk.out
        generalize hzz : bad5 l = zz at bx
        have HZZ := Lib.hid hzz
        clear hzz hc0
        cases zz with
        | true =>
          have HB := Lib.hid (show ReadIs l (rawZ 0) 0 2 from .range l HR.out fun hn => by have := (bad5_iff HDL.out).2 hn; rw [HZZ.out] at this; cases this)
          go_wp2_with (refine wpList_store_row rfl _ _ _ rfl (w.heap.size + 1) #[.string ⟨#[]⟩, .string ⟨#[]⟩, .string ⟨#[]⟩, .string ⟨#[]⟩, .string ⟨#[]⟩, .int .u8 0, .int .i64 0, .int .i64 0, .int .i64 0, .int .i64 0, .int .i64 0, .int .i64 0, .int .i64 0] rfl rfl _ _ hk2.out.res infoRef rfl (by kernel_rfl) ?_)
          refine bodyPost_ret (results_row3 rfl _ _ (w.heap.size + 1) _ _ _ _ rfl (setRow_heap _ _ _ #[.string ⟨#[]⟩, .string ⟨#[]⟩, .string ⟨#[]⟩, .string ⟨#[]⟩, .string ⟨#[]⟩, .int .u8 0, .int .i64 0, .int .i64 0, .int .i64 0, .int .i64 0, .int .i64 0, .int .i64 0, .int .i64 0] _ _ hk2.out.res) Tryz.underlying23 rfl infoRef) rfl ?_
          exact ⟨_, _, _, HB.out, rfl, below_setRow hk2.out.below (by omega) _⟩
        | false =>
          have HB := Lib.hid (ref_ok (D := 1) HR.out HDL.out HC.out ((bad5_iff HDL.out).1 HZZ.out))
          rw [HK.out] at HB
          go_wp2_with (refine wpList_store_row rfl _ _ _ rfl (w.heap.size + 1) #[.string (mkS (cutZ (sub l 0 100))), .string (mkS (cutZ (sub l 157 100))), .string ⟨#[]⟩, .string ⟨#[]⟩, .string ⟨#[]⟩, .int .u8 48, .int .i64 (numAt l 100 8).1, .int .i64 (numAt l 108 8).1, .int .i64 (numAt l 116 8).1, .int .i64 (numAt l 124 12).1, .int .i64 (numAt l 136 12).1, .int .i64 0, .int .i64 0] rfl rfl _ _ hk2.out.res infoRef rfl (by kernel_rfl) ?_)
          refine bodyPost_ret (results_row3 rfl _ _ (w.heap.size + 1) _ _ _ _ rfl (setRow_heap _ _ _ #[.string (mkS (cutZ (sub l 0 100))), .string (mkS (cutZ (sub l 157 100))), .string ⟨#[]⟩, .string ⟨#[]⟩, .string ⟨#[]⟩, .int .u8 48, .int .i64 (numAt l 100 8).1, .int .i64 (numAt l 108 8).1, .int .i64 (numAt l 116 8).1, .int .i64 (numAt l 124 12).1, .int .i64 (numAt l 136 12).1, .int .i64 0, .int .i64 0] _ _ hk2.out.res) Tryz.underlying23 rfl infoRef) rfl ?_
          exact ⟨_, _, _, HB.out, rfl, below_setRow hk2.out.below (by omega) _⟩
      · have hk : ((c.toNat : Int) == 0) = false := by rw [beq_eq_false_iff_ne]; intro e; exact hc0 (UInt8.toNat_inj.1 (by show c.toNat = 0; omega))
        have HK := Lib.hid (show kindF c = c by unfold kindF; rw [if_neg hc0])
        obtain ⟨_, _, _, _, _, k5, _⟩ := refAt_of_row QA.out
        have f5 : wc.frozen? ⟨b0, 5, none⟩ = false := frozen_of_row wc b0 5 _ _ QA.out
        have bx := cell_of_one HA.out.box
        obtain ⟨r0, r1, r2, r3, r4, r5, r6, r7, r8, r9, r10, r11, r12⟩ := refAt_of_row QA.out
        generalize hzz : bad5 l = zz at bx
        have HZZ := Lib.hid hzz
        clear hzz hc0
        cases zz with
        | true =>
          have HB := Lib.hid (show ReadIs l (rawZ 0) 0 2 from .range l HR.out fun hn => by have := (bad5_iff HDL.out).2 hn; rw [HZZ.out] at this; cases this)
          go_wp2_with (refine wpList_store_row rfl _ _ _ rfl (w.heap.size + 1) #[.string ⟨#[]⟩, .string ⟨#[]⟩, .string ⟨#[]⟩, .string ⟨#[]⟩, .string ⟨#[]⟩, .int .u8 0, .int .i64 0, .int .i64 0, .int .i64 0, .int .i64 0, .int .i64 0, .int .i64 0, .int .i64 0] rfl rfl _ _ HA.out.res infoRef rfl (by kernel_rfl) ?_)
          refine bodyPost_ret (results_row3 rfl _ _ (w.heap.size + 1) _ _ _ _ rfl (setRow_heap _ _ _ #[.string ⟨#[]⟩, .string ⟨#[]⟩, .string ⟨#[]⟩, .string ⟨#[]⟩, .string ⟨#[]⟩, .int .u8 0, .int .i64 0, .int .i64 0, .int .i64 0, .int .i64 0, .int .i64 0, .int .i64 0, .int .i64 0] _ _ HA.out.res) Tryz.underlying23 rfl infoRef) rfl ?_
          exact ⟨_, _, _, HB.out, rfl, below_setRow HA.out.below (by omega) _⟩
        | false =>
          have HB := Lib.hid (ref_ok (D := 1) HR.out HDL.out HC.out ((bad5_iff HDL.out).1 HZZ.out))
          rw [HK.out] at HB
          go_wp2_with (refine wpList_store_row rfl _ _ _ rfl (w.heap.size + 1) #[.string (mkS (cutZ (sub l 0 100))), .string (mkS (cutZ (sub l 157 100))), .string ⟨#[]⟩, .string ⟨#[]⟩, .string ⟨#[]⟩, .int .u8 (c.toNat : Int), .int .i64 (numAt l 100 8).1, .int .i64 (numAt l 108 8).1, .int .i64 (numAt l 116 8).1, .int .i64 (numAt l 124 12).1, .int .i64 (numAt l 136 12).1, .int .i64 0, .int .i64 0] rfl rfl _ _ HA.out.res infoRef rfl (by kernel_rfl) ?_)
          refine bodyPost_ret (results_row3 rfl _ _ (w.heap.size + 1) _ _ _ _ rfl (setRow_heap _ _ _ #[.string (mkS (cutZ (sub l 0 100))), .string (mkS (cutZ (sub l 157 100))), .string ⟨#[]⟩, .string ⟨#[]⟩, .string ⟨#[]⟩, .int .u8 (c.toNat : Int), .int .i64 (numAt l 100 8).1, .int .i64 (numAt l 108 8).1, .int .i64 (numAt l 116 8).1, .int .i64 (numAt l 124 12).1, .int .i64 (numAt l 136 12).1, .int .i64 0, .int .i64 0] _ _ HA.out.res) Tryz.underlying23 rfl infoRef) rfl ?_
          exact ⟨_, _, _, HB.out, rfl, below_setRow HA.out.below (by omega) _⟩
end Go.Proofs.YtapfkjdkpcgoiaaGreatDoor
