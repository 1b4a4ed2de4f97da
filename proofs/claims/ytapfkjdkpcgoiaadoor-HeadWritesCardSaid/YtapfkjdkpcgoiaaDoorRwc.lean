/- The closures of the reference's HeadWrite. -/
import Derived.Test.YtapfkjdkpcgoiaaDoorWrd
namespace Go.Proofs.YtapfkjdkpcgoiaaDoor
open Go.RowKit Go.Joins
set_option linter.unusedVariables false
set_option linter.unusedSimpArgs false

/-- The blocks below n but b stand as they stood. -/
structure But (n b : Nat) (w w' : World) : Prop where
  os : w'.os = w.os
  tape : w'.tape = w.tape
  output : w'.output = w.output
  size : w.heap.size ≤ w'.heap.size
  block : ∀ k, k < n → k ≠ b → w'.heap[k]? = w.heap[k]?
theorem But.of_below {n b : Nat} {w w' : World} (h : Below n w w') : But n b w w' := ⟨h.os, h.tape, h.output, h.size, fun k hk _ => h.block k hk⟩
theorem But.below {n b : Nat} {w w' : World} (h : But n b w w') (hn : n ≤ b) : Below n w w' := ⟨h.os, h.tape, h.output, h.size, fun k hk => h.block k hk (by omega)⟩
theorem But.trans {n b : Nat} {w w' w'' : World} (h : But n b w w') (k : But n b w' w'') : But n b w w'' := ⟨k.os.trans h.os, k.tape.trans h.tape, k.output.trans h.output, Nat.le_trans h.size k.size, fun i hi hb => (k.block i hi hb).trans (h.block i hi hb)⟩
theorem But.mono {n m b : Nat} {w w' : World} (h : But n b w w') (hm : m ≤ n) : But m b w w' := ⟨h.os, h.tape, h.output, h.size, fun k hk hb => h.block k (by omega) hb⟩
theorem But.grown {n b : Nat} {a w w' : World} (h : But n b a w) (hg : w.grownBy w' (some b)) (hn : n ≤ w.heap.size) : But n b a w' :=
  ⟨hg.os.trans h.os, hg.tape.trans h.tape, hg.output.trans h.output, Nat.le_trans h.size hg.size, fun k hk hb => (hg.block k (by omega) (fun e => hb (by injection e))).trans (h.block k hk hb)⟩
/-- Block c holds the two numbers of a key. -/
def Kept (w : World) (c i j : Nat) : Prop := w.cell? ⟨c, 0, none⟩ = some (.int .i64 (i : Int)) ∧ w.cell? ⟨c, 1, none⟩ = some (.int .i64 (j : Int))
theorem But.cell {n b : Nat} {w w' : World} (h : But n b w w') {a : Addr} (h1 : a.block < n) (h2 : a.block ≠ b) : w'.cell? a = w.cell? a := World.cell?_of_block (w := w) (h.block a.block h1 h2)
theorem But.setOne {n b : Nat} {a w : World} (h : But n b a w) {cur : Array Value} {t : TypeId} {fr : Nat × Nat} (hr : w.heap[b]? = some (.cells cur t fr)) (v : Value) : But n b a (w.setCell ⟨b, 0, none⟩ v) := by
  rw [setCell_eq_setRow w b 0 _ _ _ v hr]
  exact ⟨h.os, h.tape, h.output, by rw [setRow_size]; exact h.size, fun k hk hb => (setRow_other w b k _ hb).trans (h.block k hk hb)⟩
theorem rep_zero (n : Nat) (w : World) (h : n ≤ 1000) :
    Calls Tryd.prog 23 #[.string ⟨#[0]⟩, .int .i64 (n : Int)] w fun e w' => e = .returned (.string (mkS (List.replicate n 0))) ∧ Below w.heap.size w w' := by
  have h := Tryd.strings_Repeat ⟨#[0]⟩ n w (by omega) (by show 1 * n ≤ _; omega)
  have e : (⟨(Lib.repeatL [0] n).toArray⟩ : ByteArray) = mkS (List.replicate n 0) := by
    have h0 : ∀ m, Lib.repeatL [0] m = List.replicate m (0 : UInt8) := by
      intro m
      induction m with
      | zero => rfl
      | succ m ih => rw [Lib.repeatL, ih]; rfl
    unfold mkS
    rw [h0]
  rwa [e] at h
set_option maxHeartbeats 2000000 in
theorem refMagic_any (d : Int) (hd : 1 ≤ d ∧ d ≤ 4) (w : World) :
    Calls Tryd.prog 27 #[.int .i64 d] w fun e w' => e = .returned (.string (mkS (magicL d.toNat))) ∧ Below w.heap.size w w' := by
  have R := Lib.hid (fun w => rep_zero 8 w (by omega))
  obtain rfl | rfl | rfl | rfl : d = 1 ∨ d = 2 ∨ d = 3 ∨ d = 4 := by omega
  all_goals
    go_enter Tryd.func27, Tryd.ntmps27
    go_wp2_with (go_at_call 23; (refine (R.out _).mono ?_); rintro e w1 ⟨rfl, h1⟩)
    go_ret
    exact ⟨rfl, h1.alloc h1.size _⟩
set_option maxHeartbeats 2000000 in
theorem refWt_any (s : List UInt8) (n : Nat) (c : Nat) (x : Bool) (hs : s.length ≤ 1000000) (hn : n ≤ 1000) (w : World) (hx : w.heap[c]? = some (.cells #[.bool x] 4 (0, 0))) :
    Calls Tryd.prog 21 #[.string (mkS s), .int .i64 (n : Int), .pointer (some ⟨c, 0, none⟩)] w fun e w' =>
      e = .returned (.string (mkS (txtG s n))) ∧ w'.heap[c]? = some (.cells #[.bool (x && txtOk s n)] 4 (0, 0)) ∧ But w.heap.size c w w' := by
  have s1 := mkS_size s
  have cx := cell_of_one hx
  have fx := free_of_one hx
  have HX := Lib.hid hx
  have C3 := Lib.hid (contains_zero s)
  clear hx
  by_cases hl : (n : Int) < (s.length : Int)
  · have ho : txtOk s n = false := by unfold txtOk; rw [decide_eq_false (by omega)]; rfl
    have hG : txtG s n = [] := by unfold txtG; rw [ho]; rfl
    rw [ho, hG, Bool.and_false]
    clear ho hG
    go_enter Tryd.func21, Tryd.ntmps21
    go_wp2
    go_ret
    exact ⟨rfl, one_setCell HX.out, (But.of_below (Below.refl _ _)).setOne HX.out _⟩
  · cases hz : s.any (· == 0) with
    | true =>
      rw [hz] at C3
      have ho : txtOk s n = false := by unfold txtOk; rw [hz]; simp
      have hG : txtG s n = [] := by unfold txtG; rw [ho]; rfl
      rw [ho, hG, Bool.and_false]
      clear ho hG hz
      go_enter Tryd.func21, Tryd.ntmps21
      go_wp2_with (go_at_call 22; (with_reducible refine (C3.out _).mono ?_); rintro e w' ⟨rfl, hw⟩; replace hw := hw.symm; subst hw)
      go_ret
      exact ⟨rfl, one_setCell HX.out, (But.of_below (Below.refl _ _)).setOne HX.out _⟩
    | false =>
      rw [hz] at C3
      have ho : txtOk s n = true := by unfold txtOk; rw [hz, decide_eq_true (by omega)]; rfl
      have hG : txtG s n = s ++ List.replicate (n - s.length) 0 := by unfold txtG; rw [ho]; rfl
      rw [ho, hG, Bool.and_true]
      obtain ⟨m, hm⟩ : ∃ m : Nat, n = s.length + m := ⟨n - s.length, by omega⟩
      subst hm
      rw [show s.length + m - s.length = m by omega]
      have hm2 : (s.length : Int) + (m : Int) - (s.length : Int) = (m : Int) := by omega
      have R := Lib.hid (fun w => show Calls Tryd.prog 23 #[.string ⟨#[0]⟩, .int .i64 ((s.length : Int) + (m : Int) - (s.length : Int))] w fun e w' => e = .returned (.string (mkS (List.replicate m 0))) ∧ Below w.heap.size w w' by
        rw [hm2]; exact rep_zero m w (by omega))
      have hlt := (Array.getElem?_eq_some_iff.1 HX.out).1
      clear hm2
      have hcat := fun w => mkS_cat2 s (List.replicate m 0) (by rw [List.length_replicate]; omega) w
      clear ho hG hz
      generalize mkS (List.replicate m 0) = Z at *
      generalize mkS (s ++ List.replicate m 0) = ZZ at *
      go_enter Tryd.func21, Tryd.ntmps21
      go_wp2_with (first
        | (go_at_call 22; (with_reducible refine (C3.out _).mono ?_); rintro e w' ⟨rfl, hw⟩; replace hw := hw.symm; subst hw)
        | (go_at_call 23; (with_reducible refine (R.out _).mono ?_); rintro e w1 ⟨rfl, h1⟩)
        | fail)
      go_ret
      exact ⟨rfl, (h1.block c hlt).trans HX.out, But.of_below h1⟩
set_option maxHeartbeats 2000000 in
theorem refWn_any (v : Int) (hv : i64 v) (n : Nat) (d : Int) (b c : Nat) (x : Bool) (hn : n = 8 ∨ n = 12) (w : World) (hd : w.cell? ⟨b, 0, none⟩ = some (.int .i64 d)) (hx : w.heap[c]? = some (.cells #[.bool x] 4 (0, 0))) :
    Calls Tryd.prog 24 #[.int .i64 v, .int .i64 (n : Int), .pointer (some ⟨b, 0, none⟩), .pointer (some ⟨c, 0, none⟩)] w fun e w' =>
      e = .returned (.string (mkS (numG v n (d == 3)))) ∧ w'.heap[c]? = some (.cells #[.bool (x && numOk v n (d == 3))] 4 (0, 0)) ∧ But w.heap.size c w w' := by
  have HX := Lib.hid hx
  have hlt := (Array.getElem?_eq_some_iff.1 hx).1
  have cx := cell_of_one hx
  have HW : ∃ k : Int, (k == 0) = numOk v n (d == 3) ∧ ∀ w, Calls Tryd.prog 25 #[.int .i64 v, .int .i64 (n : Int), .bool (d == 3)] w fun e w' => e = .returned (.tuple #[.string (mkS (numG v n (d == 3))), .int .i64 k]) ∧ Below w.heap.size w w' := by
    by_cases ho : numOk v n (d == 3) = true
    · exact ⟨0, by rw [ho]; rfl, fun w => refWrite_any v n (d == 3) 0 _ (wr_ok hn ho) hv.1 hv.2 w⟩
    · refine ⟨2, by rw [Bool.eq_false_iff.2 ho]; rfl, fun w => ?_⟩
      have hG : numG v n (d == 3) = [] := by
        unfold numG
        unfold numOk at ho
        rw [Bool.or_eq_true, not_or] at ho
        rw [if_neg ho.1, if_neg ho.2]
      rw [hG]
      exact refWrite_any v n (d == 3) 2 _ (wr_no hn ho) hv.1 hv.2 w
  obtain ⟨k, hk, hW⟩ := HW
  have W := Lib.hid hW
  rw [← hk]
  clear hk hW hx
  generalize mkS (numG v n (d == 3)) = Y at *
  cases x
  all_goals
    go_enter Tryd.func24, Tryd.ntmps24
    go_wp2_with (first
      | (go_at_call 25; (with_reducible refine (W.out _).mono ?_); rintro e w1 ⟨rfl, h1⟩; have hx1 := (h1.block c hlt).trans HX.out; have cx1 := cell_of_one hx1; have fx1 := free_of_one hx1; have H1 := Lib.hid h1; have HX1 := Lib.hid hx1; clear h1 hx1)
      | fail)
    go_ret
    exact ⟨rfl, one_setCell HX1.out, (But.of_below H1.out).setOne HX1.out _⟩
end Go.Proofs.YtapfkjdkpcgoiaaDoor
