/- The closures of the reference's HeadRead. -/
import Derived.Test.YtapfkjdkpcgoiaaGreatDoorSptz
import Derived.Test.YtapfkjdkpcgoiaaGreatDoorHd
import Derived.Test.YtapfkjdkpcgoiaaGreatDoorReadL
import Derived.Test.YtapfkjdkpcgoiaaGreatDoorRat
import Derived.Test.YtapfkjdkpcgoiaaGreatDoorRg
namespace Go.Proofs.YtapfkjdkpcgoiaaGreatDoor
open Go.RowKit Go.Joins
set_option linter.unusedVariables false
set_option linter.unusedSimpArgs false

theorem wrap_small (n : Int) (h0 : 0 ≤ n) (h1 : n ≤ 1000000) : IntKind.i64.wrap n = n := by
  simp only [IntKind.wrap, IntKind.bits, IntKind.signed]
  simp
  omega
theorem mid_sub (l : List UInt8) (i j : Nat) (hi : i ≤ j) (h : j ≤ l.length) (w : World) : (Instr.slice 9 (.string (mkS l)) (some (.int .i64 (i : Int))) (some (.int .i64 (j : Int))) none).run Tryz.prog w = .ok (.string (mkS (sub l i (j - i)))) w := mkS_mid l i j hi h w
set_option maxHeartbeats 2000000 in
theorem refText_any (l : List UInt8) (b : Nat) (a n : Nat) (h : a + n ≤ l.length) (hl : l.length ≤ 1000) (w : World) (hc : w.cell? ⟨b, 0, none⟩ = some (.string (mkS l))) :
    Calls Tryz.prog 10 #[.int .i64 (a : Int), .int .i64 (n : Int), .pointer (some ⟨b, 0, none⟩)] w fun e w' => e = .returned (.string (mkS (cutZ (sub l a n)))) ∧ Below w.heap.size w w' := by
  have hm : ∀ w, (Instr.slice 9 (.string (mkS l)) (some (.int .i64 (a : Int))) (some (.int .i64 ((a : Int) + (n : Int)))) none).run Tryz.prog w = .ok (.string (mkS (sub l a n))) w := fun w => by
    have := mid_sub l a (a + n) (by omega) (by omega) w
    rw [show a + n - a = n by omega] at this
    simpa using this
  have hwr : IntKind.i64.wrap ((a : Int) + (n : Int)) = (a : Int) + (n : Int) := wrap_small _ (by omega) (by omega)
  have SP := Lib.hid (fun w => splitZ_any (sub l a n) (by unfold sub; rw [List.length_take]; omega) w)
  have hp0 := pieces_first (sub l a n)
  have hcell := Lib.hid (fun w => split_cell (sub l a n) w _ 0 _ hp0 (Below.refl _ _))
  obtain ⟨m, hm1⟩ : ∃ m, (piecesZ (sub l a n)).length = m + 1 := by
    cases hq : piecesZ (sub l a n) with
    | nil => exact absurd hq (pieces_ne _)
    | cons x y => exact ⟨y.length, rfl⟩
  rw [hm1] at SP
  clear hm1 hp0
  generalize ((piecesZ (sub l a n)).map encS).toArray = cs at *
  generalize mkS (cutZ (sub l a n)) = T at *
  go_enter Tryz.func10, Tryz.ntmps10
  go_wp2_with (go_at_call 11; (refine (SP.out _).mono ?_); rintro e w1 ⟨rfl, hw⟩; subst hw; have hz := hcell.out w)
  go_ret
  exact ⟨rfl, below_alloc1 _ _⟩
/-- The blocks below n but b stand as they stood. -/
structure But (n b : Nat) (w w' : World) : Prop where
  os : w'.os = w.os
  tape : w'.tape = w.tape
  output : w'.output = w.output
  size : w.heap.size ≤ w'.heap.size
  block : ∀ k, k < n → k ≠ b → w'.heap[k]? = w.heap[k]?
theorem But.of_below {n b : Nat} {w w' : World} (h : Below n w w') : But n b w w' := ⟨h.os, h.tape, h.output, h.size, fun k hk _ => h.block k hk⟩
theorem But.below {n b : Nat} {w w' : World} (h : But n b w w') (hn : n ≤ b) : Below n w w' := ⟨h.os, h.tape, h.output, h.size, fun k hk => h.block k hk (by omega)⟩
theorem But.trans {n b : Nat} {w w' w'' : World} (h : But n b w w') (k : But n b w' w'') : But n b w w'' := ⟨k.os.trans h.os, k.tape.trans h.tape, k.output.trans h.output, Nat.le_trans h.size k.size, fun i hi hb => (k.block i hi hb).trans (h.block i hi hb)⟩
theorem But.mono {n m b : Nat} {w w' : World} (h : But n b w w') (hm : m ≤ n) : But m b w w' := ⟨h.os, h.tape, h.output, h.size, fun k hk hb => h.block k (by omega) hb⟩
theorem But.grown {n b : Nat} {a w w' : World} (h : But n b a w) (hg : w.grownBy w' (some b)) (hn : n ≤ w.heap.size) : But n b a w' :=
  ⟨hg.os.trans h.os, hg.tape.trans h.tape, hg.output.trans h.output, Nat.le_trans h.size hg.size, fun k hk hb => (hg.block k (by omega) (fun e => hb (by injection e))).trans (h.block k hk hb)⟩
/-- Block c holds the two numbers of a key. -/
def Kept (w : World) (c i j : Nat) : Prop := w.cell? ⟨c, 0, none⟩ = some (.int .i64 (i : Int)) ∧ w.cell? ⟨c, 1, none⟩ = some (.int .i64 (j : Int))
theorem But.cell {n b : Nat} {w w' : World} (h : But n b w w') {a : Addr} (h1 : a.block < n) (h2 : a.block ≠ b) : w'.cell? a = w.cell? a := World.cell?_of_block (w := w) (h.block a.block h1 h2)
theorem But.setOne {n b : Nat} {a w : World} (h : But n b a w) {cur : Array Value} {t : TypeId} {fr : Nat × Nat} (hr : w.heap[b]? = some (.cells cur t fr)) (v : Value) : But n b a (w.setCell ⟨b, 0, none⟩ v) := by
  rw [setCell_eq_setRow w b 0 _ _ _ v hr]
  exact ⟨h.os, h.tape, h.output, by rw [setRow_size]; exact h.size, fun k hk hb => (setRow_other w b k _ hb).trans (h.block k hk hb)⟩
set_option maxHeartbeats 2000000 in
theorem refNum_any (l : List UInt8) (b c : Nat) (a n : Nat) (x : Bool) (h : a + n ≤ l.length) (hl : l.length ≤ 1000) (w : World) (hc : w.cell? ⟨b, 0, none⟩ = some (.string (mkS l))) (hx : w.heap[c]? = some (.cells #[.bool x] 4 (0, 0))) :
    Calls Tryz.prog 12 #[.int .i64 (a : Int), .int .i64 (n : Int), .pointer (some ⟨b, 0, none⟩), .pointer (some ⟨c, 0, none⟩)] w fun e w' =>
      e = .returned (.int .i64 (numAt l a n).1) ∧ w'.heap[c]? = some (.cells #[.bool (x || !((numAt l a n).2 == 0))] 4 (0, 0)) ∧ But w.heap.size c w w' := by
  have hm : ∀ w, (Instr.slice 9 (.string (mkS l)) (some (.int .i64 (a : Int))) (some (.int .i64 ((a : Int) + (n : Int)))) none).run Tryz.prog w = .ok (.string (mkS (sub l a n))) w := fun w => by
    have := mid_sub l a (a + n) (by omega) (by omega) w
    rw [show a + n - a = n by omega] at this
    simpa using this
  have hwr : IntKind.i64.wrap ((a : Int) + (n : Int)) = (a : Int) + (n : Int) := wrap_small _ (by omega) (by omega)
  have RD := Lib.hid (fun w => refRead_any (mkS (sub l a n)) w (by rw [mkS_size]; unfold sub; rw [List.length_take]; omega))
  have hrd : readS (mkS (sub l a n)) = numAt l a n := by unfold readS numAt; rw [mkS_list]
  unfold NumNo at RD
  rw [hrd] at RD
  clear hrd
  generalize (numAt l a n).1 = v at *
  generalize (numAt l a n).2 = k at *
  have hlt := (Array.getElem?_eq_some_iff.1 hx).1
  have HX := Lib.hid hx
  cases x
  all_goals
    go_enter Tryz.func12, Tryz.ntmps12
    go_wp2_with (go_at_call 13; (with_reducible refine (RD.out _).mono ?_); rintro e w1 ⟨rfl, h1⟩; have hx1 := (h1.block c hlt).trans HX.out; have cx := cell_of_one hx1; have fx := free_of_one hx1; have H1 := Lib.hid h1; have HX1 := Lib.hid hx1; clear h1 hx1)
    go_ret
    exact ⟨rfl, one_setCell HX1.out, (But.of_below H1.out).setOne HX1.out _⟩
theorem refText_at (l : List UInt8) (b : Nat) (a n : Nat) (A N : Int) (hA : A = a) (hN : N = n) (h : a + n ≤ l.length) (hl : l.length ≤ 1000) (w : World) (hc : w.cell? ⟨b, 0, none⟩ = some (.string (mkS l))) :
    Calls Tryz.prog 10 #[.int .i64 A, .int .i64 N, .pointer (some ⟨b, 0, none⟩)] w fun e w' => e = .returned (.string (mkS (cutZ (sub l a n)))) ∧ Below w.heap.size w w' := by
  subst hA hN
  exact refText_any l b a n h hl w hc
theorem refNum_at (l : List UInt8) (b c : Nat) (a n : Nat) (A N : Int) (hA : A = a) (hN : N = n) (x : Bool) (h : a + n ≤ l.length) (hl : l.length ≤ 1000) (w : World) (hc : w.cell? ⟨b, 0, none⟩ = some (.string (mkS l))) (hx : w.heap[c]? = some (.cells #[.bool x] 4 (0, 0))) :
    Calls Tryz.prog 12 #[.int .i64 A, .int .i64 N, .pointer (some ⟨b, 0, none⟩), .pointer (some ⟨c, 0, none⟩)] w fun e w' =>
      e = .returned (.int .i64 (numAt l a n).1) ∧ w'.heap[c]? = some (.cells #[.bool (x || !((numAt l a n).2 == 0))] 4 (0, 0)) ∧ But w.heap.size c w w' := by
  subst hA hN
  exact refNum_any l b c a n x h hl w hc hx
end Go.Proofs.YtapfkjdkpcgoiaaGreatDoor
