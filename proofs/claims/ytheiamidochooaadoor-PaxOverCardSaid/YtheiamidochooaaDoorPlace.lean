/- api.Tell, plain.Place and the law's 'placed' at an error with its place (*api.At), at an Errno and at nil. -/
import Derived.Test.YtheiamidochooaaDoorErrAt
import Derived.Test.YtheiamidochooaaDoorMk
namespace Go.Proofs.YtheiamidochooaaDoor
open Go.RowKit Go.Extern.Stop Go.Stop Go.Extern Go.Joins

set_option maxHeartbeats 1000000 in
theorem tell_at (n : Int) (pb : Nat) (w : World) (hg : ErrLaid w) (hq0 : w.cell? ⟨pb, 0, none⟩ = some (.int .i64 n)) :
    Calls Tryd.prog 64 #[.iface 70 (.pointer (some ⟨pb, 0, none⟩))] w fun e w' => e = .returned (.int .i64 n) ∧ Below w.heap.size w w' := by
  have hgA := hg.alloc (.cells #[.int .i64 0] 23)
  have hpos := hg.pos
  have HG := Lib.hid hg
  unfold ErrLaid at hgA
  clear hg
  have hql : pb < w.heap.size := by
    rcases Nat.lt_or_ge pb w.heap.size with h | h
    · exact h
    · simp [World.cell?, Array.getElem?_eq_none h] at hq0
  have hqA : (w.alloc (.cells #[.int .i64 0] 23)).cell? ⟨pb, 0, none⟩ = some (.int .i64 n) := by
    rw [World.cell?_alloc_lt _ _ ⟨pb, 0, none⟩ hql]; exact hq0
  have htA : (w.alloc (.cells #[.int .i64 0] 23)).cell? ⟨w.heap.size, 0, none⟩ = some (.int .i64 0) := by simp
  have hfA : (w.alloc (.cells #[.int .i64 0] 23)).frozen? ⟨w.heap.size, 0, none⟩ = false := by simp
  clear hql hq0
  go_enter Tryd.func64, Tryd.ntmps64
  go_wp2_with (go_at_call 76; refine (as_at _ _ _ (.int .i64 0) _ hgA htA hfA hqA).mono ?_; rintro e w' ⟨rfl, rfl⟩)
  go_ret
  exact ⟨rfl, by go_grown⟩

theorem Tryd.isAt (p : Addr) (w : World) : (Instr.typeAssert (.iface 70 (.pointer (some p))) 29 70 true).run Tryd.prog w = .ok (.tuple #[.pointer (some p), .bool true]) w := by kernel_rfl

set_option maxHeartbeats 1000000 in
theorem place_at (n pl : Int) (pb : Nat) (w : World) (hg : ErrLaid w) (hq0 : w.cell? ⟨pb, 0, none⟩ = some (.int .i64 n)) (hq1 : w.cell? ⟨pb, 1, none⟩ = some (.int .i64 pl)) :
    Calls Tryd.prog 42 #[.iface 70 (.pointer (some ⟨pb, 0, none⟩))] w fun e w' => e = .returned (.tuple #[.int .i64 n, .int .i64 pl]) ∧ Below w.heap.size w w' := by
  have a1 := Tryd.isAt
  have hql : pb < w.heap.size := by
    rcases Nat.lt_or_ge pb w.heap.size with h | h
    · exact h
    · simp [World.cell?, Array.getElem?_eq_none h] at hq0
  have Z := Lib.hid (show ∀ w', Below w.heap.size w w' → w'.cell? ⟨pb, 1, none⟩ = some (.int .i64 pl) from fun w' h => (h.cell (p := ⟨pb, 1, none⟩) hql).trans hq1)
  have T := Lib.hid (tell_at n pb w hg hq0)
  clear hq0 hq1 hql hg
  go_enter Tryd.func42, Tryd.ntmps42
  go_wp2_with (go_at_call 64; refine T.out.mono ?_; rintro e w' ⟨rfl, hb⟩; have z := Z.out _ hb)
  refine wp_loop_rounds 1 ?_
  rw [rounds_succ]
  go_wp2
  go_quiet (fail)
  go_wp2
  go_ret2
  exact ⟨rfl, hb.trans (below_draws _ _ _)⟩

/-- A fault, as a value. -/
abbrev flV (e at_ : Int) : Value := .agg #[.int .i64 e, .int .i64 at_]

theorem placed_nil (w : World) :
    Calls Tryd.prog 13 #[.nilIface, flV 0 (-1)] w fun e w' => e = .returned (.bool true) ∧ Below w.heap.size w w' := by
  go_enter Tryd.func13, Tryd.ntmps13
  go_wp2_with (go_at_call 42; refine (place_nil _).mono ?_; rintro e w' ⟨rfl, rfl⟩)
  go_ret
  exact ⟨rfl, below_alloc1 _ _⟩

set_option maxHeartbeats 1000000 in
theorem placed_err (n : Int) (w : World) (hg : ErrLaid w) :
    Calls Tryd.prog 13 #[.iface 23 (.int .i64 n), flV n (-1)] w fun e w' => e = .returned (.bool true) ∧ Below w.heap.size w w' := by
  have hb0 := below_alloc1 w (.cells #[.int .i64 n, .int .i64 (-1)] 25)
  have hc1 : (w.alloc (.cells #[.int .i64 n, .int .i64 (-1)] 25)).cell? ⟨w.heap.size, 0, none⟩ = some (.int .i64 n) := by simp
  have hc2 : (w.alloc (.cells #[.int .i64 n, .int .i64 (-1)] 25)).cell? ⟨w.heap.size, 1, none⟩ = some (.int .i64 (-1)) := by simp
  have hz : w.heap.size < (w.alloc (.cells #[.int .i64 n, .int .i64 (-1)] 25)).heap.size := by simp
  have Z := Lib.hid (show ∀ w', Below (w.alloc (.cells #[.int .i64 n, .int .i64 (-1)] 25)).heap.size (w.alloc (.cells #[.int .i64 n, .int .i64 (-1)] 25)) w' → w'.cell? ⟨w.heap.size, 0, none⟩ = some (.int .i64 n) ∧ w'.cell? ⟨w.heap.size, 1, none⟩ = some (.int .i64 (-1)) ∧ Below w.heap.size w w' from fun w' h => ⟨(h.cell (p := ⟨w.heap.size, 0, none⟩) hz).trans hc1, (h.cell (p := ⟨w.heap.size, 1, none⟩) hz).trans hc2, hb0.trans (h.mono hb0.size)⟩)
  have hgA := hg.alloc (.cells #[.int .i64 n, .int .i64 (-1)] 25)
  have P := Lib.hid (place_err n _ hgA)
  clear hc1 hc2 hz hgA hg hb0
  go_enter Tryd.func13, Tryd.ntmps13
  go_wp2_with (go_at_call 42; refine P.out.mono ?_; rintro e w' ⟨rfl, hb⟩; obtain ⟨z1, z2, z3⟩ := Z.out _ hb)
  go_ret
  exact ⟨by simp, z3⟩

set_option maxHeartbeats 1000000 in
theorem placed_at (n pl : Int) (pb : Nat) (w : World) (hg : ErrLaid w) (hq0 : w.cell? ⟨pb, 0, none⟩ = some (.int .i64 n)) (hq1 : w.cell? ⟨pb, 1, none⟩ = some (.int .i64 pl)) :
    Calls Tryd.prog 13 #[.iface 70 (.pointer (some ⟨pb, 0, none⟩)), flV n pl] w fun e w' => e = .returned (.bool true) ∧ Below w.heap.size w w' := by
  have hql : pb < w.heap.size := by
    rcases Nat.lt_or_ge pb w.heap.size with h | h
    · exact h
    · simp [World.cell?, Array.getElem?_eq_none h] at hq0
  have hb0 := below_alloc1 w (.cells #[.int .i64 n, .int .i64 pl] 25)
  have hc1 : (w.alloc (.cells #[.int .i64 n, .int .i64 pl] 25)).cell? ⟨w.heap.size, 0, none⟩ = some (.int .i64 n) := by simp
  have hc2 : (w.alloc (.cells #[.int .i64 n, .int .i64 pl] 25)).cell? ⟨w.heap.size, 1, none⟩ = some (.int .i64 pl) := by simp
  have hz : w.heap.size < (w.alloc (.cells #[.int .i64 n, .int .i64 pl] 25)).heap.size := by simp
  have Z := Lib.hid (show ∀ w', Below (w.alloc (.cells #[.int .i64 n, .int .i64 pl] 25)).heap.size (w.alloc (.cells #[.int .i64 n, .int .i64 pl] 25)) w' → w'.cell? ⟨w.heap.size, 0, none⟩ = some (.int .i64 n) ∧ w'.cell? ⟨w.heap.size, 1, none⟩ = some (.int .i64 pl) ∧ Below w.heap.size w w' from fun w' h => ⟨(h.cell (p := ⟨w.heap.size, 0, none⟩) hz).trans hc1, (h.cell (p := ⟨w.heap.size, 1, none⟩) hz).trans hc2, hb0.trans (h.mono hb0.size)⟩)
  have hgA := hg.alloc (.cells #[.int .i64 n, .int .i64 pl] 25)
  have P := Lib.hid (place_at n pl pb _ hgA (by rw [World.cell?_alloc_lt _ _ ⟨pb, 0, none⟩ hql]; exact hq0) (by rw [World.cell?_alloc_lt _ _ ⟨pb, 1, none⟩ hql]; exact hq1))
  clear hc1 hc2 hz hgA hg hb0 hq0 hq1 hql
  go_enter Tryd.func13, Tryd.ntmps13
  go_wp2_with (go_at_call 42; refine P.out.mono ?_; rintro e w' ⟨rfl, hb⟩; obtain ⟨z1, z2, z3⟩ := Z.out _ hb)
  go_ret
  exact ⟨by simp, z3⟩
end Go.Proofs.YtheiamidochooaaDoor
