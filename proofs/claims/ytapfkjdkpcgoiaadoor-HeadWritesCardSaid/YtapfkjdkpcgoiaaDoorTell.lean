/- api.Tell, plain.Place and the law's 'bare': what each returns for no error and for an Errno. -/
import Derived.Test.YtapfkjdkpcgoiaaDoorErr
import Derived.Handy
namespace Go.Proofs.YtapfkjdkpcgoiaaDoor
open Go.RowKit Go.Extern.Stop Go.Stop Go.Extern

/-- errors.errorType holds the handle of the type 'error'. -/
def ErrLaid (w : World) : Prop := w.cell? ⟨0, 0, none⟩ = some (.iface 137 (.agg #[.pointer (some ⟨7, 29, none⟩)]))

theorem ErrLaid.posG {w : World} (h : ErrLaid w) : 0 < w.heap.size := by
  unfold ErrLaid at h
  rcases Nat.lt_or_ge 0 w.heap.size with h0 | h0
  · exact h0
  · simp [World.cell?, Array.getElem?_eq_none h0] at h
theorem ErrLaid.pos {w : World} (h : ErrLaid w) : 0 < w.heap.size := Nat.lt_of_le_of_lt (Nat.zero_le _) h.posG
theorem ErrLaid.below {w w' : World} (h : ErrLaid w) (hb : Below w.heap.size w w') : ErrLaid w' := by
  have hp := h.posG
  unfold ErrLaid at h ⊢
  rw [hb.cell (p := ⟨0, 0, none⟩) hp]; exact h
theorem ErrLaid.alloc {w : World} (h : ErrLaid w) (o : Obj) : ErrLaid (w.alloc o) := h.below ((Below.refl _ _).alloc (Nat.le_refl _) o)

theorem tell_nil (w : World) :
    Calls Tryd.prog 17 #[.nilIface] w fun e w' => e = .returned (.int .i64 0) ∧ w' = w := by
  go_enter Tryd.func17, Tryd.ntmps17
  go_wp2
  go_ret
  exact ⟨rfl, rfl⟩

set_option maxHeartbeats 1000000 in
theorem tell_err (n : Int) (w : World) (hg : ErrLaid w) :
    Calls Tryd.prog 17 #[.iface 25 (.int .i64 n)] w fun e w' => e = .returned (.int .i64 n) ∧ Below w.heap.size w w' := by
  have hgA := hg.alloc (.cells #[.int .i64 0] 25)
  have hpos := hg.pos
  have HG := Lib.hid hg
  unfold ErrLaid at hgA
  clear hg
  have htA : (w.alloc (.cells #[.int .i64 0] 25)).cell? ⟨w.heap.size, 0, none⟩ = some (.int .i64 0) := by simp
  have hfA : (w.alloc (.cells #[.int .i64 0] 25)).frozen? ⟨w.heap.size, 0, none⟩ = false := by simp
  go_enter Tryd.func17, Tryd.ntmps17
  go_wp2_with (go_at_call 40; refine (as_hit _ _ (.int .i64 0) _ hgA htA hfA).mono ?_; rintro e w' ⟨rfl, rfl⟩)
  go_ret
  exact ⟨rfl, by go_grown⟩

theorem Tryd.notAt (n : Int) (w : World) : (Instr.typeAssert (.iface 25 (.int .i64 n)) 29 99 true).run Tryd.prog w = .ok (.tuple #[.pointer none, .bool false]) w := by kernel_rfl
theorem Tryd.noUnwrap (v : Value) (xT : TypeId) (w : World) : (Instr.typeAssert (.iface 25 v) xT 103 true).run Tryd.prog w = .ok (.tuple #[.nilIface, .bool false]) w :=
  run_typeAssert_lacksB Tryd.underlying103 (by kernel_rfl) (by kernel_rfl) v xT w

theorem place_nil (w : World) :
    Calls Tryd.prog 35 #[.nilIface] w fun e w' => e = .returned (.tuple #[.int .i64 0, .int .i64 (-1)]) ∧ w' = w := by
  go_enter Tryd.func35, Tryd.ntmps35
  go_wp2_with (go_at_call 17; refine (tell_nil _).mono ?_; rintro e w' ⟨rfl, rfl⟩)
  refine wp_loop_rounds 1 ?_
  rw [rounds_succ]
  go_wp2
  go_ret2
  exact ⟨rfl, rfl⟩

set_option maxHeartbeats 1000000 in
theorem place_err (n : Int) (w : World) (hg : ErrLaid w) :
    Calls Tryd.prog 35 #[.iface 25 (.int .i64 n)] w fun e w' => e = .returned (.tuple #[.int .i64 n, .int .i64 (-1)]) ∧ Below w.heap.size w w' := by
  have a1 := Tryd.notAt
  have a2 := Tryd.noUnwrap
  go_enter Tryd.func35, Tryd.ntmps35
  go_wp2_with (go_at_call 17; refine (tell_err _ _ hg).mono ?_; rintro e w' ⟨rfl, hb⟩)
  refine wp_loop_rounds 1 ?_
  rw [rounds_succ]
  go_wp2
  go_ret2
  exact ⟨rfl, hb⟩

/-- no error, OK. -/
theorem bare_nil (w : World) :
    Calls Tryd.prog 12 #[.nilIface, .int .i64 0] w fun e w' => e = .returned (.bool true) ∧ w' = w := by
  go_enter Tryd.func12, Tryd.ntmps12
  go_wp2_with (go_at_call 35; refine (place_nil _).mono ?_; rintro e w' ⟨rfl, rfl⟩)
  go_ret
  exact ⟨rfl, rfl⟩

set_option maxHeartbeats 1000000 in
/-- an Errno, the same one. -/
theorem bare_err (n : Int) (w : World) (hg : ErrLaid w) :
    Calls Tryd.prog 12 #[.iface 25 (.int .i64 n), .int .i64 n] w fun e w' => e = .returned (.bool true) ∧ Below w.heap.size w w' := by
  go_enter Tryd.func12, Tryd.ntmps12
  go_wp2_with (go_at_call 35; refine (place_err _ _ hg).mono ?_; rintro e w' ⟨rfl, hb⟩)
  go_ret
  exact ⟨rfl, hb⟩
end Go.Proofs.YtapfkjdkpcgoiaaDoor
