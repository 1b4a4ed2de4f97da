/- A header's fields as the cells of a block. -/
import Derived.Test.YtapfkjdkpcgoiaaDoorReq
import Derived.Lib.QuietBelow
import Derived.BigQuiet
namespace Go.Proofs.YtapfkjdkpcgoiaaDoor
open Go.RowKit Go.Joins
set_option linter.unusedVariables false
set_option linter.unusedSimpArgs false

/-- a header's fields as the cells of a block. -/
def RawAt (w : World) (b : Nat) (r : RawL) : Prop := w.cell? ⟨b, 0, none⟩ = some (.string (mkS r.name)) ∧ w.cell? ⟨b, 1, none⟩ = some (.string (mkS r.link)) ∧ w.cell? ⟨b, 2, none⟩ = some (.string (mkS r.user)) ∧ w.cell? ⟨b, 3, none⟩ = some (.string (mkS r.group)) ∧ w.cell? ⟨b, 4, none⟩ = some (.string (mkS r.front)) ∧ w.cell? ⟨b, 5, none⟩ = some (.int .u8 (r.kind.toNat : Int)) ∧ w.cell? ⟨b, 6, none⟩ = some (.int .i64 r.mode) ∧ w.cell? ⟨b, 7, none⟩ = some (.int .i64 r.uid) ∧ w.cell? ⟨b, 8, none⟩ = some (.int .i64 r.gid) ∧ w.cell? ⟨b, 9, none⟩ = some (.int .i64 r.size) ∧ w.cell? ⟨b, 10, none⟩ = some (.int .i64 r.time) ∧ w.cell? ⟨b, 11, none⟩ = some (.int .i64 r.major) ∧ w.cell? ⟨b, 12, none⟩ = some (.int .i64 r.minor)
theorem RawAt.lt {w : World} {b : Nat} {r : RawL} (h : RawAt w b r) : b < w.heap.size := block_lt_of_cell h.1
theorem RawAt.below {w w' : World} {b B : Nat} {r : RawL} (h : RawAt w b r) (hb : Below B w w') (hB : b < B) : RawAt w' b r := by
  unfold RawAt at h ⊢
  simp only [hb.cell (p := ⟨b, _, none⟩) hB]
  exact h
theorem RawAt.of_row {w : World} {b : Nat} {r : RawL} {t : TypeId} {fr : Nat × Nat} (h : w.heap[b]? = some (.cells #[.string (mkS r.name), .string (mkS r.link), .string (mkS r.user), .string (mkS r.group), .string (mkS r.front), .int .u8 (r.kind.toNat : Int), .int .i64 r.mode, .int .i64 r.uid, .int .i64 r.gid, .int .i64 r.size, .int .i64 r.time, .int .i64 r.major, .int .i64 r.minor] t fr)) : RawAt w b r := by
  unfold RawAt
  refine ⟨?_, ?_, ?_, ?_, ?_, ?_, ?_, ?_, ?_, ?_, ?_, ?_, ?_⟩ <;> (simp only [World.cell?, h]; rfl)
theorem RawAt.new (w : World) (r : RawL) (t : TypeId) : RawAt (w.alloc (.cells #[.string (mkS r.name), .string (mkS r.link), .string (mkS r.user), .string (mkS r.group), .string (mkS r.front), .int .u8 (r.kind.toNat : Int), .int .i64 r.mode, .int .i64 r.uid, .int .i64 r.gid, .int .i64 r.size, .int .i64 r.time, .int .i64 r.major, .int .i64 r.minor] t)) w.heap.size r := RawAt.of_row (heap_alloc_new w _)
theorem RawAt.regrown {w : World} {b : Nat} {r : RawL} (h : RawAt w b r) (d : Nat) (os : Array Obj) : RawAt (Sort.grow (redrawn w d) os) b r := h.below (below_regrown w d os) h.lt
end Go.Proofs.YtapfkjdkpcgoiaaDoor
