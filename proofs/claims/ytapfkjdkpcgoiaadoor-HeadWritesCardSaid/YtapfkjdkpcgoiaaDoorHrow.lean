/- A header as a row of bytes: put into, one byte set, turned to a text; the tables of fields. -/
import Derived.Test.YtapfkjdkpcgoiaaDoorTn
import Derived.Test.YtapfkjdkpcgoiaaDoorHdp
import Derived.Lib.BufferWrite
import Derived.Lib.SlBuf
namespace Go.Proofs.YtapfkjdkpcgoiaaDoor
open Go.RowKit Go.Joins Go.Lib
set_option linter.unusedVariables false
set_option linter.unusedSimpArgs false

theorem byteCells_append (a b : List UInt8) : byteCells (a ++ b) = byteCells a ++ byteCells b := by unfold byteCells; rw [List.map_append]
theorem byteCells_take (a : List UInt8) (k : Nat) : (byteCells a).take k = byteCells (a.take k) := by unfold byteCells; rw [List.map_take]
theorem byteCells_drop (a : List UInt8) (k : Nat) : (byteCells a).drop k = byteCells (a.drop k) := by unfold byteCells; rw [List.map_drop]
/-- A block that holds these bytes. -/
def RowIs (W : World) (B : Nat) (t : TypeId) (F : List UInt8) : Prop := W.heap[B]? = some (.cells (byteCells F).toArray t (0, 0))
theorem RowIs.lt {W : World} {B : Nat} {t : TypeId} {F : List UInt8} (h : RowIs W B t F) : B < W.heap.size := (Array.getElem?_eq_some_iff.1 h).1
theorem RowIs.below {W W' : World} {B : Nat} {t : TypeId} {F : List UInt8} (h : RowIs W B t F) (hb : Below W.heap.size W W') : RowIs W' B t F :=
  (hb.block B (Array.getElem?_eq_some_iff.1 h).1).trans h
theorem rowIs_set {w : World} {g : Nat} {t : TypeId} {F F' : List UInt8} (h : RowIs w g t F) : RowIs (w.setRow g (byteCells F').toArray) g t F' := by
  unfold RowIs at h ⊢
  exact setRow_heap w g _ _ t (0, 0) h
theorem rowIs_new (w : World) (t : TypeId) : RowIs (w.alloc (.cells (Array.replicate 512 (.int .u8 0)) t)) w.heap.size t (List.replicate 512 0) := by
  unfold RowIs
  rw [heap_alloc_new w _, show (Array.replicate 512 (Value.int .u8 0)) = (byteCells (List.replicate 512 0)).toArray by
    apply Array.toList_inj.1
    unfold byteCells
    rw [Array.toList_replicate, List.map_replicate]
    rfl]
theorem RawAt.setRow {w : World} {b g : Nat} {r : RawL} (h : RawAt w b r) (hne : b ≠ g) (cs : Array Value) : RawAt (w.setRow g cs) b r := by
  unfold RawAt at h ⊢
  simp only [cell_setRow_other w g cs ⟨b, _, none⟩ hne]
  exact h
/-- 'copy(dst, s)', s a text that is not longer than dst. -/
theorem run_copy_put {P : Program} (w : World) (dT sT ty elem : TypeId) (g o dLen dCap : Nat) (D F : List UInt8) (t : TypeId)
    (hu : P.underlying dT = some (.slice elem)) (hs : (P.info? elem).map (·.size) = some 1) (hg : RowIs w g t F) (hle : D.length ≤ dLen) (hfit : o + D.length ≤ F.length) :
    (Builtin.copy_ #[dT, sT] ty #[.slice (some ⟨g, o, none⟩) dLen dCap, .string (mkS D)]).run P w =
      .ok (.int .i64 (D.length : Int)) (w.setRow g (byteCells (putAt F o D)).toArray) := by
  have hsz := mkS_size D
  have h := run_copy_row_string (P := P) w dT sT ty elem g o dLen dCap (mkS D) (byteCells F).toArray t hu hs hg (by omega) (by rw [List.size_toArray, byteCells_length]; omega)
  rw [h, hsz, mkS_list]
  have e1 : ((byteCells F).toArray.toList.take o ++ byteCells D ++ (byteCells F).toArray.toList.drop (o + D.length)).toArray = (byteCells (putAt F o D)).toArray := by
    unfold putAt
    rw [byteCells_append, byteCells_append, ← byteCells_take F o, ← byteCells_drop, List.append_assoc]
  rw [e1]
  rfl
/-- One byte set. -/
theorem rowIs_cell {w : World} {g i : Nat} {t : TypeId} {F : List UInt8} (h : RowIs w g t F) (c : UInt8) : w.setCell ⟨g, i, none⟩ (.int .u8 (c.toNat : Int)) = w.setRow g (byteCells (F.set i c)).toArray := by
  rw [setCell_eq_setRow w g i _ t _ _ h]
  congr 1
  unfold byteCells
  rw [List.setIfInBounds_toArray, List.map_set]
/-- The whole row, as a text. -/
theorem rowIs_conv {w : World} {b : Nat} {t : TypeId} {F : List UInt8} (h : RowIs w b t F) (n cap : Nat) (hn : F.length = n) : (convert 42 9 (.slice (some ⟨b, 0, none⟩) n cap)).run Tryd.prog w = .ok (.string (mkS F)) w := by
  have := run_convert_bytes_arg (P := Tryd.prog) w 42 5 Tryd.underlying42 Tryd.underlying5 b 0 n cap (F.map fun c => (c.toNat : Int)) (by rw [List.length_map]; exact hn) (fun i hi => by
    rw [show 0 + i = i by omega, cell_of_row w b i _ t (0, 0) h]
    unfold byteCells
    rw [List.getElem?_toArray, List.getElem?_map, List.getD_eq_getElem?_getD, List.getElem?_map]
    rw [List.getElem?_eq_getElem (by omega)]; rfl) 9 Tryd.underlying9
  rw [this]
  have e : strOfNums (F.map fun c => (c.toNat : Int)) = mkS F := by
    rw [← mkS_self (strOfNums _), strOfNums_data, List.map_map]
    have hid : ((fun n : Int => UInt8.ofNat n.toNat) ∘ fun c : UInt8 => (c.toNat : Int)) = id := by
      funext c
      simp only [Function.comp, Int.toNat_natCast, id, UInt8.ofNat_toNat]
    rw [hid, List.map_id]
  rw [e]

/-! ### The tables of fields -/
theorem five {p : Nat → Prop} (h0 : p 0) (h1 : p 1) (h2 : p 2) (h3 : p 3) (h4 : p 4) : ∀ k, k < 5 → p k := by
  intro k hk
  obtain rfl | rfl | rfl | rfl | rfl : k = 0 ∨ k = 1 ∨ k = 2 ∨ k = 3 ∨ k = 4 := by omega
  all_goals assumption
theorem seven {p : Nat → Prop} (h0 : p 0) (h1 : p 1) (h2 : p 2) (h3 : p 3) (h4 : p 4) (h5 : p 5) (h6 : p 6) : ∀ k, k < 7 → p k := by
  intro k hk
  obtain rfl | rfl | rfl | rfl | rfl | rfl | rfl : k = 0 ∨ k = 1 ∨ k = 2 ∨ k = 3 ∨ k = 4 ∨ k = 5 ∨ k = 6 := by omega
  all_goals assumption
theorem txt_index (b : Nat) (W : World) : ∀ k : Nat, k < 5 → (Instr.index 62 (.agg (txtRow b)) (.int .i64 (k : Int))).run Tryd.prog W = .ok (.agg #[.pointer (some ⟨b, k, none⟩), .int .i64 (tAt k), .int .i64 (tSz k)]) W :=
  five (by kernel_rfl) (by kernel_rfl) (by kernel_rfl) (by kernel_rfl) (by kernel_rfl)
theorem tFit : ∀ k, k < 5 → tAt k + tSz k ≤ 512 := five (by decide) (by decide) (by decide) (by decide) (by decide)
theorem tMin : ∀ k, k < 5 → 8 ≤ tSz k := five (by decide) (by decide) (by decide) (by decide) (by decide)
theorem nFit : ∀ k, k < 7 → nAt k + nSz k ≤ 512 := seven (by decide) (by decide) (by decide) (by decide) (by decide) (by decide) (by decide)
theorem nSz_is : ∀ k, k < 7 → nSz k = 8 ∨ nSz k = 12 := seven (by decide) (by decide) (by decide) (by decide) (by decide) (by decide) (by decide)
theorem RawAt.txt {w : World} {b : Nat} {r : RawL} (h : RawAt w b r) : ∀ k, k < 5 → w.cell? ⟨b, k, none⟩ = some (.string (mkS (tVal r k))) := by
  obtain ⟨c0, c1, c2, c3, c4, _⟩ := h
  exact five c0 c1 c2 c3 c4
theorem RawAt.num {w : World} {b : Nat} {r : RawL} (h : RawAt w b r) : ∀ k, k < 7 → w.cell? ⟨b, 6 + k, none⟩ = some (.int .i64 (nVal r k)) := by
  obtain ⟨_, _, _, _, _, _, c0, c1, c2, c3, c4, c5, c6⟩ := h
  exact seven c0 c1 c2 c3 c4 c5 c6
theorem num_cells {W : World} {nb b : Nat} {t : TypeId} (h : W.heap[nb]? = some (.cells (numRow b) t (0, 0))) : ∀ k, k < 7 →
    W.cell? ⟨nb, k * 3, none⟩ = some (.pointer (some ⟨b, 6 + k, none⟩)) ∧ W.cell? ⟨nb, k * 3 + 1, none⟩ = some (.int .i64 (nAt k)) ∧ W.cell? ⟨nb, k * 3 + 2, none⟩ = some (.int .i64 (nSz k)) := by
  have g : ∀ i, W.cell? ⟨nb, i, none⟩ = (numRow b)[i]? := fun i => by simp only [World.cell?, h]; rfl
  refine seven ?_ ?_ ?_ ?_ ?_ ?_ ?_ <;> refine ⟨?_, ?_, ?_⟩ <;> (rw [g]; rfl)
theorem tVal_le {r : RawL} {n : Nat} (h : r.name.length ≤ n ∧ r.link.length ≤ n ∧ r.user.length ≤ n ∧ r.group.length ≤ n ∧ r.front.length ≤ n) : ∀ k, k < 5 → (tVal r k).length ≤ n := by
  obtain ⟨h0, h1, h2, h3, h4⟩ := h
  exact five h0 h1 h2 h3 h4
theorem nVal_i64 {r : RawL} (h : intsL r) : ∀ k, k < 7 → i64 (nVal r k) := by
  obtain ⟨h0, h1, h2, h3, h4, h5, h6⟩ := h
  exact seven h0 h1 h2 h3 h4 h5 h6
theorem txts_all {r : RawL} : txtsOk r = true ↔ ∀ k, k < 5 → txtOk (tVal r k) (tSz k) = true := by
  unfold txtsOk
  simp only [Bool.and_eq_true]
  constructor
  · rintro ⟨h0, h1, h2, h3, h4⟩
    exact five h0 h1 h2 h3 h4
  · intro h
    exact ⟨h 0 (by omega), h 1 (by omega), h 2 (by omega), h 3 (by omega), h 4 (by omega)⟩
theorem nums_all {d : Nat} {r : RawL} : numsOk d r = true ↔ ∀ k, k < nMany d → numOk (nVal r k) (nSz k) (d == 3) = true := by
  unfold numsOk nMany
  simp only [Bool.and_eq_true, Bool.or_eq_true, decide_eq_true_iff]
  constructor
  · rintro ⟨h0, h1, h2, h3, h4, h5⟩
    by_cases hd : d = 1
    · rw [if_pos hd]
      exact five h0 h1 h2 h3 h4
    · rw [if_neg hd]
      obtain ⟨h5, h6⟩ := h5.resolve_left hd
      exact seven h0 h1 h2 h3 h4 h5 h6
  · intro h
    have h5 : 5 ≤ if d = 1 then 5 else 7 := by split <;> omega
    refine ⟨h 0 (by omega), h 1 (by omega), h 2 (by omega), h 3 (by omega), h 4 (by omega), ?_⟩
    by_cases hd : d = 1
    · exact Or.inl hd
    · rw [if_neg hd] at h
      exact Or.inr ⟨h 5 (by omega), h 6 (by omega)⟩
theorem hdrT_length {r : RawL} (h : ∀ k, k < 5 → txtOk (tVal r k) (tSz k) = true) : ∀ k, k ≤ 5 → (hdrT r k).length = 512
  | 0, _ => List.length_replicate
  | k + 1, hk => by
    have ih := hdrT_length h k (by omega)
    have h1 := (txtOk_iff.1 (h k (by omega))).1
    have h2 := tFit k (by omega)
    rw [hdrT, putAt_length (by omega), ih]
end Go.Proofs.YtapfkjdkpcgoiaaDoor
