/- Arrays of bools as functions of the index; whole arrays at the operations; only, inverse, noSlash. -/
import Derived.Test.YtcdoiadmnckccaaDoorGn
import Derived.Deep.WholeRow
import Derived.Deep.MidRow
import Derived.Deep.LoopGhost
import Derived.Deep.RegionHeld
namespace Go.Proofs.YtcdoiadmnckccaaDoor
set_option linter.unusedVariables false
set_option linter.unusedSimpArgs false
open Go.RowKit Go.Joins

/-- n bools: f 0, f 1, .. -/
def rowA (n : Nat) (f : Nat → Bool) : Array Value := ((List.range n).map fun i => Value.bool (f i)).toArray
theorem rowA_size (n : Nat) (f : Nat → Bool) : (rowA n f).size = n := by simp [rowA]
theorem rowA_get {n : Nat} {f : Nat → Bool} {i : Nat} (h : i < n) : (rowA n f)[i]? = some (.bool (f i)) := by simp [rowA, h]
theorem rowA_congr {n : Nat} {f g : Nat → Bool} (h : ∀ i, i < n → f i = g i) : rowA n f = rowA n g := by
  apply Array.ext_getElem?
  intro i
  by_cases hi : i < n
  · rw [rowA_get hi, rowA_get hi, h i hi]
  · rw [Array.getElem?_eq_none (by rw [rowA_size]; omega), Array.getElem?_eq_none (by rw [rowA_size]; omega)]
theorem rowA_set {n : Nat} {f : Nat → Bool} (i : Nat) (b : Bool) : (rowA n f).setIfInBounds i (.bool b) = rowA n (fun j => if j = i then b else f j) := by
  apply Array.ext_getElem?
  intro j
  rw [Array.getElem?_setIfInBounds]
  by_cases hj : j < n
  · rw [rowA_get hj, rowA_get hj]
    by_cases e : i = j
    · subst e; simp [rowA_size, hj]
    · rw [if_neg e]; simp only [show ¬ j = i from fun h => e h.symm, if_false]
  · have h1 : ∀ g, (rowA n g)[j]? = none := fun g => Array.getElem?_eq_none (by rw [rowA_size]; omega)
    rw [h1, h1]
    split
    · rename_i e; subst e; rw [if_neg (by rw [rowA_size]; omega)]
    · rfl
theorem rowA_one (n : Nat) (f : Nat → Bool) : (rowA n f).all (·.oneCell') = true := by
  rw [Array.all_eq_true_iff_forall_mem]
  intro v hv
  simp only [rowA, List.mem_toArray, List.mem_map] at hv
  obtain ⟨i, _, rfl⟩ := hv
  rfl
/-- A block that is a row of n bools. -/
def IsRow (w : World) (b : Nat) (t : TypeId) (n : Nat) (f : Nat → Bool) : Prop := w.heap[b]? = some (.cells (rowA n f) t (0, 0))
theorem IsRow.cell {w : World} {b : Nat} {t : TypeId} {n : Nat} {f : Nat → Bool} (h : IsRow w b t n f) {i : Nat} (hi : i < n) : w.cell? ⟨b, i, none⟩ = some (.bool (f i)) := by
  rw [cell_of_row w b i _ t (0, 0) h, rowA_get hi]
theorem IsRow.frozen {w : World} {b : Nat} {t : TypeId} {n : Nat} {f : Nat → Bool} (h : IsRow w b t n f) (i : Nat) : w.frozen? ⟨b, i, none⟩ = false := frozen_of_row w b i _ t h
theorem IsRow.lt {w : World} {b : Nat} {t : TypeId} {n : Nat} {f : Nat → Bool} (h : IsRow w b t n f) : b < w.heap.size := (Array.getElem?_eq_some_iff.1 h).1
theorem IsRow.congr {w : World} {b : Nat} {t : TypeId} {n : Nat} {f g : Nat → Bool} (h : IsRow w b t n f) (e : ∀ i, i < n → f i = g i) : IsRow w b t n g := by
  unfold IsRow at *; rw [h, rowA_congr e]
theorem IsRow.set {w : World} {b : Nat} {t : TypeId} {n : Nat} {f : Nat → Bool} (h : IsRow w b t n f) (i : Nat) (v : Bool) : IsRow (w.setCell ⟨b, i, none⟩ (.bool v)) b t n (fun j => if j = i then v else f j) := by
  unfold IsRow at *; rw [heap_setCell_same w b i _ t _ h, rowA_set]
theorem IsRow.setOther {w : World} {b : Nat} {t : TypeId} {n : Nat} {f : Nat → Bool} (h : IsRow w b t n f) {a : Addr} (e : b ≠ a.block) (v : Value) : IsRow (w.setCell a v) b t n f := by
  unfold IsRow at *; rw [heap_setCell_other w a b v e, h]
theorem IsRow.setRow {w : World} {b : Nat} {t : TypeId} {n : Nat} {f : Nat → Bool} (h : IsRow w b t n f) (g : Nat → Bool) : IsRow (w.setRow b (rowA n g)) b t n g := setRow_heap w b _ _ t _ h
theorem IsRow.setRowOther {w : World} {b : Nat} {t : TypeId} {n : Nat} {f : Nat → Bool} (h : IsRow w b t n f) {g : Nat} (e : b ≠ g) (cs : Array Value) : IsRow (w.setRow g cs) b t n f := by
  unfold IsRow at *; rw [setRow_other w g b cs e, h]
theorem IsRow.below {w w' : World} {b B : Nat} {t : TypeId} {n : Nat} {f : Nat → Bool} (h : IsRow w b t n f) (hb : Below B w w') (e : b < B) : IsRow w' b t n f := by
  unfold IsRow at *; rw [hb.block b e, h]
theorem IsRow.alloc {w : World} {b : Nat} {t : TypeId} {n : Nat} {f : Nat → Bool} (h : IsRow w b t n f) (o : Obj) : IsRow (w.alloc o) b t n f := by
  have hl := h.lt
  unfold IsRow at *; rw [Below.heap_alloc w o b hl, h]
theorem IsRow.new (w : World) (t : TypeId) (n : Nat) (f : Nat → Bool) : IsRow (w.alloc (.cells (rowA n f) t)) w.heap.size t n f := heap_alloc_new w _
theorem below_setRow {B : Nat} {a w : World} (h : Below B a w) {g : Nat} (hg : B ≤ g) (cs : Array Value) : Below B a (w.setRow g cs) :=
  h.trans ⟨rfl, rfl, rfl, by simp, fun k hk => setRow_other w g k cs (by omega)⟩

/-! ### At the operations -/
section
variable {P : Program} {ops : Array Oper} {rest : List Oper} {o : Oper} {a : Act} {w : World} {Q : Exit → Act → World → Prop}
/-- A new variable of a type whose zero value is a row: some world with that block more. -/
theorem wpList_alloc_row (hg : o.guard = none) (t : TypeId) (hop : o.op = .alloc t) (z : Array Value) (hz : (zeroValue t).run P w = .ok (.agg z) w)
    (h : wpList P ops Q rest (a.put o.dst (.pointer (some ⟨w.heap.size, 0, none⟩))) (w.alloc (.cells z t))) : wpList P ops Q (o :: rest) a w := by
  refine wpList_plain hg fun K hK => ?_
  unfold Oper.wp execOp
  simp only [hop, Instr.alloc, Sem.run_bind, hz, Result.andThen_ok, newVar, newRow, Value.cells]
  exact hK _ _ h
theorem wpList_box_row (hg : o.guard = none) (t : TypeId) (x : Operand) (hop : o.op = .box t x) (c : Array Value) (hx : a.eval x = .agg c)
    (h : wpList P ops Q rest (a.put o.dst (.pointer (some ⟨w.heap.size, 0, none⟩))) (w.alloc (.cells c t))) : wpList P ops Q (o :: rest) a w := by
  refine wpList_plain hg fun K hK => ?_
  unfold Oper.wp execOp
  simp only [hop, hx, Instr.box, newVar, newRow, Value.cells]
  exact hK _ _ h
end

theorem exec_load_row {P : Program} {o : Oper} {ρ : Operand → Value} {w : World} (t : TypeId) (x : Operand) (hop : o.op = .load t x) (b : Nat) (hx : ρ x = .pointer (some ⟨b, 0, none⟩)) {c : Array Value} {t' : TypeId} {fr : Nat × Nat} {d : TypeDesc}
    (hb : w.heap[b]? = some (.cells c t' fr)) (hu : P.underlying t = some d) (hd : (match d with | .struct _ | .array _ _ => true | _ => false) = true) (hi : (P.info? t).map (·.size) = some c.size) : (execOp ρ o).run P w = .ok (.value (.agg c)) w := by
  unfold execOp
  simp only [hop, hx, Instr.loadAt, Instr.sureAddr, Sem.run_bind, Sem.run_pure, Result.andThen_ok, run_loadVar_row w b t' t c fr d hb hu hd hi]

/-! ### In a region that draws its order -/
section
variable {P : Program} {ops : Array Oper} {Q : Exit → Act → World → Prop} {md : Region.Mode} {S : World → Prop}
theorem put_to {a : Act} {o : Option Tmp} {d : Nat} (h : o = some d) (v : Value) : a.put o v = ⟨a.tmps.setIfInBounds d v, a.defers⟩ := by subst h; rfl
theorem put_no {a : Act} {o : Option Tmp} (h : o = none) (v : Value) : a.put o v = a := by subst h; rfl
/-- As wpAnyH_take, the slot named. -/
theorem take_to {i : Nat} (d : Nat) (v : Value) {oi : Oper} {fuel : Nat} {listed : Array Bool} {a : Act} {w : World} (hi : ops[i]? = some oi) (hd : oi.dst = some d)
    (hs : Region.noSelect ops = true) (hf : Region.free md ops listed i = true) (hr : (Region.ready md ops listed).contains i = true)
    (hQ : ∀ c a w, Q (.panic c) (a.put oi.dst v) w → Q (.panic c) a w) (hy : YieldsIf P ops S oi v a) (hS : S w)
    (h : wpAnyH P md ops Q S fuel (listed.setIfInBounds i true) ⟨a.tmps.setIfInBounds d v, a.defers⟩ w) : wpAnyH P md ops Q S (fuel + 1) listed a w :=
  wpAnyH_take hi hs hf hr hQ hy hS (by rw [put_to hd]; exact h)
theorem store_row_no {o : Oper} {a : Act} {w : World} {K : Act → World → Prop} (hdst : o.dst = none) (ty : TypeId) (x y : Operand) (ho : o.op = .store ty x y)
    (g : Nat) (cells : Array Value) (hx : a.eval x = .pointer (some ⟨g, 0, none⟩)) (hy : a.eval y = .agg cells)
    (t : TypeId) (old : Array Value) (hg : w.heap[g]? = some (.cells old t (0, 0))) (hi : (P.info? ty).map (·.size) = some cells.size)
    (hold : old.size = cells.size) (h1 : cells.all (·.oneCell') = true) (h : K a (w.setRow g cells)) : o.wp P a w K Q :=
  wp_store_row ty x y ho g cells hx hy t old hg hi hold h1 (by rw [put_no hdst]; exact h)
end

theorem results_row3 {P : Program} {fn : Func} {p t u : Tmp} {ty : TypeId} (h : fn.results = #[.cell p ty, .tmp t, .tmp u]) (tmps : Array Value) (w : World) (g : Nat) (t' : TypeId) (cs : Array Value) (fr : Nat × Nat) (d : TypeDesc)
    (hp : tmps.getD p undef = .pointer (some ⟨g, 0, none⟩)) (hg : w.heap[g]? = some (.cells cs t' fr))
    (hu : P.underlying ty = some d) (hd : (match d with | .struct _ | .array _ _ => true | _ => false) = true) (hi : (P.info? ty).map (·.size) = some cs.size) :
    (results fn tmps).run P w = .ok (.tuple #[.agg cs, tmps.getD t undef, tmps.getD u undef]) w := by
  have hp' : tmps[p]?.getD undef = .pointer (some ⟨g, 0, none⟩) := by simpa using hp
  simp [results, h, hp', asAddr, run_loadVar_row w g t' ty cs fr d hg hu hd hi]

/-! ### The types of this program -/
theorem zeroSet (w : World) : (zeroValue 40).run Tryd.prog w = .ok (.agg (rowA 256 (fun _ => false))) w := by kernel_rfl
theorem infoSet : (Tryd.prog.info? 40).map (·.size) = some 256 := by kernel_rfl
/-- A set of bytes, as a value. -/
def setV (f : Nat → Bool) : Value := .agg (rowA 256 f)
theorem infoSet' (f : Nat → Bool) : (Tryd.prog.info? 40).map (·.size) = some (rowA 256 f).size := by rw [rowA_size]; exact infoSet
theorem builtSet0 : Tryd.prog.built 40 [] = some (rowA 256 (fun _ => false)) := by kernel_rfl
end Go.Proofs.YtcdoiadmnckccaaDoor
