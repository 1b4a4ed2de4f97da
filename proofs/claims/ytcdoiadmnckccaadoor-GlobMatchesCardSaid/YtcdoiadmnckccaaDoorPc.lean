/- A piece as a value: a row of 257 cells. -/
import Derived.Test.YtcdoiadmnckccaaDoorAr
namespace Go.Proofs.YtcdoiadmnckccaaDoor
set_option linter.unusedVariables false
set_option linter.unusedSimpArgs false
open Go.RowKit Go.Joins

theorem foldl_set : ∀ (l : List Value) (k off : Nat) (cells : Array Value) (i : Nat),
    ((l.zipIdx k).foldl (fun cs (p : Value × Nat) => cs.setIfInBounds (off + p.2) p.1) cells)[i]? = if off + k ≤ i ∧ i < off + k + l.length ∧ i < cells.size then l[i - (off + k)]? else cells[i]?
  | [], k, off, cells, i => by simp; omega
  | c :: l, k, off, cells, i => by
    rw [List.zipIdx_cons, List.foldl_cons, foldl_set l (k + 1) off _ i]
    simp only [Array.size_setIfInBounds, List.length_cons, Array.getElem?_setIfInBounds]
    by_cases h1 : off + k = i
    · subst h1
      rw [if_neg (by omega)]
      by_cases h2 : off + k < cells.size
      · simp [h2]
      · simp [h2]
    · by_cases h2 : off + (k + 1) ≤ i ∧ i < off + (k + 1) + l.length ∧ i < cells.size
      · rw [if_pos h2, if_pos (by omega), show i - (off + k) = (i - (off + (k + 1))) + 1 by omega, List.getElem?_cons_succ]
      · rw [if_neg h2, if_neg h1, if_neg (by omega)]
/-- The cells of a piece. -/
def pcL (p : Pc) : List Value := ((List.range 256).map fun i => Value.bool (p.t i)) ++ [.bool p.m]
def pcA (p : Pc) : Array Value := (pcL p).toArray
theorem pcL_length (p : Pc) : (pcL p).length = 257 := by simp [pcL]
theorem pcA_size (p : Pc) : (pcA p).size = 257 := by simp [pcA, pcL_length]
theorem pcA_get {p : Pc} {i : Nat} (h : i < 256) : (pcA p)[i]? = some (.bool (p.t i)) := by
  simp only [pcA, List.getElem?_toArray, pcL]
  rw [List.getElem?_append_left (by simpa using h)]
  simp [h]
theorem pcA_last (p : Pc) : (pcA p)[256]? = some (.bool p.m) := by
  simp only [pcA, List.getElem?_toArray, pcL]
  rw [List.getElem?_append_right (by simp)]
  simp
theorem pcL_one (p : Pc) : ∀ v ∈ pcL p, v.oneCell' = true := by
  intro v hv
  simp only [pcL, List.mem_append, List.mem_map, List.mem_singleton] at hv
  rcases hv with ⟨i, _, rfl⟩ | rfl <;> rfl
theorem pcA_one (p : Pc) : (pcA p).all (·.oneCell') = true := all_oneCell_toArray (pcL_one p)
theorem pcA_ext {p q : Pc} (h : ∀ i, i < 256 → p.t i = q.t i) (hm : p.m = q.m) : pcA p = pcA q := by
  apply Array.ext_getElem?
  intro i
  by_cases h1 : i < 256
  · rw [pcA_get h1, pcA_get h1, h i h1]
  · by_cases h2 : i = 256
    · subst h2; rw [pcA_last, pcA_last, hm]
    · rw [Array.getElem?_eq_none (by rw [pcA_size]; omega), Array.getElem?_eq_none (by rw [pcA_size]; omega)]
/-- A piece, as a value. -/
def pcV (p : Pc) : Value := .agg (pcA p)
def noPc : Pc := ⟨fun _ => false, false⟩
theorem zeroPc (w : World) : (zeroValue 42).run Tryd.prog w = .ok (.agg (pcA noPc)) w := by kernel_rfl
theorem infoPc (p : Pc) : (Tryd.prog.info? 42).map (·.size) = some (pcA p).size := by rw [pcA_size]; kernel_rfl
theorem built_fill (parts : List (Nat × Value)) : Tryd.prog.built 42 parts = Instr.fill ([(0, 256), (256, 1)].toArray[·]?) (pcA noPc) parts := by kernel_rfl
theorem fill_nil (place : Nat → Option (Nat × Nat)) (cells : Array Value) : Instr.fill place cells [] = some cells := rfl
theorem fold_array (v : Array Value) (off : Nat) (cells : Array Value) : v.zipIdx.foldl (fun cs (x : Value × Nat) => cs.setIfInBounds (off + x.2) x.1) cells = (v.toList.zipIdx 0).foldl (fun cs (p : Value × Nat) => cs.setIfInBounds (off + p.2) p.1) cells := by
  rw [← Array.foldl_toList, Array.toList_zipIdx]
theorem fill_set (q : Pc) (f : Nat → Bool) (rest : List (Nat × Value)) :
    Instr.fill ([(0, 256), (256, 1)].toArray[·]?) (pcA q) ((0, .agg (rowA 256 f)) :: rest) = Instr.fill ([(0, 256), (256, 1)].toArray[·]?) (pcA ⟨f, q.m⟩) rest := by
  have h0 : (([(0, 256), (256, 1)] : List (Nat × Nat)).toArray[0]?) = some (0, 256) := rfl
  have hs := rowA_size 256 f
  have e : ((rowA 256 f).zipIdx.foldl (fun cs (x : Value × Nat) => cs.setIfInBounds (0 + x.2) x.1) (pcA q)) = pcA ⟨f, q.m⟩ := by
    rw [fold_array]
    apply Array.ext_getElem?
    intro i
    rw [foldl_set]
    have hl : (rowA 256 f).toList.length = 256 := by simpa using hs
    rw [hl, pcA_size]
    by_cases h1 : i < 256
    · rw [if_pos (by omega), pcA_get h1]
      have := rowA_get (f := f) h1
      simpa using this
    · rw [if_neg (by omega)]
      by_cases h2 : i = 256
      · subst h2; rw [pcA_last, pcA_last]
      · rw [Array.getElem?_eq_none (by rw [pcA_size]; omega), Array.getElem?_eq_none (by rw [pcA_size]; omega)]
  rw [Instr.fill]
  simp only [h0, Value.cells, hs, pcA_size]
  rw [if_neg (by simp)]
  rw [← e]
theorem fill_many (q : Pc) (b : Bool) (rest : List (Nat × Value)) :
    Instr.fill ([(0, 256), (256, 1)].toArray[·]?) (pcA q) ((1, .bool b) :: rest) = Instr.fill ([(0, 256), (256, 1)].toArray[·]?) (pcA ⟨q.t, b⟩) rest := by
  have h0 : (([(0, 256), (256, 1)] : List (Nat × Nat)).toArray[1]?) = some (256, 1) := rfl
  have e : (pcA q).setIfInBounds 256 (.bool b) = pcA ⟨q.t, b⟩ := by
    apply Array.ext_getElem?
    intro i
    rw [Array.getElem?_setIfInBounds]
    by_cases h1 : i < 256
    · rw [if_neg (by omega), pcA_get h1, pcA_get h1]
    · by_cases h2 : i = 256
      · subst h2; rw [if_pos rfl, if_pos (by rw [pcA_size]; omega), pcA_last]
      · rw [if_neg (by omega), Array.getElem?_eq_none (by rw [pcA_size]; omega), Array.getElem?_eq_none (by rw [pcA_size]; omega)]
  rw [Instr.fill]
  simp only [h0, Value.cells, pcA_size]
  rw [← e]
  simp
theorem built_one (f : Nat → Bool) : Tryd.prog.built 42 [(0, .agg (rowA 256 f))] = some (pcA ⟨f, false⟩) := by
  rw [built_fill, fill_set]; rfl
theorem built_many (f : Nat → Bool) : Tryd.prog.built 42 [(0, .agg (rowA 256 f)), (1, .bool true)] = some (pcA ⟨f, true⟩) := by
  rw [built_fill, fill_set, fill_many]; rfl
section
variable {P : Program} {ops : Array Oper} {rest : List Oper} {o : Oper} {a : Act} {w : World} {Q : Exit → Act → World → Prop}
theorem wpList_build_row (hg : o.guard = none) (t : TypeId) (parts : Array (Nat × Operand)) (hop : o.op = .build t parts) (c : Array Value) (hc : P.built t (parts.map fun (i, x) => (i, a.eval x)).toList = some c)
    (h : wpList P ops Q rest (a.put o.dst (.agg c)) w) : wpList P ops Q (o :: rest) a w := wpList_build hg t parts hop (by rw [hc]; rfl) (by rw [hc]; exact h)
theorem wpList_build1 (hg : o.guard = none) (t : TypeId) (x : Operand) (hop : o.op = .build t #[(0, x)]) (u : Value) (hx : a.eval x = u) (c : Array Value) (hc : P.built t [(0, u)] = some c)
    (h : wpList P ops Q rest (a.put o.dst (.agg c)) w) : wpList P ops Q (o :: rest) a w := wpList_build_row hg t _ hop c (by simpa [hx] using hc) h
theorem wpList_build2 (hg : o.guard = none) (t : TypeId) (x y : Operand) (hop : o.op = .build t #[(0, x), (1, y)]) (u v : Value) (hx : a.eval x = u) (hy : a.eval y = v) (c : Array Value) (hc : P.built t [(0, u), (1, v)] = some c)
    (h : wpList P ops Q rest (a.put o.dst (.agg c)) w) : wpList P ops Q (o :: rest) a w := wpList_build_row hg t _ hop c (by simpa [hx, hy] using hc) h
end
/-- A block that holds a piece. -/
def IsPc (w : World) (b : Nat) (p : Pc) : Prop := w.heap[b]? = some (.cells (pcA p) 42 (0, 0))
theorem IsPc.lt {w : World} {b : Nat} {p : Pc} (h : IsPc w b p) : b < w.heap.size := (Array.getElem?_eq_some_iff.1 h).1
theorem IsPc.cell {w : World} {b : Nat} {p : Pc} (h : IsPc w b p) {i : Nat} (hi : i < 256) : w.cell? ⟨b, i, none⟩ = some (.bool (p.t i)) := by
  rw [cell_of_row w b i _ _ (0, 0) h, pcA_get hi]
theorem IsPc.last {w : World} {b : Nat} {p : Pc} (h : IsPc w b p) : w.cell? ⟨b, 256, none⟩ = some (.bool p.m) := by
  rw [cell_of_row w b 256 _ _ (0, 0) h, pcA_last]
theorem IsPc.below {w w' : World} {b B : Nat} {p : Pc} (h : IsPc w b p) (hb : Below B w w') (e : b < B) : IsPc w' b p := by
  unfold IsPc at *; rw [hb.block b e, h]
theorem IsPc.new (w : World) (p : Pc) : IsPc (w.alloc (.cells (pcA p) 42)) w.heap.size p := heap_alloc_new w _
theorem IsPc.alloc {w : World} {b : Nat} {p : Pc} (h : IsPc w b p) (o : Obj) : IsPc (w.alloc o) b p := by
  have hl := h.lt
  unfold IsPc at *; rw [Below.heap_alloc w o b hl, h]
theorem IsPc.setOther {w : World} {b : Nat} {p : Pc} (h : IsPc w b p) {a : Addr} (e : b ≠ a.block) (v : Value) : IsPc (w.setCell a v) b p := by
  unfold IsPc at *; rw [heap_setCell_other w a b v e, h]
theorem IsPc.setRowOther {w : World} {b : Nat} {p : Pc} (h : IsPc w b p) {g : Nat} (e : b ≠ g) (cs : Array Value) : IsPc (w.setRow g cs) b p := by
  unfold IsPc at *; rw [setRow_other w g b cs e, h]
theorem IsPc.setRow {w : World} {b : Nat} {p : Pc} (h : IsPc w b p) (q : Pc) : IsPc (w.setRow b (pcA q)) b q := setRow_heap w b _ _ _ _ h
end Go.Proofs.YtcdoiadmnckccaaDoor
