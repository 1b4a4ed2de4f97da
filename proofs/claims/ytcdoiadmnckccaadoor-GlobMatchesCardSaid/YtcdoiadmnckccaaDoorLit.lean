/- Slices of pieces: a literal of one piece. -/
import Derived.Test.YtcdoiadmnckccaaDoorFsg
import Derived.OwnWalk
namespace Go.Proofs.YtcdoiadmnckccaaDoor
set_option linter.unusedVariables false
set_option linter.unusedSimpArgs false
open Go.RowKit Go.Joins
set_option maxRecDepth 100000

theorem infoPc3 : (Tryd.prog.info? 42).map (fun i => (i.zero, i.size, i.bytes)) = some (some (.agg (pcA noPc)), 257, 257) := by kernel_rfl
def pcCells (l : List Pc) : List Value := l.flatMap pcL
theorem pcCells_length : ∀ l : List Pc, (pcCells l).length = l.length * 257
  | [] => rfl
  | p :: l => by
    have := pcCells_length l
    simp only [pcCells, List.flatMap_cons, List.length_append, pcL_length, List.length_cons] at *
    omega
theorem pcCells_snoc (l : List Pc) (p : Pc) : pcCells (l ++ [p]) = pcCells l ++ pcL p := by simp [pcCells]
/-- A slice of these pieces, of the call's own. -/
def PcsAt (w : World) (n₀ : Nat) (v : Value) (l : List Pc) : Prop := w.ownsRow n₀ 42 257 v l.length (pcCells l)
theorem own_kept {w w' : World} {base : Nat} {e : TypeId} {size : Nat} {v : Value} {n : Nat} {xs : List Value} (h : w.ownsRow base e size v n xs) (hb : Below w.heap.size w w') : w'.ownsRow base e size v n xs := by
  obtain ⟨h1, h2⟩ := h
  refine ⟨h1, h2.imp id ?_⟩
  rintro ⟨g, cap, cur, hv, hg, hh, r⟩
  exact ⟨g, cap, cur, hv, hg, (hb.block g (Array.getElem?_eq_some_iff.1 hh).1).trans hh, r⟩

theorem below_grown {w W w1 : World} {v : Value} {base : Nat} {e : TypeId} {size n : Nat} {xs : List Value} (hB : Below w.heap.size w W) (hrow : W.ownsRow base e size v n xs) (hb : w.heap.size ≤ base) (hg : W.grownBy w1 v.ownBlock) : Below w.heap.size w w1 :=
  hB.grown hg hB.size fun j ej => by
    rcases hrow.2 with ⟨rfl, _⟩ | ⟨g, cap, cur, rfl, hbg, _, _⟩
    · simp [Value.ownBlock] at ej
    · obtain rfl : g = j := by simpa [Value.ownBlock] using ej
      omega
/-- A slice literal of one piece. -/
theorem run_lit_pc (p : Pc) (w : World) : (Instr.buildSlice 34 1 #[(0, .agg (pcA p))]).run Tryd.prog w = .ok (.slice (some ⟨w.heap.size, 0, none⟩) 1 1) (w.alloc (.cells (pcA p) 42)) := by
  have e : ((pcA p).zipIdx.foldl (fun cs (x : Value × Nat) => cs.setIfInBounds (0 + x.2) x.1) ((Array.range 257).map ((pcA noPc)[· % (pcA noPc).size]!))) = pcA p := by
    rw [fold_array]
    apply Array.ext_getElem?
    intro i
    rw [foldl_set]
    have hl : (pcA p).toList.length = 257 := pcL_length p
    rw [hl]
    by_cases h1 : i < 257
    · rw [if_pos (by simp; omega)]; simp
    · rw [if_neg (by omega), Array.getElem?_eq_none (by simp; omega), Array.getElem?_eq_none (by rw [pcA_size]; omega)]
  unfold Instr.buildSlice
  simp only [Sem.run_bind, run_underlying Tryd.underlying34, Result.andThen_ok, Tryd.sizeOf42, zeroPc, Value.cells]
  have hf : Instr.fill (fun i => some (i * 257, 257)) ((Array.range 257).map ((pcA noPc)[· % (pcA noPc).size]!)) [(0, .agg (pcA p))] = some (pcA p) := by
    rw [Instr.fill]
    simp only [Value.cells, pcA_size, Nat.zero_mul, Nat.one_mul]
    rw [if_neg (by simp)]
    have e2 := e
    rw [pcA_size] at e2
    rw [e2]; rfl
  simp only [Nat.reduceMul, Nat.reducePow, Nat.reduceLT, gt_iff_lt, if_false, Nat.reduceEqDiff]
  rw [Sem.run_bind, zeroPc]
  simp only [Result.andThen_ok, Sem.run_bind, Sem.run_pure]
  rw [hf]
  rfl
section
variable {ops : Array Oper} {rest : List Oper} {o : Oper} {a : Act} {w : World} {Q : Exit → Act → World → Prop}
theorem wpList_lit_pc (hg : o.guard = none) (x : Operand) (hop : o.op = .buildSlice 34 1 #[(0, x)]) (p : Pc) (hx : a.eval x = .agg (pcA p))
    (h : wpList Tryd.prog ops Q rest (a.put o.dst (.slice (some ⟨w.heap.size, 0, none⟩) 1 1)) (w.alloc (.cells (pcA p) 42))) : wpList Tryd.prog ops Q (o :: rest) a w := by
  refine wpList_plain hg fun K hK => ?_
  unfold Oper.wp execOp
  have e : (#[(0, x)].map fun (p : Nat × Operand) => (p.1, a.eval p.2)) = #[(0, .agg (pcA p))] := by simp [hx]
  have hr := run_lit_pc p w
  rw [← e] at hr
  simp only [hop, Sem.run_bind]
  rw [hr]
  exact hK _ _ h
end
/-- The cells of a new block. -/
theorem pc_cells {w : World} {b : Nat} {p : Pc} (h : IsPc w b p) : ∀ j u, (pcL p)[j]? = some u → w.cell? ((⟨b, 0, none⟩ : Addr).add j) = some u := fun j u hu => by
  rw [Addr.add_mid, Nat.zero_add, cell_of_row w b j _ _ (0, 0) h]
  simpa [pcA] using hu

end Go.Proofs.YtcdoiadmnckccaaDoor
