/- The reference's two maps of letters: made entry by entry, and looked up. -/
import Derived.Test.YtalafhfpmkacgaaDoorMm
import Derived.RangeFuncRecord
import Derived.MapKept
namespace Go.Proofs.YtalafhfpmkacgaaDoor
open Go.RowKit
set_option linter.unusedVariables false

theorem map_there (W : World) (es : Array MapEntry) (c : Nat) : (W.alloc (.map es c)).heap[W.heap.size]? = some (.map es c) := World.alloc_heap_new W _
theorem put_alloc (W : World) (o o' : Obj) : (W.alloc o).putObj W.heap.size o' = W.alloc o' := by
  show ({ W with heap := (W.heap.push o).setIfInBounds W.heap.size o' } : World) = { W with heap := W.heap.push o' }
  congr 1
  apply Array.ext
  · simp
  · intro i h1 h2
    by_cases e : i = W.heap.size
    · subst e; simp
    · simp at h1 h2
      rw [Array.getElem_setIfInBounds_ne (by simp; omega) (by omega)]
      rw [Array.getElem_push_lt (by omega), Array.getElem_push_lt (by omega)]
theorem getObj_map {w : World} {r : Nat} {es : Array MapEntry} {c : Nat} (h : w.heap[r]? = some (.map es c)) : (getObj r).run Tryd.prog w = .ok (.map es c) w := by simp [getObj, Sem.run, h]
theorem setObj_map {w : World} {r : Nat} {es : Array MapEntry} {c : Nat} (o : Obj) (h : w.heap[r]? = some (.map es c)) : (setObj r o).run Tryd.prog w = .ok () (w.putObj r o) := by simp [setObj, Sem.run, h, World.putObj]
theorem checkKey_u8 (b : Bool) (k : Int) (w : World) : (Instr.checkKey b 10000 5 (.int .u8 k)).run Tryd.prog w = .ok () w := by
  rw [show (10000 : Nat) = 9999 + 1 from rfl, Instr.checkKey]
  simp [underlying, Tryd.underlying5]
theorem findKey_u8 (k : Int) (es : List MapEntry) (r : Option (Nat × Value)) (w : World) (h : Instr.findNow (.int .u8) (.int .u8 k) es 0 = some r) : (Instr.findKey 5 (.int .u8 k) es).run Tryd.prog w = .ok r w := by
  simp [Instr.findKey, underlying, Tryd.underlying5, h]
theorem run_ins (W : World) (es : Array MapEntry) (c : Nat) (k : Int) (v : Value) (h : Instr.findNow (.int .u8) (.int .u8 k) es.toList 0 = some none) :
    (Instr.mapUpdate 51 (.map (some W.heap.size)) (.int .u8 k) v).run Tryd.prog (W.alloc (.map es c)) = .ok () (W.alloc (.map (es.push { key := .int .u8 k, val := v, born := c }) (c + 1))) := by
  rw [← put_alloc W (.map es c) (.map (es.push { key := .int .u8 k, val := v, born := c }) (c + 1))]
  have hm := map_there W es c
  generalize W.alloc (.map es c) = w at *
  generalize W.heap.size = r at *
  unfold Instr.mapUpdate
  simp only [Sem.run_bind, run_underlying Tryd.underlying51, Result.andThen, getObj_map hm, checkKey_u8, findKey_u8 k es.toList none _ h, setObj_map _ hm]
theorem run_look (W : World) (es : Array MapEntry) (c : Nat) (k : Int) (i : Nat) (v : Value) (h : Instr.findNow (.int .u8) (.int .u8 k) es.toList 0 = some (some (i, v))) :
    (Instr.lookup 51 (.map (some W.heap.size)) (.int .u8 k) false).run Tryd.prog (W.alloc (.map es c)) = .ok v (W.alloc (.map es c)) := by
  have hm := map_there W es c
  generalize W.alloc (.map es c) = w at *
  generalize W.heap.size = r at *
  unfold Instr.lookup
  simp only [Sem.run_bind, Sem.run_pure, run_underlying Tryd.underlying51, Result.andThen, getObj_map hm, checkKey_u8, findKey_u8 k es.toList _ _ h, Bool.false_eq_true, if_false]
def eW1 : Array MapEntry := #[⟨.int .u8 117, .int .i64 2496, 0⟩]
def eW2 : Array MapEntry := #[⟨.int .u8 117, .int .i64 2496, 0⟩, ⟨.int .u8 103, .int .i64 1080, 1⟩]
def eW3 : Array MapEntry := #[⟨.int .u8 117, .int .i64 2496, 0⟩, ⟨.int .u8 103, .int .i64 1080, 1⟩, ⟨.int .u8 111, .int .i64 519, 2⟩]
def eW4 : Array MapEntry := #[⟨.int .u8 117, .int .i64 2496, 0⟩, ⟨.int .u8 103, .int .i64 1080, 1⟩, ⟨.int .u8 111, .int .i64 519, 2⟩, ⟨.int .u8 97, .int .i64 4095, 3⟩]
theorem insW1 (W : World) : (Instr.mapUpdate 51 (.map (some W.heap.size)) (.int .u8 117) (.int .i64 2496)).run Tryd.prog (W.alloc (.map #[] 0)) = .ok () (W.alloc (.map eW1 1)) := run_ins W #[] 0 117 _ rfl
theorem insW2 (W : World) : (Instr.mapUpdate 51 (.map (some W.heap.size)) (.int .u8 103) (.int .i64 1080)).run Tryd.prog (W.alloc (.map eW1 1)) = .ok () (W.alloc (.map eW2 2)) := run_ins W eW1 1 103 _ rfl
theorem insW3 (W : World) : (Instr.mapUpdate 51 (.map (some W.heap.size)) (.int .u8 111) (.int .i64 519)).run Tryd.prog (W.alloc (.map eW2 2)) = .ok () (W.alloc (.map eW3 3)) := run_ins W eW2 2 111 _ rfl
theorem insW4 (W : World) : (Instr.mapUpdate 51 (.map (some W.heap.size)) (.int .u8 97) (.int .i64 4095)).run Tryd.prog (W.alloc (.map eW3 3)) = .ok () (W.alloc (.map eW4 4)) := run_ins W eW3 3 97 _ rfl
theorem lookW (c : UInt8) (h : whoS.contains c = true) (W : World) : (Instr.lookup 51 (.map (some W.heap.size)) (.int .u8 (c.toNat : Int)) false).run Tryd.prog (W.alloc (.map eW4 4)) = .ok (.int .i64 (wm c.toNat : Int)) (W.alloc (.map eW4 4)) := by
  rw [List.contains_iff_mem] at h
  simp only [whoS, List.mem_cons, List.not_mem_nil, or_false] at h
  rcases h with rfl | rfl | rfl | rfl
  · exact run_look W eW4 4 117 0 _ rfl
  · exact run_look W eW4 4 103 1 _ rfl
  · exact run_look W eW4 4 111 2 _ rfl
  · exact run_look W eW4 4 97 3 _ rfl
def eL1 : Array MapEntry := #[⟨.int .u8 114, .int .i64 292, 0⟩]
def eL2 : Array MapEntry := #[⟨.int .u8 114, .int .i64 292, 0⟩, ⟨.int .u8 119, .int .i64 146, 1⟩]
def eL3 : Array MapEntry := #[⟨.int .u8 114, .int .i64 292, 0⟩, ⟨.int .u8 119, .int .i64 146, 1⟩, ⟨.int .u8 120, .int .i64 73, 2⟩]
def eL4 : Array MapEntry := #[⟨.int .u8 114, .int .i64 292, 0⟩, ⟨.int .u8 119, .int .i64 146, 1⟩, ⟨.int .u8 120, .int .i64 73, 2⟩, ⟨.int .u8 88, .int .i64 73, 3⟩]
def eL5 : Array MapEntry := #[⟨.int .u8 114, .int .i64 292, 0⟩, ⟨.int .u8 119, .int .i64 146, 1⟩, ⟨.int .u8 120, .int .i64 73, 2⟩, ⟨.int .u8 88, .int .i64 73, 3⟩, ⟨.int .u8 115, .int .i64 3072, 4⟩]
def eL6 : Array MapEntry := #[⟨.int .u8 114, .int .i64 292, 0⟩, ⟨.int .u8 119, .int .i64 146, 1⟩, ⟨.int .u8 120, .int .i64 73, 2⟩, ⟨.int .u8 88, .int .i64 73, 3⟩, ⟨.int .u8 115, .int .i64 3072, 4⟩, ⟨.int .u8 116, .int .i64 512, 5⟩]
theorem insL1 (W : World) : (Instr.mapUpdate 51 (.map (some W.heap.size)) (.int .u8 114) (.int .i64 292)).run Tryd.prog (W.alloc (.map #[] 0)) = .ok () (W.alloc (.map eL1 1)) := run_ins W #[] 0 114 _ rfl
theorem insL2 (W : World) : (Instr.mapUpdate 51 (.map (some W.heap.size)) (.int .u8 119) (.int .i64 146)).run Tryd.prog (W.alloc (.map eL1 1)) = .ok () (W.alloc (.map eL2 2)) := run_ins W eL1 1 119 _ rfl
theorem insL3 (W : World) : (Instr.mapUpdate 51 (.map (some W.heap.size)) (.int .u8 120) (.int .i64 73)).run Tryd.prog (W.alloc (.map eL2 2)) = .ok () (W.alloc (.map eL3 3)) := run_ins W eL2 2 120 _ rfl
theorem insL4 (W : World) : (Instr.mapUpdate 51 (.map (some W.heap.size)) (.int .u8 88) (.int .i64 73)).run Tryd.prog (W.alloc (.map eL3 3)) = .ok () (W.alloc (.map eL4 4)) := run_ins W eL3 3 88 _ rfl
theorem insL5 (W : World) : (Instr.mapUpdate 51 (.map (some W.heap.size)) (.int .u8 115) (.int .i64 3072)).run Tryd.prog (W.alloc (.map eL4 4)) = .ok () (W.alloc (.map eL5 5)) := run_ins W eL4 4 115 _ rfl
theorem insL6 (W : World) : (Instr.mapUpdate 51 (.map (some W.heap.size)) (.int .u8 116) (.int .i64 512)).run Tryd.prog (W.alloc (.map eL5 5)) = .ok () (W.alloc (.map eL6 6)) := run_ins W eL5 5 116 _ rfl
theorem lookL (c : UInt8) (h : permS.contains c = true) (W : World) : (Instr.lookup 51 (.map (some W.heap.size)) (.int .u8 (c.toNat : Int)) false).run Tryd.prog (W.alloc (.map eL6 6)) = .ok (.int .i64 (lm true c.toNat : Int)) (W.alloc (.map eL6 6)) := by
  rw [List.contains_iff_mem] at h
  simp only [permS, List.mem_cons, List.not_mem_nil, or_false] at h
  rcases h with rfl | rfl | rfl | rfl | rfl | rfl
  · exact run_look W eL6 6 114 0 _ rfl
  · exact run_look W eL6 6 119 1 _ rfl
  · exact run_look W eL6 6 120 2 _ rfl
  · exact run_look W eL6 6 88 3 _ rfl
  · exact run_look W eL6 6 115 4 _ rfl
  · exact run_look W eL6 6 116 5 _ rfl
end Go.Proofs.YtalafhfpmkacgaaDoor
