/- What is put, piece by piece; copy from a text into a row of bytes. -/
import Derived.Test.YtpkledmpldnhiaaDoorPz
import Derived.Laws.OwnMore
import Derived.Laws.BytesArg
import Derived.Lib.ConvBytes
import Derived.Lib.BufferWrite
import Derived.Lib.SlBuf
namespace Go.Proofs.YtpkledmpldnhiaaDoor
open Go.RowKit Go.Joins Go.Lib
set_option linter.unusedVariables false

/-- Behind i pieces: what is there, and what is left of the data. -/
def PutInv (d : List UInt8) (l : List Pc) (n i : Nat) (pre D : List UInt8) : Prop :=
  rightF n (-1) l = true ∧ ((pre.length : Int) = endE 0 (l.take i)) ∧ pre.length ≤ n ∧ pre ++ putF n pre.length D (l.drop i) = putL d l n ∧ (D.length : Int) = sumL (l.drop i)
theorem PutInv.start {d : List UInt8} {l : List Pc} {n : Nat} (h : rightF n (-1) l = true) (hd : (d.length : Int) = sumL l) : PutInv d l n 0 [] d :=
  ⟨h, rfl, by simp, rfl, by simpa using hd⟩
theorem endE_zero {l : List Pc} {size : Int} (h : rightF size (-1) l = true) : endE 0 l = if l = [] then 0 else endE (-1) l := by
  cases l with
  | nil => rfl
  | cons p l => simp [endE]
theorem PutInv.next {d : List UInt8} {l : List Pc} {n i : Nat} {pre D : List UInt8} {p : Pc} (h : PutInv d l n i pre D) (hp : l[i]? = some p) :
    (pre.length : Int) ≤ p.1 ∧ 1 ≤ p.2 ∧ p.1 + p.2 ≤ n ∧ p.2 ≤ (D.length : Int) ∧
    PutInv d l n (i + 1) ((pre ++ List.replicate (p.1.toNat - pre.length) 0) ++ D.take p.2.toNat) (D.drop p.2.toNat) := by
  obtain ⟨h1, h2, h2n, h3, h4⟩ := h
  have ha := rightF_at hp h1
  have hE : endE 0 (l.take i) ≤ p.1 := by
    rw [endE_zero (rightF_prefix l (-1) i h1)]
    split <;> omega
  have hdrop : sumL (l.drop i) = p.2 + sumL (l.drop (i + 1)) := by
    obtain ⟨g1, g2⟩ := List.getElem?_eq_some_iff.1 hp
    rw [List.drop_eq_getElem_cons g1, g2, sumL]
  have hrest : 0 ≤ sumL (l.drop (i + 1)) := by
    have hsuf : ∀ (k : Nat) (l : List Pc) (e : Int), rightF n e l = true → 0 ≤ sumL (l.drop k) := fun k => by
      induction k with
      | zero => intro l e hr; exact (sumL_bound l e hr).1
      | succ k ih =>
        intro l e hr
        cases l with
        | nil => simp [sumL]
        | cons q l => rw [List.drop_succ_cons]; exact ih l _ (rightF_cons.1 hr).2.2.2
    exact hsuf _ _ _ h1
  have hlen : (((pre ++ List.replicate (p.1.toNat - pre.length) (0 : UInt8)) ++ D.take p.2.toNat).length : Int) = p.1 + p.2 := by
    rw [List.length_append, List.length_append, List.length_replicate, List.length_take]; omega
  refine ⟨by omega, ha.2.1, by omega, by omega, h1, ?_, by omega, ?_, ?_⟩
  · rw [hlen, endE_take hp]
  · rw [← h3, putF_step hp, show ((pre ++ List.replicate (p.1.toNat - pre.length) (0 : UInt8)) ++ D.take p.2.toNat).length = (p.1 + p.2).toNat by omega]
    simp only [List.append_assoc]
  · rw [List.length_drop]; omega
theorem PutInv.done {d : List UInt8} {l : List Pc} {n : Nat} {pre D : List UInt8} (h : PutInv d l n l.length pre D) : pre ++ List.replicate (n - pre.length) 0 = putL d l n := by
  have := h.2.2.2.1
  rw [List.drop_length, putF] at this
  exact this
/-- The file's bytes, as far as there are any. -/
def fileL (pre : List UInt8) (n : Nat) : List UInt8 := pre ++ List.replicate (n - pre.length) 0
theorem fileL_length {pre : List UInt8} {n : Nat} (h : pre.length ≤ n) : (fileL pre n).length = n := by
  unfold fileL; rw [List.length_append, List.length_replicate]; omega
theorem fileL_step {pre X : List UInt8} {n a b : Nat} (h1 : pre.length ≤ a) (h2 : a + b ≤ n) (hX : X.length = b) : (fileL pre n).take a ++ X ++ (fileL pre n).drop (a + b) = fileL ((pre ++ List.replicate (a - pre.length) 0) ++ X) n := by
  unfold fileL
  rw [List.take_append, List.take_of_length_le h1, List.take_replicate, List.drop_append, List.drop_of_length_le (by omega), List.drop_replicate, List.nil_append]
  simp only [List.length_append, List.length_replicate, List.append_assoc]
  congr 2
  · congr 1; omega
  · congr 2; omega
theorem byteCells_append (a b : List UInt8) : byteCells (a ++ b) = byteCells a ++ byteCells b := by unfold byteCells; rw [List.map_append]
theorem byteCells_take (a : List UInt8) (k : Nat) : (byteCells a).take k = byteCells (a.take k) := by unfold byteCells; rw [List.map_take]
theorem byteCells_drop (a : List UInt8) (k : Nat) : (byteCells a).drop k = byteCells (a.drop k) := by unfold byteCells; rw [List.map_drop]
/-- A block that holds these bytes. -/
def RowIs (W : World) (B : Nat) (t : TypeId) (F : List UInt8) : Prop := W.heap[B]? = some (.cells (byteCells F).toArray t (0, 0))
theorem RowIs.below {W W' : World} {B : Nat} {t : TypeId} {F : List UInt8} (h : RowIs W B t F) (hb : Below W.heap.size W W') : RowIs W' B t F :=
  (hb.block B (Array.getElem?_eq_some_iff.1 h).1).trans h
theorem below_setRow {B : Nat} {a w : World} (h : Below B a w) (g : Nat) (hg : B ≤ g) (cs : Array Value) : Below B a (w.setRow g cs) :=
  h.trans ⟨rfl, rfl, rfl, by simp, fun k hk => setRow_other w g k cs (by omega)⟩

/-- 'copy(dst, s)', s a text that is not shorter than dst. -/
theorem run_copy_part {P : Program} (w : World) (dT sT ty elem : TypeId) (g o dLen dCap : Nat) (D F : List UInt8) (t : TypeId)
    (hu : P.underlying dT = some (.slice elem)) (hs : (P.info? elem).map (·.size) = some 1) (hg : RowIs w g t F) (hle : dLen ≤ D.length) (hfit : o + dLen ≤ F.length) :
    (Builtin.copy_ #[dT, sT] ty #[.slice (some ⟨g, o, none⟩) dLen dCap, .string (mkS D)]).run P w =
      .ok (.int .i64 (dLen : Int)) (w.setRow g (byteCells (F.take o ++ D.take dLen ++ F.drop (o + dLen))).toArray) := by
  have hsz := mkS_size D
  have hlen : (byteCells (D.take dLen)).length = dLen := by rw [byteCells_length, List.length_take]; omega
  have hst := run_storeCells_at P g o t (byteCells (D.take dLen)) 0 (byteCells F).toArray w hg (by rw [hlen, List.size_toArray, byteCells_length]; simpa using hfit) (byteCells_one _)
  have hmin : Nat.min (mkS D).size dLen = dLen := Nat.min_eq_right (by omega)
  have htk : List.take dLen (List.map (fun b : UInt8 => Value.int IntKind.u8 (b.toNat : Int)) (mkS D).data.toList) = byteCells (D.take dLen) := by
    rw [mkS_list, ← List.map_take]
    rfl
  rw [hlen] at hst
  simp only [Nat.add_zero] at hst
  have e1 : ((byteCells F).toArray.toList.take o ++ byteCells (D.take dLen) ++ (byteCells F).toArray.toList.drop (o + dLen)).toArray = (byteCells (F.take o ++ D.take dLen ++ F.drop (o + dLen))).toArray := by
    rw [byteCells_append, byteCells_append, ← byteCells_take F o, ← byteCells_drop]
  rw [e1] at hst
  cases hq : P.info? elem with
  | none => simp [hq] at hs
  | some i =>
    simp [Builtin.copy_, run_underlying hu, Builtin.lenOf, Builtin.firstCells, sizeOf, typeInfo, hq, hmin]
    rw [htk, hst]
    simp [Result.andThen]
    rfl
theorem rowIs_set {w : World} {g : Nat} {t : TypeId} {F F' : List UInt8} (h : RowIs w g t F) : RowIs (w.setRow g (byteCells F').toArray) g t F' := by
  unfold RowIs at h ⊢
  exact setRow_heap w g _ _ t (0, 0) h
/-- The whole row, as a text. -/
theorem rowIs_conv {w : World} {b : Nat} {t : TypeId} {F : List UInt8} (h : RowIs w b t F) (n cap : Nat) (hn : F.length = n) : (convert 52 9 (.slice (some ⟨b, 0, none⟩) n cap)).run Tryd.prog w = .ok (.string (mkS F)) w := by
  have := run_convert_bytes_arg (P := Tryd.prog) w 52 5 Tryd.underlying52 Tryd.underlying5 b 0 n cap (F.map fun c => (c.toNat : Int)) (by rw [List.length_map]; exact hn) (fun i hi => by
    rw [show 0 + i = i by omega, cell_of_row w b i _ t (0, 0) h]
    unfold byteCells
    rw [List.getElem?_toArray, List.getElem?_map, List.getD_eq_getElem?_getD, List.getElem?_map]
    rw [List.getElem?_eq_getElem (by omega)]; rfl) 9 Tryd.underlying9
  rw [this]
  have e : strOfNums (F.map fun c => (c.toNat : Int)) = mkS F := by
    rw [← mkS_self (strOfNums _), strOfNums_data, List.map_map]
    have hid : ((fun n : Int => UInt8.ofNat n.toNat) ∘ fun c : UInt8 => (c.toNat : Int)) = id := by
      funext c
      simp only [Function.comp, Int.toNat_natCast, id, UInt8.ofNat_toNat]
    rw [hid, List.map_id]
  rw [e]
theorem Tryd.infoByte : (Tryd.prog.info? 5).map (fun i => (i.zero, i.size, i.bytes)) = some (some (.int .u8 0), 1, 1) := by kernel_rfl
theorem byteInfo {P : Program} {e : TypeId} {z : Value} {size bytes : Nat} (h : (P.info? e).map (fun i => (i.zero, i.size, i.bytes)) = some (some z, size, bytes)) : ∃ i, P.info? e = some i ∧ i.zero = some z ∧ i.size = size ∧ i.bytes = bytes := by
  cases hi : P.info? e with
  | none => rw [hi] at h; cases h
  | some i =>
    rw [hi] at h
    simp only [Option.map_some, Option.some.injEq, Prod.mk.injEq] at h
    exact ⟨i, rfl, h.1, h.2.1, h.2.2⟩
theorem made_bytes (n : Nat) : madeCells (Value.int .u8 0).cells (n * 1) = (byteCells (List.replicate n 0)).toArray := by
  apply Array.toList_inj.1
  rw [Nat.mul_one, show (Value.int IntKind.u8 0).cells = #[Value.int .u8 0] from rfl, toList_madeCells_one]
  unfold byteCells
  rw [List.map_replicate]; rfl
/-- 'make([]byte, n)'. -/
theorem run_make_bytes (w : World) (n : Nat) (hn : n ≤ 1000000) :
    (Instr.makeSlice 52 (.int .i64 (n : Int)) (.int .i64 (n : Int))).run Tryd.prog w = .ok (.slice (some ⟨w.heap.size, 0, none⟩) n n) (w.alloc (.cells (byteCells (List.replicate n 0)).toArray 5)) := by
  obtain ⟨i, hi, hz, h1, h2⟩ := byteInfo Tryd.infoByte
  have h := run_make (P := Tryd.prog) w 52 5 i (.int .u8 0) Tryd.underlying52 hi hz .i64 .i64 n n (by omega) (Int.le_refl _) (by rw [h2]; omega) (by omega)
  simp only [Int.toNat_natCast, h1] at h
  have e2 : madeCells (Value.int .u8 0).cells (n * 1) = (byteCells (List.replicate n 0)).toArray := made_bytes n
  rw [e2] at h
  exact h
theorem sl_bytes (W : World) (B n a c : Nat) (hc : 0 < c) (h : a + c ≤ n) : (Instr.slice 52 (.slice (some ⟨B, 0, none⟩) n n) (some (.int .i64 (a : Int))) (some (.int .i64 ((a : Int) + (c : Int)))) none).run Tryd.prog W = .ok (.slice (some ⟨B, a, none⟩) c (n - a)) W := by
  have he : Tryd.prog.elem 52 = 5 := by kernel_rfl
  have hs : (sizeOf 5).run Tryd.prog W = .ok 1 W := by rw [sizeOf]; go_simp; kernel_rfl
  rw [run_slice_lh W 52 _ _ _ (by rw [he]; exact Tryd.underlying52) .i64 .i64 _ _ (by omega) (by omega) (by omega), he, hs]
  have e2 : (a : Int).toNat = a := by omega
  simp only [Result.andThen, sliced, e2]
  simp [Go.WideShapes.add_plain]
  omega
end Go.Proofs.YtpkledmpldnhiaaDoor
