/- Rows of bytes that the call makes of a text, stored into, and made a text again. -/
import Derived.Test.YtalafhfpmkacgaaDoorMm
import Derived.Laws.BytesArg
import Derived.Lib.ConvBytes
namespace Go.Proofs.YtalafhfpmkacgaaDoor
open Go.RowKit
set_option linter.unusedVariables false

def bAt (l : List UInt8) (k : Nat) : Int := ((l.getD k 0).toNat : Int)
theorem bAt_some {l : List UInt8} {k : Nat} {c : UInt8} (h : l[k]? = some c) : bAt l k = (c.toNat : Int) := by
  unfold bAt; rw [List.getD_eq_getElem?_getD, h]; rfl
theorem bAt_congr (l m : List UInt8) (k : Nat) (h : l[k]? = m[k]?) : bAt l k = bAt m k := by
  unfold bAt; rw [List.getD_eq_getElem?_getD, List.getD_eq_getElem?_getD, h]
theorem bAt_set_ne (l : List UInt8) (i k : Nat) (c : UInt8) (h : k ≠ i) : bAt (l.set i c) k = bAt l k :=
  bAt_congr _ _ _ (by rw [List.getElem?_set_ne (by omega)])
theorem bAt_set_eq (l : List UInt8) (i : Nat) (c : UInt8) (h : i < l.length) : bAt (l.set i c) i = (c.toNat : Int) := by
  unfold bAt; rw [List.getD_eq_getElem?_getD, List.getElem?_set_self h]; rfl
theorem below_bytesWorld (w : World) (e : TypeId) (s : ByteArray) : Below w.heap.size w (Lib.bytesWorld w e s) :=
  ⟨rfl, rfl, rfl, by rw [Lib.bytesWorld_size]; omega, fun k hk => Lib.bytesWorld_at_old w e s k hk⟩
/-- A block whose first cells are these bytes. -/
def bytesAt (w : World) (b : Nat) (l : List UInt8) : Prop := ∀ j, j < l.length → w.cell? ⟨b, j, none⟩ = some (.int .u8 (bAt l j)) ∧ w.frozen? ⟨b, j, none⟩ = false
theorem bytesAt_new (w : World) (e : TypeId) (l : List UInt8) : bytesAt (Lib.bytesWorld w e (mkS l)) w.heap.size l := by
  intro j hj
  refine ⟨?_, ?_⟩
  · have := Lib.bytesWorld_cell w e (mkS l) j (by rw [mkS_size]; exact hj)
    rw [mkS_list] at this
    exact this
  · unfold World.frozen?
    rw [Lib.bytesWorld_at_new]
    have : j < (Lib.bytesCells w e (mkS l)).size := by
      unfold Lib.bytesCells
      rw [Array.size_append, Array.size_map]
      have : (mkS l).data.size = l.length := mkS_size l
      omega
    simp; omega
theorem bytesAt_set {w : World} {b : Nat} {l : List UInt8} (h : bytesAt w b l) (j : Nat) (c : UInt8) (v : Int) (hv : v = (c.toNat : Int)) (hj : j < l.length) : bytesAt (w.setCell ⟨b, j, none⟩ (.int .u8 v)) b (l.set j c) := by
  intro k hk
  rw [List.length_set] at hk
  obtain ⟨h1, h2⟩ := h k hk
  refine ⟨?_, by rw [World.frozen?_setCell]; exact h2⟩
  by_cases e : k = j
  · subst e
    rw [World.cell?_setCell_same _ _ _ h1, bAt_set_eq l k c hj, hv]
  · rw [World.cell?_setCell_other _ _ _ _ (by intro he; injection he with _ he; omega), bAt_set_ne l j k c e]
    exact h1
theorem bytesAt_conv {w : World} {b : Nat} {l : List UInt8} (h : bytesAt w b l) (n cap : Nat) (hn : l.length = n) : (convert 59 9 (.slice (some ⟨b, 0, none⟩) n cap)).run Tryd.prog w = .ok (.string (mkS l)) w := by
  have := run_convert_bytes_arg (P := Tryd.prog) w 59 5 Tryd.underlying59 Tryd.underlying5 b 0 n cap (l.map fun c => (c.toNat : Int)) (by rw [List.length_map]; exact hn) (fun i hi => by
    rw [show 0 + i = i by omega, (h i (by omega)).1]
    unfold bAt
    rw [List.getD_eq_getElem?_getD, List.getD_eq_getElem?_getD, List.getElem?_map]
    rw [List.getElem?_eq_getElem (by omega)]; rfl) 9 Tryd.underlying9
  rw [this]
  have e : strOfNums (l.map fun c => (c.toNat : Int)) = mkS l := by
    rw [← mkS_self (strOfNums _), strOfNums_data, List.map_map]
    have hid : ((fun n : Int => UInt8.ofNat n.toNat) ∘ fun c : UInt8 => (c.toNat : Int)) = id := by
      funext c
      simp only [Function.comp, Int.toNat_natCast, id, UInt8.ofNat_toNat]
    rw [hid, List.map_id]
  rw [e]
/-- A text of one byte. -/
theorem byte_one (W : World) (c : UInt8) : (convert 59 9 (.slice (some ⟨W.heap.size, 0, none⟩) 1 1)).run Tryd.prog (W.alloc (.cells #[.int .u8 (c.toNat : Int)] 5)) = .ok (.string (mkS [c])) (W.alloc (.cells #[.int .u8 (c.toNat : Int)] 5)) := by
  have := run_convert_bytes_arg (P := Tryd.prog) (w := W.alloc (.cells #[.int .u8 (c.toNat : Int)] 5)) 59 5 Tryd.underlying59 Tryd.underlying5 W.heap.size 0 1 1 [(c.toNat : Int)] rfl (fun i hi => by
    obtain rfl : i = 0 := by omega
    simp) 9 Tryd.underlying9
  rw [this]
  have e : strOfNums [(c.toNat : Int)] = mkS [c] := by simp [strOfNums, mkS]
  rw [e]

/-! ### Nine letters, as a function of the place -/
def rowB (f : Nat → Nat) : List UInt8 := (List.range 9).map fun i => UInt8.ofNat (f i)
theorem rowB_length (f : Nat → Nat) : (rowB f).length = 9 := by simp [rowB]
theorem rowB_get (f : Nat → Nat) {i : Nat} (h : i < 9) : (rowB f)[i]? = some (UInt8.ofNat (f i)) := by
  unfold rowB; rw [List.getElem?_map, List.getElem?_range h]; rfl
theorem rowB_at (f : Nat → Nat) {i : Nat} (h : i < 9) (hf : f i < 256) : bAt (rowB f) i = (f i : Int) := by
  rw [bAt_some (rowB_get f h), UInt8.toNat_ofNat', Nat.mod_eq_of_lt hf]
theorem rowB_congr {f g : Nat → Nat} (h : ∀ i, i < 9 → f i = g i) : rowB f = rowB g :=
  List.map_congr_left fun i hi => by rw [h i (List.mem_range.1 hi)]
theorem rowB_set (f : Nat → Nat) (j v : Nat) (hj : j < 9) : (rowB f).set j (UInt8.ofNat v) = rowB (fun i => if i = j then v else f i) := by
  apply List.ext_getElem?
  intro i
  by_cases hi : i < 9
  · rw [rowB_get _ hi]
    by_cases e : i = j
    · subst e; rw [List.getElem?_set_self (by rw [rowB_length]; exact hi), if_pos rfl]
    · rw [List.getElem?_set_ne (by omega), rowB_get _ hi, if_neg e]
  · rw [List.getElem?_eq_none (by rw [List.length_set, rowB_length]; omega), List.getElem?_eq_none (by rw [rowB_length]; omega)]
theorem textL_row (b : Nat → Bool) : textL b = rowB (letN b) := by
  unfold textL textN rowB; rw [List.map_map]; rfl
def rwxN (i : Nat) : Nat := if i % 3 = 0 then 114 else if i % 3 = 1 then 119 else 120
def baseN (b : Nat → Bool) (i : Nat) : Nat := if b (8 - i) then rwxN i else 45
/-- Behind k rounds of the first loop. -/
def oneN (b : Nat → Bool) (k i : Nat) : Nat := if i < k then baseN b i else rwxN i
/-- Behind j rounds of the second. -/
def twoN (b : Nat → Bool) (j i : Nat) : Nat := if i < 3 * j then letN b i else baseN b i
theorem rwxN_lt (i : Nat) : rwxN i < 256 := by unfold rwxN; repeat' split
                                               all_goals omega
theorem baseN_lt (b : Nat → Bool) (i : Nat) : baseN b i < 256 := by
  have := rwxN_lt i
  unfold baseN; split <;> omega
theorem oneN_lt (b : Nat → Bool) (k i : Nat) : oneN b k i < 256 := by
  have := rwxN_lt i; have := baseN_lt b i
  unfold oneN; split <;> omega
theorem twoN_lt (b : Nat → Bool) (k i : Nat) : twoN b k i < 256 := by
  have := letN_lt b i; have := baseN_lt b i
  unfold twoN; split <;> omega
theorem row_rwx : rowB rwxN = [114, 119, 120, 114, 119, 120, 114, 119, 120] := by decide
theorem row_one_zero (b : Nat → Bool) : rowB (oneN b 0) = rowB rwxN := rowB_congr fun i _ => by unfold oneN; rw [if_neg (by omega)]
theorem row_one_on (b : Nat → Bool) (k : Nat) (h : b (8 - k) = true) : rowB (oneN b (k + 1)) = rowB (oneN b k) := rowB_congr fun i _ => by
  unfold oneN
  by_cases e : i = k
  · subst e; rw [if_pos (by omega), if_neg (by omega)]; unfold baseN; rw [h]; rfl
  · by_cases e2 : i < k
    · rw [if_pos (by omega), if_pos e2]
    · rw [if_neg (by omega), if_neg e2]
theorem row_one_off (b : Nat → Bool) (k : Nat) (hk : k < 9) (h : b (8 - k) = false) : rowB (oneN b (k + 1)) = (rowB (oneN b k)).set k 45 := by
  rw [show (45 : UInt8) = UInt8.ofNat 45 from rfl, rowB_set _ _ _ hk]
  exact rowB_congr fun i _ => by
    unfold oneN
    by_cases e : i = k
    · subst e; rw [if_pos (by omega), if_pos rfl]; unfold baseN; rw [h]; rfl
    · rw [if_neg e]
      by_cases e2 : i < k
      · rw [if_pos (by omega), if_pos e2]
      · rw [if_neg (by omega), if_neg e2]
theorem row_two_zero (b : Nat → Bool) : rowB (twoN b 0) = rowB (oneN b 9) := rowB_congr fun i hi => by
  unfold twoN oneN; rw [if_neg (by omega), if_pos hi]
theorem row_two_end (b : Nat → Bool) : rowB (twoN b 3) = textL b := by
  rw [textL_row]; exact rowB_congr fun i hi => by unfold twoN; rw [if_pos (by omega)]
theorem row_two_step (b : Nat → Bool) (j v : Nat) (hj : j < 3) (hv : letN b (3 * j + 2) = v) : rowB (twoN b (j + 1)) = (rowB (twoN b j)).set (3 * j + 2) (UInt8.ofNat v) := by
  rw [rowB_set _ _ _ (by omega)]
  exact rowB_congr fun i _ => by
    by_cases e : i = 3 * j + 2
    · subst e; rw [if_pos rfl]; unfold twoN; rw [if_pos (by omega)]; exact hv
    · rw [if_neg e]
      unfold twoN
      by_cases e2 : i < 3 * j
      · rw [if_pos (by omega), if_pos e2]
      · by_cases e3 : i < 3 * (j + 1)
        · rw [if_pos e3, if_neg e2]
          unfold letN baseN rwxN
          rw [if_neg (by omega)]
        · rw [if_neg e3, if_neg e2]
theorem row_two_same (b : Nat → Bool) (j : Nat) (hj : j < 3) (h : b (11 - j) = false) : rowB (twoN b (j + 1)) = rowB (twoN b j) := rowB_congr fun i _ => by
  unfold twoN
  by_cases e2 : i < 3 * j
  · rw [if_pos (by omega), if_pos e2]
  · by_cases e3 : i < 3 * (j + 1)
    · rw [if_pos e3, if_neg e2]
      unfold letN baseN rwxN
      have : i / 3 = j := by omega
      rw [this, h, if_neg (by simp)]
    · rw [if_neg e3, if_neg e2]
end Go.Proofs.YtalafhfpmkacgaaDoor
