/- Texts as lists of bytes. -/
import Derived.Test.YtapfkjdkpcgoiaaDoorProg
import Derived.WalkKit
import Derived.ProofKit
import Derived.OpenShut
import Derived.LoopTactic
import Derived.Lib.Hide
import Derived.Lib.SmallJoins
import Derived.BigRegion
import Derived.BigQuiet
import Derived.Deep.QuietTactic
import Derived.Lib.QuietBelow
import Derived.Laws.Concat
import Derived.Laws.DeepStrings4
import Derived.Lib.Strings
import Derived.Lib.IndexBytes
namespace Go.Proofs.YtapfkjdkpcgoiaaDoor
open Go.RowKit Go.Joins
/-- a text of these bytes, behind a name. -/
def mkS (l : List UInt8) : ByteArray := ⟨l.toArray⟩
theorem mkS_self (s : ByteArray) : mkS s.data.toList = s := by cases s; simp [mkS]
theorem mkS_list (l : List UInt8) : (mkS l).data.toList = l := by simp [mkS]
theorem mkS_size (l : List UInt8) : (mkS l).size = l.length := by show l.toArray.size = _; simp
theorem mkS_inj (x y : List UInt8) : mkS x = mkS y ↔ x = y := by
  constructor
  · intro h; have := congrArg (fun s : ByteArray => s.data.toList) h; simpa [mkS_list] using this
  · rintro rfl; rfl
theorem mkS_nil : mkS [] = ByteArray.empty := rfl
theorem mkS_index (l : List UInt8) (i : Int) (c : UInt8) (h0 : 0 ≤ i) (h : l[i.toNat]? = some c) (w : World) : (Instr.index 9 (.string (mkS l)) (.int .i64 i)).run Tryd.prog w = .ok (.int .u8 (c.toNat : Int)) w := by
  obtain ⟨h1, h2⟩ := List.getElem?_eq_some_iff.1 h
  rw [run_index_string w 9 _ .i64 _ Tryd.underlying9, dif_pos ⟨h0, by rw [mkS_size]; omega⟩]
  have : (mkS l)[i.toNat]'(by rw [mkS_size]; exact h1) = c := by rw [← h2]; rfl
  rw [this]
theorem mkS_upto (l : List UInt8) (j : Nat) (h : j ≤ l.length) (w : World) : (Instr.slice 9 (.string (mkS l)) none (some (.int .i64 (j : Int))) none).run Tryd.prog w = .ok (.string (mkS (l.take j))) w := by
  rw [run_slice_string_to_if w 9 _ .i64 _ Tryd.underlying9, if_pos ⟨by omega, by rw [mkS_size]; omega⟩]
  have : (mkS l).extract 0 (j : Int).toNat = mkS (l.take j) := by
    rw [← mkS_self ((mkS l).extract 0 (j : Int).toNat), Lib.extract_data, mkS_list]
    simp
  rw [this]
theorem mkS_onward (l : List UInt8) (j : Nat) (h : j ≤ l.length) (w : World) : (Instr.slice 9 (.string (mkS l)) (some (.int .i64 (j : Int))) none none).run Tryd.prog w = .ok (.string (mkS (l.drop j))) w := by
  rw [run_slice_string_from_if w 9 _ .i64 _ Tryd.underlying9, if_pos ⟨by omega, by rw [mkS_size]; omega⟩]
  have : (mkS l).extract (j : Int).toNat (mkS l).size = mkS (l.drop j) := by
    rw [← mkS_self ((mkS l).extract (j : Int).toNat (mkS l).size), Lib.extract_to_end, mkS_list]
    simp
  rw [this]
theorem mkS_cat (x y : List UInt8) (h : x.length + y.length ≤ 1000000) (w : World) : (Op.stringOp .add (mkS x) (mkS y)).run Tryd.prog w = .ok (.string (mkS (x ++ y))) w := by
  unfold mkS
  rw [run_string_add_sum _ _ _ (by show x.toArray.size + y.toArray.size ≤ _; simp; omega), ByteArray.mk_append_mk]

theorem mkS_mid (l : List UInt8) (i j : Nat) (hi : i ≤ j) (h : j ≤ l.length) (w : World) : (Instr.slice 9 (.string (mkS l)) (some (.int .i64 (i : Int))) (some (.int .i64 (j : Int))) none).run Tryd.prog w = .ok (.string (mkS ((l.drop i).take (j - i)))) w := by
  rw [run_slice_string_if w 9 _ .i64 .i64 _ _ Tryd.underlying9, if_pos ⟨by omega, by rw [mkS_size]; omega⟩, if_pos ⟨by omega, by omega⟩]
  have : (mkS l).extract (i : Int).toNat (j : Int).toNat = mkS ((l.drop i).take (j - i)) := by
    rw [← mkS_self ((mkS l).extract (i : Int).toNat (j : Int).toNat), Lib.extract_data, mkS_list]
    simp
  rw [this]
theorem mkS_cat2 (x y : List UInt8) (h : x.length + y.length ≤ 9223372036854775807) (w : World) : (Op.stringOp .add (mkS x) (mkS y)).run Tryd.prog w = .ok (.string (mkS (x ++ y))) w := by
  unfold mkS
  rw [run_string_add_sum _ _ _ (by show x.toArray.size + y.toArray.size ≤ _; simp; omega), ByteArray.mk_append_mk]
theorem mkS_emp (l : List UInt8) (h : l ≠ []) : (mkS l).toList.isEmpty = false := by
  rw [ByteArray.toList_eq, mkS_list]
  cases l with
  | nil => exact absurd rfl h
  | cons c r => rfl
theorem mkS_emp_nil : (mkS []).toList.isEmpty = true := by rw [ByteArray.toList_eq, mkS_list]; rfl

end Go.Proofs.YtapfkjdkpcgoiaaDoor
