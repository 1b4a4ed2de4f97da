/- The reference's NumberRead at every short string; the law NumberReads' walk. -/
import Derived.Test.YtapfkjdkpcgoiaaGreatDoorRefOct
namespace Go.Proofs.YtapfkjdkpcgoiaaGreatDoor
open Go.RowKit

set_option maxRecDepth 100000 in
theorem refRead_nil (w : World) :
    Calls Tryz.prog 13 #[.string (mkS [])] w fun e w' => NumNo (readS (mkS [])) e ∧ Below w.heap.size w w' := by
  have hS : readS (mkS []) = (0, 3) := by unfold readS; rw [mkS_list]; rfl
  have HS := Lib.hid hS
  have z1 := mkS_emp_nil
  clear hS
  go_enter Tryz.func13, Tryz.ntmps13
  go_wp2
  go_ret2
  exact ⟨by unfold NumNo; rw [HS.out]; rfl, Below.refl _ _⟩

theorem refRead_any (s : ByteArray) (w : World) (hs : s.size ≤ 1000000) :
    Calls Tryz.prog 13 #[.string s] w fun e w' => NumNo (readS s) e ∧ Below w.heap.size w w' := by
  by_cases h0 : s.size = 0
  · have : s = mkS [] := by
      rw [← mkS_self s]; congr 1; apply List.eq_nil_of_length_eq_zero; simpa using h0
    rw [this]; exact refRead_nil w
  · have h1 : 0 < s.size := by omega
    by_cases hc : (128 : Int) ≤ (s[0].toNat : Int)
    · have hu : (s[0].toNat : Int) ≤ 255 := by have := s[0].toNat_lt; omega
      by_cases hc2 : (s[0].toNat : Int) = 255
      · exact refRead_neg s w h1 (by omega) hc2
      · exact refRead_pos s w h1 (by omega) hc (by omega)
    · have hd : s.data.toList = s[0] :: s.data.toList.drop 1 := drop_get s 0 h1
      have e : s = mkS (s[0] :: s.data.toList.drop 1) := by rw [← hd]; exact (mkS_self s).symm
      have hl : (s.data.toList.drop 1).length ≤ 1000000 := by rw [List.length_drop]; simp; omega
      generalize s[0] = c at *
      generalize s.data.toList.drop 1 = r at *
      rw [e]
      exact refRead_oct c r w hl (by omega)

theorem refRead_ok (s : ByteArray) (n : Int) (h : readS s = (n, 0)) (w : World) (hs : s.size ≤ 1000000) :
    Calls Tryz.prog 13 #[.string s] w fun e w' => e = .returned (.tuple #[.int .i64 n, .int .i64 0]) ∧ Below w.heap.size w w' :=
  (refRead_any s w hs).mono fun _ _ ⟨a, b⟩ => ⟨by unfold NumNo at a; rw [a, h], b⟩
theorem refRead_err (s : ByteArray) (e : Int) (h : readS s = (0, e)) (w : World) (hs : s.size ≤ 1000000) :
    Calls Tryz.prog 13 #[.string s] w fun x w' => x = .returned (.tuple #[.int .i64 0, .int .i64 e]) ∧ Below w.heap.size w w' :=
  (refRead_any s w hs).mono fun _ _ ⟨a, b⟩ => ⟨by unfold NumNo at a; rw [a, h], b⟩

end Go.Proofs.YtapfkjdkpcgoiaaGreatDoor
