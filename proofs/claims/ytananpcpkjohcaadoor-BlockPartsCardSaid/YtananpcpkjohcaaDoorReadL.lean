/- The reference's NumberRead at every short string; the law NumberReads' walk. -/
import Derived.Test.YtananpcpkjohcaaDoorRefOct
namespace Go.Proofs.YtananpcpkjohcaaDoor
open Go.RowKit

set_option maxRecDepth 100000 in
theorem refRead_nil (w : World) :
    Calls Tryd.prog 20 #[.string (mkS [])] w fun e w' => NumNo (readS (mkS [])) e ∧ Below w.heap.size w w' := by
  have hS : readS (mkS []) = (0, 3) := by unfold readS; rw [mkS_list]; rfl
  have HS := Lib.hid hS
  have z1 := mkS_emp_nil
  clear hS
  go_enter Tryd.func20, Tryd.ntmps20
  go_wp2
  go_ret2
  exact ⟨by unfold NumNo; rw [HS.out]; rfl, Below.refl _ _⟩

theorem refRead_any (s : ByteArray) (w : World) (hs : s.size ≤ 1000000) :
    Calls Tryd.prog 20 #[.string s] w fun e w' => NumNo (readS s) e ∧ Below w.heap.size w w' := by
  by_cases h0 : s.size = 0
  · have : s = mkS [] := by
      rw [← mkS_self s]; congr 1; apply List.eq_nil_of_length_eq_zero; simpa using h0
    rw [this]; exact refRead_nil w
  · have h1 : 0 < s.size := by omega
    by_cases hc : (128 : Int) ≤ (s[0].toNat : Int)
    · have hu : (s[0].toNat : Int) ≤ 255 := by have := s[0].toNat_lt; omega
      by_cases hc2 : (s[0].toNat : Int) = 255
      · exact refRead_neg s w h1 (by omega) hc2
      · exact refRead_pos s w h1 (by omega) hc (by omega)
    · have hd : s.data.toList = s[0] :: s.data.toList.drop 1 := drop_get s 0 h1
      have e : s = mkS (s[0] :: s.data.toList.drop 1) := by rw [← hd]; exact (mkS_self s).symm
      have hl : (s.data.toList.drop 1).length ≤ 1000000 := by rw [List.length_drop]; simp; omega
      generalize s[0] = c at *
      generalize s.data.toList.drop 1 = r at *
      rw [e]
      exact refRead_oct c r w hl (by omega)

theorem refRead_ok (s : ByteArray) (n : Int) (h : readS s = (n, 0)) (w : World) (hs : s.size ≤ 1000000) :
    Calls Tryd.prog 20 #[.string s] w fun e w' => e = .returned (.tuple #[.int .i64 n, .int .i64 0]) ∧ Below w.heap.size w w' :=
  (refRead_any s w hs).mono fun _ _ ⟨a, b⟩ => ⟨by unfold NumNo at a; rw [a, h], b⟩
theorem refRead_err (s : ByteArray) (e : Int) (h : readS s = (0, e)) (w : World) (hs : s.size ≤ 1000000) :
    Calls Tryd.prog 20 #[.string s] w fun x w' => x = .returned (.tuple #[.int .i64 0, .int .i64 e]) ∧ Below w.heap.size w w' :=
  (refRead_any s w hs).mono fun _ _ ⟨a, b⟩ => ⟨by unfold NumNo at a; rw [a, h], b⟩

set_option maxHeartbeats 1000000 in
theorem numberReads_walk (a0 : ByteArray) (w0 : a0.size ≤ maxLen) (w : World) (hg : ErrLaid w) :
    Calls Tryd.prog 3 #[.string a0] w fun e w' => e = .returned (.bool true) ∧ Below w.heap.size w w' := by
  have hm : a0.size ≤ 9223372036854775807 := by unfold maxLen at w0; omega
  clear w0
  by_cases hlen : (100 : Int) < (a0.size : Int)
  · go_enter Tryd.func3, Tryd.ntmps3
    go_wp2_with fail
    go_ret
    exact ⟨rfl, Below.refl _ _⟩
  · have hs : a0.size ≤ 1000000 := by omega
    rcases readS_any a0 with ⟨n, h⟩ | ⟨e, he, h⟩
    · have H := Lib.hid h
      clear h
      go_enter Tryd.func3, Tryd.ntmps3
      go_wp2_with (first
        | (go_at_call 20; refine (refRead_ok _ _ H.out _ hs).mono ?_; rintro x w1 ⟨rfl, hb1⟩)
        | (go_at_call 21; refine (read_ok _ _ H.out _ hm).mono ?_; rintro x w2 ⟨rfl, hb2⟩)
        | (go_at_call 22; refine (bare_nil _).mono ?_; rintro x w3 ⟨rfl, rfl⟩))
      go_ret
      exact ⟨rfl, hb1.trans (hb2.mono hb1.size)⟩
    · have H := Lib.hid h
      have He := Lib.hid he
      clear h he
      go_enter Tryd.func3, Tryd.ntmps3
      go_wp2_with (first
        | (go_at_call 20; refine (refRead_err _ _ H.out _ hs).mono ?_; rintro x w1 ⟨rfl, hb1⟩)
        | (go_at_call 21; refine (read_err _ _ He.out H.out _ hm).mono ?_; rintro x w2 ⟨rfl, hb2⟩)
        | (go_at_call 22; refine (bare_err _ _ ((hg.below hb1).below hb2)).mono ?_; rintro x w3 ⟨rfl, hb3⟩))
      go_ret
      exact ⟨rfl, (hb1.trans (hb2.mono hb1.size)).trans (hb3.mono (Nat.le_trans hb1.size hb2.size))⟩
end Go.Proofs.YtananpcpkjohcaaDoor
