/- block.Seal and the reference's Seal: what each returns; the law BlockSeals' walk. -/
import Derived.Test.YtapfkjdkpcgoiaaDoorSum
import Derived.Test.YtapfkjdkpcgoiaaDoorOctL
import Derived.Test.YtapfkjdkpcgoiaaDoorRefRead
import Derived.Deep.QuietTactic
import Derived.BigQuiet
import Derived.Lib.IndexBytes
import Derived.Stop.IfaceNil
namespace Go.Proofs.YtapfkjdkpcgoiaaDoor
open Go.RowKit

/-- The sealed header. -/
def sealB (s : ByteArray) : ByteArray := ⟨(s.data.toList.take 148 ++ ((octNums (sumH false s) 7).map fun n : Int => UInt8.ofNat n.toNat) ++ [32] ++ s.data.toList.drop 156).toArray⟩

set_option maxRecDepth 100000
theorem self_mk (s : ByteArray) : s = ⟨s.data.toList.toArray⟩ := by cases s; simp
theorem seal_to (s : ByteArray) (h : s.size = 512) (w : World) : (Instr.slice 9 (.string s) none (some (.int .i64 148)) none).run Tryd.prog w = .ok (.string ⟨(s.data.toList.take 148).toArray⟩) w := by
  rw [run_slice_string_to_if w 9 _ .i64 _ Tryd.underlying9, if_pos ⟨by omega, by omega⟩]
  have : s.extract 0 (148 : Int).toNat = ⟨(s.data.toList.take 148).toArray⟩ := by
    rw [self_mk (s.extract 0 (148 : Int).toNat), Lib.extract_data]
    rfl
  rw [this]
theorem seal_from (s : ByteArray) (h : s.size = 512) (w : World) : (Instr.slice 9 (.string s) (some (.int .i64 156)) none none).run Tryd.prog w = .ok (.string ⟨(s.data.toList.drop 156).toArray⟩) w := by
  rw [run_slice_string_from_if w 9 _ .i64 _ Tryd.underlying9, if_pos ⟨by omega, by omega⟩]
  have : s.extract (156 : Int).toNat s.size = ⟨(s.data.toList.drop 156).toArray⟩ := by
    rw [self_mk (s.extract (156 : Int).toNat s.size), Lib.extract_to_end]
    rfl
  rw [this]
theorem cat_lists (x y : List UInt8) (h : x.length + y.length ≤ 1000000) (w : World) : (Op.stringOp .add ⟨x.toArray⟩ ⟨y.toArray⟩).run Tryd.prog w = .ok (.string ⟨(x ++ y).toArray⟩) w := by
  rw [run_string_add_sum _ _ _ (by show x.toArray.size + y.toArray.size ≤ _; simp; omega), ByteArray.mk_append_mk]

theorem seal_arg (s : ByteArray) (w : World) (hs : s.size ≤ 9223372036854775807) (h : s.size ≠ 512) :
    Calls Tryd.prog 34 #[.string s] w fun e w' => e = .returned (.tuple #[.string ByteArray.empty, .iface 25 (.int .i64 1)]) ∧ w' = w := by
  have H := Lib.hid h
  clear h
  go_enter Tryd.func34, Tryd.ntmps34
  go_wp2_with (go_at_call 39; refine (sum_arg _ _ _ hs H.out).mono ?_; rintro x w2 ⟨rfl, rfl⟩)
  go_ret2
  exact ⟨rfl, rfl⟩

theorem sumC_nonneg (l : List UInt8) (k : Nat) : 0 ≤ sumC false l k := by
  induction k with
  | zero => simp [sumC]
  | succ k ih =>
    have hb := bAt_range l k
    rw [sumC, bv_u]
    split <;> omega
theorem most7 : mostF 7 = 262143 := by unfold mostF ipw; decide +kernel
theorem sumH_oct (s : ByteArray) : 0 ≤ sumH false s ∧ sumH false s ≤ mostF 7 := by
  rw [most7]
  have h1 := sumC_nonneg s.data.toList 512
  have h2 := sumH_range false s
  unfold sumH at *; omega

/-- The pieces of a sealed header, joined one by one; opaque. -/
theorem seal_pieces (s : ByteArray) (h : s.size = 512) : ∃ T X Y D : ByteArray,
    (∀ w, (Instr.slice 9 (.string s) none (some (.int .i64 148)) none).run Tryd.prog w = .ok (.string T) w) ∧
    (∀ w, (Op.stringOp .add T (strOfNums (octNums (sumH false s) 7))).run Tryd.prog w = .ok (.string X) w) ∧
    (∀ w, (Op.stringOp .add X ⟨#[32]⟩).run Tryd.prog w = .ok (.string Y) w) ∧
    (∀ w, (Instr.slice 9 (.string s) (some (.int .i64 156)) none none).run Tryd.prog w = .ok (.string D) w) ∧
    (∀ w, (Op.stringOp .add Y D).run Tryd.prog w = .ok (.string (sealB s)) w) := by
  have hl : s.data.toList.length = 512 := by simpa using h
  refine ⟨_, _, _, _, seal_to s h, fun w => cat_lists _ _ ?_ w, fun w => cat_lists _ [32] ?_ w, seal_from s h, fun w => cat_lists _ _ ?_ w⟩
  · simp [octNums_length]; omega
  · simp [octNums_length]; omega
  · simp [octNums_length]; omega

set_option maxHeartbeats 1000000 in
theorem seal_ok (s : ByteArray) (w : World) (h : s.size = 512) :
    Calls Tryd.prog 34 #[.string s] w fun e w' => e = .returned (.tuple #[.string (sealB s), .nilIface]) ∧ Below w.heap.size w w' := by
  obtain ⟨T, X, Y, D, z1, z2, z3, z4, z5⟩ := seal_pieces s h
  have ho := sumH_oct s
  have H := Lib.hid h
  have Ho := Lib.hid ho
  clear h ho
  go_enter Tryd.func34, Tryd.ntmps34
  go_wp2_with (first
    | (go_at_call 39; refine (sum_ok _ _ _ H.out).mono ?_; rintro x w2 ⟨rfl, hw⟩; replace hw := hw.symm; subst hw)
    | (go_at_call 52; refine (octal_ok _ 7 _ (by omega) (by omega) Ho.out.1 Ho.out.2).mono ?_; rintro x w2 ⟨rfl, hb⟩))
  go_quiet (fail)
  clear z1 z2 z3 z4 z5
  go_wp2
  go_ret2
  exact ⟨rfl, below_drewN hb _⟩

theorem refSeal_arg (s : ByteArray) (w : World) (hs : s.size ≤ 9223372036854775807) (h : s.size ≠ 512) :
    Calls Tryd.prog 28 #[.string s] w fun e w' => e = .returned (.tuple #[.string ByteArray.empty, .int .i64 1]) ∧ w' = w := by
  have H := Lib.hid h
  clear h
  go_enter Tryd.func28, Tryd.ntmps28
  go_wp2_with (go_at_call 51; refine (refSum_arg _ _ _ hs H.out).mono ?_; rintro x w2 ⟨rfl, rfl⟩)
  go_ret2
  exact ⟨rfl, rfl⟩

set_option maxHeartbeats 1000000 in
theorem refSeal_ok (s : ByteArray) (w : World) (h : s.size = 512) :
    Calls Tryd.prog 28 #[.string s] w fun e w' => e = .returned (.tuple #[.string (sealB s), .int .i64 0]) ∧ Below w.heap.size w w' := by
  obtain ⟨T, X, Y, D, z1, z2, z3, z4, z5⟩ := seal_pieces s h
  have ho := sumH_oct s
  have hr := sumH_range false s
  have H := Lib.hid h
  have Ho := Lib.hid ho
  have Hr := Lib.hid hr
  clear h ho hr
  go_enter Tryd.func28, Tryd.ntmps28
  go_wp2_with (first
    | (go_at_call 51; refine (refSum_ok _ _ _ H.out).mono ?_; rintro x w1 ⟨rfl, hb1⟩)
    | (go_at_call 49; refine (refOctal_ok _ 7 _ (by omega) (by omega) Ho.out.1 (by have := Hr.out; omega) Ho.out.2).mono ?_; rintro x w2 ⟨rfl, hb2⟩))
  go_quiet (fail)
  clear z1 z2 z3 z4 z5
  go_wp2
  go_ret2
  exact ⟨rfl, below_drewN (hb1.trans (hb2.mono hb1.size)) _⟩

end Go.Proofs.YtapfkjdkpcgoiaaDoor
