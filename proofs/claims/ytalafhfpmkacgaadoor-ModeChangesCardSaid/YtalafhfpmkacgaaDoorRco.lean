/- The reference's ModeChange: a mode out of range; octal digits. -/
import Derived.Test.YtalafhfpmkacgaaDoorRsm
import Derived.Test.YtalafhfpmkacgaaDoorRps
namespace Go.Proofs.YtalafhfpmkacgaaDoor
open Go.RowKit Go.Joins
set_option linter.unusedVariables false
set_option linter.unusedSimpArgs false
set_option maxRecDepth 100000

theorem refChange_out (m : Int) (l : List UInt8) (dir : Bool) (h : m < 0 ∨ 4095 < m) (w : World) :
    Calls Tryd.prog 10 #[.int .i64 m, .string (mkS l), .bool dir] w fun e w' => e = .returned (refOut (changeF m l dir)) ∧ Below w.heap.size w w' := by
  have hc : changeF m l dir = (2, 0) := by unfold changeF; rw [if_pos h]
  rw [hc]
  have W := Lib.hid (fun w => within_any m w)
  rw [decide_eq_false (fun k => by omega)] at W
  clear hc h
  go_enter Tryd.func10, Tryd.ntmps10
  go_wp2_with (go_at_call 23; with_reducible refine (W.out _).mono ?_; rintro e w' ⟨rfl, hw⟩; replace hw := hw.symm; subst hw)
  go_ret2
  exact ⟨rfl, Below.refl _ _⟩

set_option maxHeartbeats 2000000 in
theorem refChange_oct (m : Int) (l : List UInt8) (dir : Bool) (hm : ¬ (m < 0 ∨ 4095 < m)) (ho : octB l = true) (hl : l.length ≤ 1000000) (w : World) :
    Calls Tryd.prog 10 #[.int .i64 m, .string (mkS l), .bool dir] w fun e w' => e = .returned (refOut (changeF m l dir)) ∧ Below w.heap.size w w' := by
  have W := Lib.hid (fun w => within_any m w)
  rw [decide_eq_true (by omega)] at W
  have O := Lib.hid (fun w => only_any octS l (by decide) hl w)
  obtain ⟨PF, hPF⟩ : ∃ x, changeF m l dir = x := ⟨_, rfl⟩
  rw [hPF]
  have hcf : PF = if octV 0 l ≤ 4095 then (0, octV 0 l) else (2, 0) := by
    rw [← hPF]; unfold changeF; rw [if_neg hm, if_pos ho]
  have HPF := Lib.hid hcf
  unfold octB at ho
  rw [Bool.and_eq_true, Bool.not_eq_true', decide_eq_false_iff_not, decide_eq_true_eq] at ho
  obtain ⟨h0, h1⟩ := ho
  have hh : headS octS l = l := by have := head_rest octS l; rwa [h1, List.append_nil] at this
  rw [h1, hh] at O
  rw [restS_nil] at h1
  have HO := Lib.hid (fun c hc => (oct_mem c).1 (h1 c hc))
  have e0 := mkS_emp l h0
  have e1 := mkS_emp_nil
  have hz := mkS_size l
  have HI := Lib.hid (fun (i : Nat) (c : UInt8) (h : l[i]? = some c) => mkS_index l (i : Int) c (by omega) (by simpa using h))
  obtain ⟨n, hn⟩ : ∃ n, l.length = n := ⟨_, rfl⟩
  rw [hn] at hz hl
  have HL := Lib.hid hn
  have hcut : (⟨#[48, 49, 50, 51, 52, 53, 54, 55]⟩ : ByteArray) = mkS octS := rfl
  clear hn hh h1 h0 hcf hPF hm
  go_enter Tryd.func10, Tryd.ntmps10
  go_wp2_with (first
    | (go_at_call 23; with_reducible refine (W.out _).mono ?_; rintro e w' ⟨rfl, hw⟩; replace hw := hw.symm; subst hw)
    | (go_at_call 24; with_reducible refine (O.out _).mono ?_; rintro e w1 ⟨rfl, hb1⟩))
  have HB1 := Lib.hid hb1
  clear hb1
  go_loopg [10, 41] n (fun g s10 s41 wr => ∃ (i v : Nat), i ≤ n ∧ n - i ≤ g ∧ v ≤ 5000 ∧ s10 = .int .i64 v ∧ s41 = .int .i64 i ∧ Aside (v = min (octV 0 (l.take i)) 5000 ∧ wr = w1))
  case atStart => exact ⟨0, 0, by omega, by omega, by omega, rfl, rfl, by rw [List.take_zero, octV_nil]; rfl, rfl⟩
  case round =>
    obtain ⟨i, v, hi, hg, hv, rfl, rfl, A⟩ := hrel
    by_cases hin : i < n
    · have hin' : (i : Int) < (n : Int) := by omega
      obtain ⟨c, hc⟩ : ∃ c, l[i]? = some c := ⟨_, List.getElem?_eq_getElem (by rw [HL.out]; exact hin)⟩
      have ix := HI.out i c hc
      obtain ⟨c1, c2⟩ := HO.out c (List.mem_of_getElem? hc)
      obtain ⟨v', hv'⟩ : ∃ v', min (v * 8 + (c.toNat - 48)) 5000 = v' := ⟨_, rfl⟩
      have hvI : min ((v : Int) * 8 + ((c.toNat : Int) - 48)) 5000 = (v' : Int) := by omega
      have hv5 : v' ≤ 5000 := by omega
      have HN := Lib.hid (show v' = min (octV 0 (l.take (i + 1))) 5000 ∧ wr = w1 from by
        refine ⟨?_, A.out.2⟩
        rw [List.take_add_one, hc]
        show v' = min (octV 0 (l.take i ++ [c])) 5000
        rw [octV_snoc]
        have := A.out.1
        omega)
      clear A hc hv'
      go_wp2
      go_roundg (n - (i + 1))
      case measure => omega
      case rel => exact ⟨i + 1, v', by omega, Nat.le_refl _, hv5, by first | rfl | simp, by first | rfl | simp, HN.out⟩
    · have hil : ¬ (i : Int) < (n : Int) := by omega
      have hoc : v = min (octV 0 l) 5000 ∧ wr = w1 := by
        have := A.out
        rwa [List.take_of_length_le (by rw [HL.out]; omega)] at this
      obtain ⟨hoc, rfl⟩ := hoc
      have HOC := Lib.hid hoc
      clear A hoc
      by_cases h4 : v ≤ 4095
      · have h4' : ¬ (4095 : Int) < (v : Int) := by omega
        go_wp2
        go_ret2
        refine ⟨?_, HB1.out⟩
        have : octV 0 l = v := by have := HOC.out; omega
        rw [HPF.out, this, if_pos h4]; rfl
      · have h4' : (4095 : Int) < (v : Int) := by omega
        go_wp2
        go_ret2
        refine ⟨?_, HB1.out⟩
        have : ¬ octV 0 l ≤ 4095 := by have := HOC.out; omega
        rw [HPF.out, if_neg this]; rfl
end Go.Proofs.YtalafhfpmkacgaaDoor
