/- block.Fill, block.Zero and the reference's: what each returns; the law BlockWhole's walk. -/
import Derived.Test.YtananpcpkjohcaaDoorBuild
import Derived.Test.YtananpcpkjohcaaDoorBlind
namespace Go.Proofs.YtananpcpkjohcaaDoor
open Go.RowKit
set_option linter.unusedVariables false
set_option linter.unusedSimpArgs false

/-- A filled text. -/
def fillL (l : List UInt8) : List UInt8 := l ++ List.replicate (padF l.length).toNat 0
theorem padF_range (n : Int) : 0 ≤ padF n ∧ padF n ≤ 511 := by unfold padF; split <;> omega

theorem bytes_zero (l : List UInt8) (k : Nat) : Lib.byteCells (l ++ List.replicate k 0) ++ [Value.int .u8 0] = Lib.byteCells (l ++ List.replicate (k + 1) 0) := by
  unfold Lib.byteCells
  rw [List.replicate_succ', ← List.append_assoc, List.map_append (l₂ := [0])]
  rfl

set_option maxRecDepth 100000 in
set_option maxHeartbeats 2000000 in
theorem fill_any (l : List UInt8) (w : World) (hl : l.length ≤ 100000) :
    Calls Tryd.prog 34 #[.string (mkS l)] w fun e w' => e = .returned (.string (mkS (fillL l))) ∧ Below w.heap.size w w' := by
  obtain ⟨hp1, hp2⟩ := padF_range (l.length : Int)
  have hsz := mkS_size l
  obtain ⟨P, hP⟩ := Int.eq_ofNat_of_zero_le hp1
  have hP2 : P ≤ 511 := by omega
  have hfill : fillL l = l ++ List.replicate P 0 := by unfold fillL; rw [hP]; rfl
  have Hf := Lib.hid hfill
  have hbk : (w.alloc (.cells #[.pointer none, .slice none 0 0] 76)).heap[w.heap.size]? = some (.cells #[.pointer none, .slice none 0 0] 76 (0, 0)) := by
    show (w.heap.push _)[w.heap.size]? = _
    rw [Array.getElem?_push_size]
  have Hbk := Lib.hid hbk
  have hba : Below w.heap.size w (w.alloc (.cells #[.pointer none, .slice none 0 0] 76)) := (Below.refl _ _).alloc (Nat.le_refl _) _
  clear hbk hfill
  go_enter Tryd.func34, Tryd.ntmps34
  go_wp2_with (go_at_call 46; refine (pad_any _ _ (by omega)).mono ?_; rintro x w2 ⟨rfl, hw⟩; replace hw := hw.symm; subst hw)
  rw [show ((l.length : Int) + (P : Int)) = ((l.length + P : Nat) : Int) by omega]
  refine (bld_Grow w.heap.size w.heap.size (l.length + P) _ (Nat.le_refl _) Hbk.out (by have := hba.size; exact this) (by omega)).mono ?_; rintro x w1 ⟨rfl, hg1, hb1⟩
  have hb1' := hba.trans hb1
  clear hba hb1
  go_wp2_with fail
  refine (bld_WriteString w.heap.size w.heap.size [] (mkS l) _ (.inr hg1) (by rw [mkS_size]; simp only [List.length_nil]; omega) hb1'.size).mono ?_; rintro x w2 ⟨rfl, hg2, hb2⟩
  have hb2' := hb1'.trans hb2
  have hc2 : [] ++ Lib.strCells (mkS l) = Lib.byteCells (l ++ List.replicate 0 0) := by
    unfold Lib.strCells Lib.byteCells; rw [mkS_list]; simp
  rw [hc2] at hg2
  have Hg2 := Lib.hid hg2
  clear hg1 hg2 hb1' hb2 hc2
  go_wp2_with fail
  go_loopw [16] (fun i wr => ∃ k : Nat, k ≤ P ∧ i = .int .i64 (k : Int) ∧ Lib.BuilderAt 76 5 w.heap.size w.heap.size (.pointer (some ⟨w.heap.size, 0, none⟩)) (Lib.byteCells (l ++ List.replicate k 0)) wr ∧ Below w.heap.size w wr) (fun i _ => P - (intOf i).toNat)
  case atStart => exact ⟨0, by omega, rfl, Hg2.out, hb2'⟩
  case round =>
    obtain ⟨k, hk, rfl, hg, hb⟩ := hrel
    clear Hg2 hb2'
    have Hg := Lib.hid hg
    clear hg
    by_cases hlt : k < P
    · have hlt2 : (k : Int) < (P : Int) := by omega
      go_wp2_with (go_at_call 66; refine (bld_WriteByte w.heap.size w.heap.size _ 0 _ (.inr Hg.out) ?_ hb.size).mono ?_; (rw [Lib.byteCells_length]; simp; omega); rintro x w3 ⟨rfl, hg3, hb3⟩)
      rw [bytes_zero] at hg3
      go_roundw
      case rel => exact ⟨k + 1, by omega, by go_num, hg3, hb.trans hb3⟩
      case measure => simp [intOf]; omega
    · obtain rfl : k = P := by omega
      go_wp2_with (go_at_call 65; refine (bld_String w.heap.size w.heap.size _ _ (.inr Hg.out) hb.size).mono ?_; rintro x w3 ⟨rfl, hb3⟩)
      go_ret
      exact ⟨by rw [Hf.out]; rfl, hb.trans hb3⟩
end Go.Proofs.YtananpcpkjohcaaDoor
