/- The reference's ModeParse: all modes are tried. -/
import Derived.Test.YtalafhfpmkacgaaDoorRtx
import Derived.Test.YtalafhfpmkacgaaDoorPrs
namespace Go.Proofs.YtalafhfpmkacgaaDoor
open Go.RowKit Go.Joins
set_option linter.unusedVariables false
set_option linter.unusedSimpArgs false
set_option maxRecDepth 100000

/-- An answer of the reference: a number and an error's number. -/
def refOut (r : Nat × Nat) : Value := .tuple #[.int .i64 (r.2 : Int), .int .i64 (r.1 : Int)]
theorem parsR_hit (l : List UInt8) (i : Nat) (hi : i < 4096) (h : textL (Nat.testBit i) = l) : parsR l = (0, i) := by
  have hp := text_parse i hi l h
  unfold parsR
  rw [hp, if_pos h]
theorem parsR_miss (l : List UInt8) (h : ∀ j, j < 4096 → textL (Nat.testBit j) ≠ l) : parsR l = (3, 0) := by
  unfold parsR
  rw [if_neg (h _ (parseN_lt l))]
set_option maxHeartbeats 2000000 in
theorem refParse_any (l : List UInt8) (hl : l.length ≤ 1000000) (w : World) :
    Calls Tryd.prog 15 #[.string (mkS l)] w fun e w' => e = .returned (refOut (parsR l)) ∧ Below w.heap.size w w' := by
  have hz := mkS_size l
  have HT := Lib.hid (fun m w => rtext_any m w)
  by_cases h9 : l.length = 9
  · rw [h9] at hz
    have HL := Lib.hid h9
    obtain ⟨PF, hPF⟩ : ∃ x, parsR l = x := ⟨_, rfl⟩
    rw [hPF]
    have HPF := Lib.hid hPF
    clear hPF hl h9
    go_enter Tryd.func15, Tryd.ntmps15
    go_wp2
    go_loopg [8] 4096 (fun g s8 wr => ∃ i : Nat, i ≤ 4096 ∧ 4096 - i ≤ g ∧ s8 = .int .i64 i ∧ Aside ((∀ j, j < i → textL (Nat.testBit j) ≠ l) ∧ Below w.heap.size w wr))
    case atStart => exact ⟨0, by omega, by omega, rfl, fun j hj => by omega, Below.refl _ _⟩
    case round =>
      obtain ⟨i, hi, hg, rfl, A⟩ := hrel
      by_cases hin : i < 4096
      · have hin' : (i : Int) < 4096 := by omega
        have T := Lib.hid (fun w => HT.out (i : Int) w)
        rw [bitI_fun] at T
        have hq : ((mkS (textL (Nat.testBit i))).toList == (mkS l).toList) = decide (textL (Nat.testBit i) = l) := by
          rw [ByteArray.toList_eq, ByteArray.toList_eq, mkS_list, mkS_list, Bool.beq_eq_decide_eq]
        have HA := Lib.hid A.out
        clear A
        by_cases h : textL (Nat.testBit i) = l
        · rw [decide_eq_true h] at hq
          have HF := Lib.hid (show PF = (0, i) from by rw [← HPF.out]; exact parsR_hit l i hin h)
          clear h
          generalize textL (Nat.testBit i) = X at *
          go_wp2_with (go_at_call 14; with_reducible refine (T.out _).mono ?_; rintro e w1 ⟨rfl, hb⟩)
          go_ret2
          exact ⟨by rw [HF.out]; rfl, HA.out.2.trans (hb.mono HA.out.2.size)⟩
        · rw [decide_eq_false h] at hq
          have HN := Lib.hid (show ∀ j, j < i + 1 → textL (Nat.testBit j) ≠ l from fun j hj => by
            by_cases e : j = i
            · rw [e]; exact h
            · exact HA.out.1 j (by omega))
          clear h
          generalize textL (Nat.testBit i) = X at *
          go_wp2_with (go_at_call 14; with_reducible refine (T.out _).mono ?_; rintro e w1 ⟨rfl, hb⟩)
          go_roundg (4096 - (i + 1))
          case measure => omega
          case rel => exact ⟨i + 1, by omega, Nat.le_refl _, by first | rfl | simp, HN.out, HA.out.2.trans (hb.mono HA.out.2.size)⟩
      · obtain rfl : i = 4096 := by omega
        have HF := Lib.hid (show PF = (3, 0) ∧ Below w.heap.size w wr from ⟨by rw [← HPF.out]; exact parsR_miss l A.out.1, A.out.2⟩)
        clear A
        go_wp2
        go_ret2
        exact ⟨by rw [HF.out.1]; rfl, HF.out.2⟩
  · have hne : ((l.length : Int) == 9) = false := beq_eq_false_iff_ne.2 (by omega)
    have hp : parsR l = (3, 0) := by
      apply parsR_miss
      intro j _ h
      exact h9 (by rw [← h, textL_length])
    rw [hp]
    clear h9 hp
    go_enter Tryd.func15, Tryd.ntmps15
    go_wp2
    go_ret2
    exact ⟨rfl, Below.refl _ _⟩
end Go.Proofs.YtalafhfpmkacgaaDoor
