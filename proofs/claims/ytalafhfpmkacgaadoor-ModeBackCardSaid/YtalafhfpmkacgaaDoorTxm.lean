/- mode.Text: nine letters. -/
import Derived.Test.YtalafhfpmkacgaaDoorHas
import Derived.Lib.SlBytesConst
import Derived.Deep.LoopGhost
import Derived.RangeFuncRecord
namespace Go.Proofs.YtalafhfpmkacgaaDoor
open Go.RowKit Go.Joins
set_option linter.unusedVariables false
set_option linter.unusedSimpArgs false
set_option maxRecDepth 100000

theorem below_alloc1 (w : World) (o : Obj) : Below w.heap.size w (w.alloc o) := (Below.refl _ w).alloc (Nat.le_refl _) o
theorem rwx_at (w : World) : bytesAt (w.alloc (.cells #[.int .u8 114, .int .u8 119, .int .u8 120, .int .u8 114, .int .u8 119, .int .u8 120, .int .u8 114, .int .u8 119, .int .u8 120] 5 (9, 10))) w.heap.size (rowB rwxN) := by
  intro j hj
  have hh := World.alloc_heap_new w (.cells #[.int .u8 114, .int .u8 119, .int .u8 120, .int .u8 114, .int .u8 119, .int .u8 120, .int .u8 114, .int .u8 119, .int .u8 120] 5 (9, 10))
  rw [rowB_length] at hj
  rw [row_rwx]
  obtain rfl | rfl | rfl | rfl | rfl | rfl | rfl | rfl | rfl : j = 0 ∨ j = 1 ∨ j = 2 ∨ j = 3 ∨ j = 4 ∨ j = 5 ∨ j = 6 ∨ j = 7 ∨ j = 8 := by omega
  all_goals (simp only [World.cell?, World.frozen?, hh]; exact ⟨rfl, rfl⟩)

set_option maxHeartbeats 2000000 in
theorem text_any (m : Int) (w : World) :
    Calls Tryd.prog 13 #[.int .i64 m] w fun e w' => e = .returned (.string (mkS (textL (bitI m)))) ∧ Below w.heap.size w w' := by
  have kc := fun (w : World) (C : Array Value) (n c : Nat) => Lib.run_convert_bytes_const (P := Tryd.prog) w 59 5 C n c Tryd.underlying59 Tryd.underlying5
  have H0 := Lib.hid (And.intro (rwx_at w) (below_alloc1 w (.cells #[.int .u8 114, .int .u8 119, .int .u8 120, .int .u8 114, .int .u8 119, .int .u8 120, .int .u8 114, .int .u8 119, .int .u8 120] 5 (9, 10))))
  have HC := Lib.hid (fun (k : Nat) (hk : k ≤ 11) w => has_any m k hk w)
  go_enter Tryd.func13, Tryd.ntmps13
  go_wp2
  go_loopg [11] 9 (fun g s11 wr => ∃ k : Nat, k ≤ 9 ∧ 9 - k ≤ g ∧ s11 = .int .i64 k ∧ Aside (bytesAt wr w.heap.size (rowB (oneN (bitI m) k)) ∧ Below w.heap.size w wr))
  case atStart => exact ⟨0, by omega, by omega, rfl, by rw [row_one_zero]; exact H0.out.1, H0.out.2⟩
  case round =>
    obtain ⟨k, hk, hg, rfl, A⟩ := hrel
    by_cases h9 : k < 9
    · have hi9 : (k : Int) < 9 := by omega
      obtain ⟨j, hj⟩ : ∃ j, 8 - k = j := ⟨_, rfl⟩
      have e8 : (8 : Int) - (k : Int) = (j : Int) := by omega
      have hj8 : j ≤ 11 := by omega
      have C := Lib.hid (fun w => HC.out j hj8 w)
      cases hbit : bitI m j
      · have hcell := (A.out.1 k (by rw [rowB_length]; exact h9)).1
        have hfroz := (A.out.1 k (by rw [rowB_length]; exact h9)).2
        rw [hbit] at C
        have HN := Lib.hid (show bytesAt (wr.setCell ⟨w.heap.size, k, none⟩ (.int .u8 45)) w.heap.size (rowB (oneN (bitI m) (k + 1))) ∧ Below w.heap.size w (wr.setCell ⟨w.heap.size, k, none⟩ (.int .u8 45)) from by
          rw [row_one_off _ k h9 (by rw [hj]; exact hbit)]
          exact ⟨bytesAt_set A.out.1 k 45 45 rfl (by rw [rowB_length]; exact h9), A.out.2.setCell (p := ⟨w.heap.size, k, none⟩) (Nat.le_refl _) (.int .u8 45)⟩)
        clear hj hbit kc
        go_wp2_with (go_at_call 32; with_reducible refine (C.out _).mono ?_; rintro e w' ⟨rfl, hw⟩; replace hw := hw.symm; subst hw)
        go_roundg (9 - (k + 1))
        case measure => omega
        case rel => exact ⟨k + 1, by omega, Nat.le_refl _, by first | rfl | simp, HN.out⟩
      · rw [hbit] at C
        have HN := Lib.hid (show bytesAt wr w.heap.size (rowB (oneN (bitI m) (k + 1))) ∧ Below w.heap.size w wr from by
          rw [row_one_on _ k (by rw [hj]; exact hbit)]
          exact A.out)
        clear hj hbit kc
        go_wp2_with (go_at_call 32; with_reducible refine (C.out _).mono ?_; rintro e w' ⟨rfl, hw⟩; replace hw := hw.symm; subst hw)
        go_roundg (9 - (k + 1))
        case measure => omega
        case rel => exact ⟨k + 1, by omega, Nat.le_refl _, by first | rfl | simp, HN.out⟩
    · obtain rfl : k = 9 := by omega
      have HA := Lib.hid A.out
      clear A hk hg h9
      go_wp2
      clear kc
      generalize wr = w1 at *
      go_loopg [23] 3 (fun g s23 wr => ∃ i : Nat, i ≤ 3 ∧ 3 - i ≤ g ∧ s23 = .int .i64 i ∧ Aside (bytesAt wr w.heap.size (rowB (twoN (bitI m) i)) ∧ Below w.heap.size w wr))
      case atStart => exact ⟨0, by omega, by omega, rfl, by rw [row_two_zero]; exact HA.out⟩
      case round =>
        obtain ⟨i, hi, hg, rfl, A⟩ := hrel
        by_cases h3 : i < 3
        · have hi3 : (i : Int) < 3 := by omega
          obtain ⟨j, hj⟩ : ∃ j, 11 - i = j := ⟨_, rfl⟩
          obtain ⟨p, hp⟩ : ∃ p, 3 * i + 2 = p := ⟨_, rfl⟩
          have e11 : (11 : Int) - (i : Int) = (j : Int) := by omega
          have e3 : (3 : Int) * (i : Int) + 2 = (p : Int) := by omega
          have hp9 : p < 9 := by omega
          have hp9' : (p : Int) < 9 := by omega
          have C := Lib.hid (fun w => HC.out j (by omega) w)
          have hcell := (A.out.1 p (by rw [rowB_length]; omega)).1
          have hfroz := (A.out.1 p (by rw [rowB_length]; omega)).2
          rw [rowB_at _ (by omega) (twoN_lt _ _ _)] at hcell
          have hval : twoN (bitI m) i p = baseN (bitI m) p := by unfold twoN; rw [if_neg (by omega)]
          rw [hval] at hcell
          have HS := Lib.hid (show ∀ v, letN (bitI m) p = v → v < 256 → bytesAt (wr.setCell ⟨w.heap.size, p, none⟩ (.int .u8 (v : Int))) w.heap.size (rowB (twoN (bitI m) (i + 1))) ∧ Below w.heap.size w (wr.setCell ⟨w.heap.size, p, none⟩ (.int .u8 (v : Int))) from fun v hv hlt => by
            subst hp
            rw [row_two_step _ i v h3 hv]
            exact ⟨bytesAt_set A.out.1 _ _ _ (by rw [UInt8.toNat_ofNat', Nat.mod_eq_of_lt hlt]) (by rw [rowB_length]; omega), A.out.2.setCell (p := ⟨w.heap.size, 3 * i + 2, none⟩) (Nat.le_refl _) _⟩)
          have HO := Lib.hid (show bitI m j = false → bytesAt wr w.heap.size (rowB (twoN (bitI m) (i + 1))) ∧ Below w.heap.size w wr from fun h => by
            rw [row_two_same _ i h3 (by rw [hj]; exact h)]; exact A.out)
          have hlet : ∀ hb : bitI m j = true, letN (bitI m) p = if bitI m (8 - p) = true then (if i = 2 then 116 else 115) else (if i = 2 then 84 else 83) := fun hb => by
            subst hp
            unfold letN
            rw [if_pos ⟨by omega, by rw [show (3 * i + 2) / 3 = i by omega, hj]; exact hb⟩]
            have : (3 * i + 2 = 8) = (i = 2) := by apply propext; omega
            simp only [this]
          have hbase : baseN (bitI m) p = if bitI m (8 - p) = true then 120 else 45 := by
            unfold baseN rwxN
            rw [if_neg (show ¬ p % 3 = 0 by omega), if_neg (show ¬ p % 3 = 1 by omega)]
          rw [hbase] at hcell
          have ix1 : ∀ w, (Instr.index 9 (.string { data := #[83, 83, 84] }) (.int .i64 (i : Int))).run Tryd.prog w = .ok (.int .u8 (((if i = 2 then 84 else 83 : Nat)) : Int)) w := by
            obtain rfl | rfl | rfl : i = 0 ∨ i = 1 ∨ i = 2 := by omega
            · exact mkS_index [83, 83, 84] 0 83 (by decide) rfl
            · exact mkS_index [83, 83, 84] 1 83 (by decide) rfl
            · exact mkS_index [83, 83, 84] 2 84 (by decide) rfl
          have ix2 : ∀ w, (Instr.index 9 (.string { data := #[115, 115, 116] }) (.int .i64 (i : Int))).run Tryd.prog w = .ok (.int .u8 (((if i = 2 then 116 else 115 : Nat)) : Int)) w := by
            obtain rfl | rfl | rfl : i = 0 ∨ i = 1 ∨ i = 2 := by omega
            · exact mkS_index [115, 115, 116] 0 115 (by decide) rfl
            · exact mkS_index [115, 115, 116] 1 115 (by decide) rfl
            · exact mkS_index [115, 115, 116] 2 116 (by decide) rfl
          have l1 : (if i = 2 then 84 else 83 : Nat) < 256 := by split <;> omega
          have l2 : (if i = 2 then 116 else 115 : Nat) < 256 := by split <;> omega
          clear A hval hbase HA
          generalize (if i = 2 then 84 else 83 : Nat) = v1 at *
          generalize (if i = 2 then 116 else 115 : Nat) = v2 at *
          cases hb : bitI m j
          · rw [hb] at C
            have HN := Lib.hid (HO.out hb)
            clear hb hlet hcell hfroz HS HO hj hp
            go_wp2_with (go_at_call 32; with_reducible refine (C.out _).mono ?_; rintro e w' ⟨rfl, hw⟩; replace hw := hw.symm; subst hw)
            go_roundg (3 - (i + 1))
            case measure => omega
            case rel => exact ⟨i + 1, by omega, Nat.le_refl _, by first | rfl | simp, HN.out⟩
          · rw [hb] at C
            have h2 := hlet hb
            cases hx : bitI m (8 - p)
            · rw [hx] at hcell h2
              have HN := Lib.hid (HS.out v1 h2 l1)
              have hc2 : wr.cell? ⟨w.heap.size, p, none⟩ = some (.int .u8 45) := hcell
              clear hb hlet hcell HS HO hj hp hx h2
              go_wp2_with (go_at_call 32; with_reducible refine (C.out _).mono ?_; rintro e w' ⟨rfl, hw⟩; replace hw := hw.symm; subst hw)
              go_roundg (3 - (i + 1))
              case measure => omega
              case rel => exact ⟨i + 1, by omega, Nat.le_refl _, by first | rfl | simp, HN.out⟩
            · rw [hx] at hcell h2
              have HN := Lib.hid (HS.out v2 h2 l2)
              have hc2 : wr.cell? ⟨w.heap.size, p, none⟩ = some (.int .u8 120) := hcell
              clear hb hlet hcell HS HO hj hp hx h2
              go_wp2_with (go_at_call 32; with_reducible refine (C.out _).mono ?_; rintro e w' ⟨rfl, hw⟩; replace hw := hw.symm; subst hw)
              go_roundg (3 - (i + 1))
              case measure => omega
              case rel => exact ⟨i + 1, by omega, Nat.le_refl _, by first | rfl | simp, HN.out⟩
        · obtain rfl : i = 3 := by omega
          have HE := Lib.hid A.out
          have hcv := bytesAt_conv HE.out.1 9 9 (rowB_length _)
          rw [row_two_end] at hcv
          clear A
          go_wp2
          go_ret
          exact ⟨rfl, HE.out.2⟩
end Go.Proofs.YtalafhfpmkacgaaDoor
