/- mode.whose, mode.allowed: masks of letters. -/
import Derived.Test.YtalafhfpmkacgaaDoorMm
import Derived.Deep.LoopGhost
namespace Go.Proofs.YtalafhfpmkacgaaDoor
open Go.RowKit Go.Joins
set_option linter.unusedVariables false
set_option linter.unusedSimpArgs false
set_option maxRecDepth 100000

theorem or_mask (m k : Nat) (hm : m < 4096) (hk : k < 4096) : bits .or .i64 (m : Int) (k : Int) = ((m ||| k : Nat) : Int) := i64_or_nat m k (by omega) (by omega)
theorem wm_none (c : Nat) (h1 : ¬ c = 117) (h2 : ¬ c = 103) (h3 : ¬ c = 111) (h4 : ¬ c = 97) : wm c = 0 := by unfold wm; rw [if_neg h1, if_neg h2, if_neg h3, if_neg h4]
theorem lm_none (r : Bool) (c : Nat) (h1 : ¬ c = 114) (h2 : ¬ c = 119) (h3 : ¬ c = 120) (h4 : ¬ c = 88) (h5 : ¬ c = 115) (h6 : ¬ c = 116) : lm r c = 0 := by
  unfold lm; rw [if_neg h1, if_neg h2, if_neg h3, if_neg h4, if_neg h5, if_neg h6]

set_option maxHeartbeats 2000000 in
theorem whose_any (l : List UInt8) (hl : l.length ≤ 1000000) (w : World) :
    Calls Tryd.prog 48 #[.string (mkS l)] w fun e w' => e = .returned (.int .i64 (whoM l : Int)) ∧ w' = w := by
  have hsz := mkS_size l
  by_cases h0 : l = []
  · subst h0
    have e0 := mkS_emp_nil
    clear hsz
    go_enter Tryd.func48, Tryd.ntmps48
    go_wp2
    go_ret
    exact ⟨rfl, rfl⟩
  · have e0 := mkS_emp l h0
    have HI := Lib.hid (fun (i : Nat) (c : UInt8) (h : l[i]? = some c) => mkS_index l (i : Int) c (by omega) (by simpa using h))
    have hw : whoM l = whoN l 0 := by unfold whoM; rw [if_neg h0]
    have HW := Lib.hid hw
    clear hw
    obtain ⟨n, hn⟩ : ∃ n, l.length = n := ⟨_, rfl⟩
    rw [hn] at hsz hl
    have HL := Lib.hid hn
    clear hn h0
    go_enter Tryd.func48, Tryd.ntmps48
    go_wp2
    go_loopg [3, 9] n (fun g s3 s9 wr => ∃ (i m : Nat), i ≤ n ∧ n - i ≤ g ∧ m < 4096 ∧ s3 = .int .i64 m ∧ s9 = .int .i64 i ∧ Aside (whoN (l.take i) 0 = m ∧ wr = w))
    case atStart => exact ⟨0, 0, by omega, by omega, by omega, rfl, rfl, rfl, rfl⟩
    case round =>
      obtain ⟨i, m, hi, hg, hm, rfl, rfl, A⟩ := hrel
      by_cases hin : i < n
      · have hin' : (i : Int) < (n : Int) := by omega
        obtain ⟨c, hc⟩ : ∃ c, l[i]? = some c := ⟨_, List.getElem?_eq_getElem (by rw [HL.out]; exact hin)⟩
        have ix := HI.out i c hc
        have HN := Lib.hid (show whoN (l.take (i + 1)) 0 = m ||| wm c.toNat ∧ wr = w from ⟨by rw [List.take_add_one, hc]; show whoN (l.take i ++ [c]) 0 = _; rw [whoN_snoc, A.out.1], A.out.2⟩)
        have o1 : bits .or .i64 (m : Int) 2496 = ((m ||| 2496 : Nat) : Int) := or_mask m 2496 hm (by omega)
        have b1 := or_lt m 2496 hm (by omega)
        obtain ⟨m1, d1⟩ : ∃ x, m ||| 2496 = x := ⟨_, rfl⟩
        rw [d1] at o1 b1
        have D1 := Lib.hid d1
        clear d1
        have o2 : bits .or .i64 (m : Int) 1080 = ((m ||| 1080 : Nat) : Int) := or_mask m 1080 hm (by omega)
        have b2 := or_lt m 1080 hm (by omega)
        obtain ⟨m2, d2⟩ : ∃ x, m ||| 1080 = x := ⟨_, rfl⟩
        rw [d2] at o2 b2
        have D2 := Lib.hid d2
        clear d2
        have o3 : bits .or .i64 (m : Int) 519 = ((m ||| 519 : Nat) : Int) := or_mask m 519 hm (by omega)
        have b3 := or_lt m 519 hm (by omega)
        obtain ⟨m3, d3⟩ : ∃ x, m ||| 519 = x := ⟨_, rfl⟩
        rw [d3] at o3 b3
        have D3 := Lib.hid d3
        clear d3
        have o4 : bits .or .i64 (m : Int) 4095 = ((m ||| 4095 : Nat) : Int) := or_mask m 4095 hm (by omega)
        have b4 := or_lt m 4095 hm (by omega)
        obtain ⟨m4, d4⟩ : ∃ x, m ||| 4095 = x := ⟨_, rfl⟩
        rw [d4] at o4 b4
        have D4 := Lib.hid d4
        clear d4
        clear A hc
        obtain h | h | h | h | ⟨h1, h2, h3, h4⟩ : c.toNat = 117 ∨ c.toNat = 103 ∨ c.toNat = 111 ∨ c.toNat = 97 ∨ (¬ c.toNat = 117 ∧ ¬ c.toNat = 103 ∧ ¬ c.toNat = 111 ∧ ¬ c.toNat = 97) := by omega
        · rw [h] at ix HN
          have HM := Lib.hid (show whoN (l.take (i + 1)) 0 = m1 ∧ wr = w from ⟨HN.out.1.trans D1.out, HN.out.2⟩)
          clear h HN
          go_wp2
          go_roundg (n - (i + 1))
          case measure => omega
          case rel => exact ⟨i + 1, m1, by omega, Nat.le_refl _, b1, by first | rfl | simp, by first | rfl | simp, HM.out⟩
        · rw [h] at ix HN
          have HM := Lib.hid (show whoN (l.take (i + 1)) 0 = m2 ∧ wr = w from ⟨HN.out.1.trans D2.out, HN.out.2⟩)
          clear h HN
          go_wp2
          go_roundg (n - (i + 1))
          case measure => omega
          case rel => exact ⟨i + 1, m2, by omega, Nat.le_refl _, b2, by first | rfl | simp, by first | rfl | simp, HM.out⟩
        · rw [h] at ix HN
          have HM := Lib.hid (show whoN (l.take (i + 1)) 0 = m3 ∧ wr = w from ⟨HN.out.1.trans D3.out, HN.out.2⟩)
          clear h HN
          go_wp2
          go_roundg (n - (i + 1))
          case measure => omega
          case rel => exact ⟨i + 1, m3, by omega, Nat.le_refl _, b3, by first | rfl | simp, by first | rfl | simp, HM.out⟩
        · rw [h] at ix HN
          have HM := Lib.hid (show whoN (l.take (i + 1)) 0 = m4 ∧ wr = w from ⟨HN.out.1.trans D4.out, HN.out.2⟩)
          clear h HN
          go_wp2
          go_roundg (n - (i + 1))
          case measure => omega
          case rel => exact ⟨i + 1, m4, by omega, Nat.le_refl _, b4, by first | rfl | simp, by first | rfl | simp, HM.out⟩
        · have HM := Lib.hid (show whoN (l.take (i + 1)) 0 = m ∧ wr = w from ⟨by rw [HN.out.1, wm_none _ h1 h2 h3 h4, Nat.or_zero], HN.out.2⟩)
          obtain ⟨x, hx⟩ : ∃ x : Int, (c.toNat : Int) = x := ⟨_, rfl⟩
          have g1 : ¬ x = 117 := by omega
          have g2 : ¬ x = 103 := by omega
          have g3 : ¬ x = 111 := by omega
          have g4 : ¬ x = 97 := by omega
          rw [hx] at ix
          clear h1 h2 h3 h4 HN hx
          go_wp2
          go_roundg (n - (i + 1))
          case measure => omega
          case rel => exact ⟨i + 1, m, by omega, Nat.le_refl _, hm, by first | rfl | simp, by first | rfl | simp, HM.out⟩
      · have hil : ¬ (i : Int) < (n : Int) := by omega
        have HE := Lib.hid (show Ending.returned (.int .i64 (m : Int)) = Ending.returned (.int .i64 (whoM l : Int)) ∧ wr = w from by
          refine ⟨?_, A.out.2⟩
          rw [HW.out, ← A.out.1, List.take_of_length_le (by rw [HL.out]; omega)])
        clear A
        go_wp2
        go_ret
        exact HE.out

set_option maxHeartbeats 4000000 in
theorem allowed_any (l : List UInt8) (r : Bool) (hl : l.length ≤ 1000000) (w : World) :
    Calls Tryd.prog 50 #[.string (mkS l), .bool r] w fun e w' => e = .returned (.int .i64 (letM r l 0 : Int)) ∧ w' = w := by
  have hsz := mkS_size l
  have HI := Lib.hid (fun (i : Nat) (c : UInt8) (h : l[i]? = some c) => mkS_index l (i : Int) c (by omega) (by simpa using h))
  obtain ⟨n, hn⟩ : ∃ n, l.length = n := ⟨_, rfl⟩
  rw [hn] at hsz hl
  have HL := Lib.hid hn
  clear hn
  go_enter Tryd.func50, Tryd.ntmps50
  go_wp2
  go_loopg [5, 9] n (fun g s5 s9 wr => ∃ (i m : Nat), i ≤ n ∧ n - i ≤ g ∧ m < 4096 ∧ s5 = .int .i64 m ∧ s9 = .int .i64 i ∧ Aside (letM r (l.take i) 0 = m ∧ wr = w))
  case atStart => exact ⟨0, 0, by omega, by omega, by omega, rfl, rfl, rfl, rfl⟩
  case round =>
    obtain ⟨i, m, hi, hg, hm, rfl, rfl, A⟩ := hrel
    by_cases hin : i < n
    · have hin' : (i : Int) < (n : Int) := by omega
      obtain ⟨c, hc⟩ : ∃ c, l[i]? = some c := ⟨_, List.getElem?_eq_getElem (by rw [HL.out]; exact hin)⟩
      have ix := HI.out i c hc
      have HN := Lib.hid (show letM r (l.take (i + 1)) 0 = m ||| lm r c.toNat ∧ wr = w from ⟨by rw [List.take_add_one, hc]; show letM r (l.take i ++ [c]) 0 = _; rw [letM_snoc, A.out.1], A.out.2⟩)
      have o1 : bits .or .i64 (m : Int) 292 = ((m ||| 292 : Nat) : Int) := or_mask m 292 hm (by omega)
      have b1 := or_lt m 292 hm (by omega)
      obtain ⟨m1, d1⟩ : ∃ x, m ||| 292 = x := ⟨_, rfl⟩
      rw [d1] at o1 b1
      have D1 := Lib.hid d1
      clear d1
      have o2 : bits .or .i64 (m : Int) 146 = ((m ||| 146 : Nat) : Int) := or_mask m 146 hm (by omega)
      have b2 := or_lt m 146 hm (by omega)
      obtain ⟨m2, d2⟩ : ∃ x, m ||| 146 = x := ⟨_, rfl⟩
      rw [d2] at o2 b2
      have D2 := Lib.hid d2
      clear d2
      have o3 : bits .or .i64 (m : Int) 73 = ((m ||| 73 : Nat) : Int) := or_mask m 73 hm (by omega)
      have b3 := or_lt m 73 hm (by omega)
      obtain ⟨m3, d3⟩ : ∃ x, m ||| 73 = x := ⟨_, rfl⟩
      rw [d3] at o3 b3
      have D3 := Lib.hid d3
      clear d3
      have o4 : bits .or .i64 (m : Int) 3072 = ((m ||| 3072 : Nat) : Int) := or_mask m 3072 hm (by omega)
      have b4 := or_lt m 3072 hm (by omega)
      obtain ⟨m4, d4⟩ : ∃ x, m ||| 3072 = x := ⟨_, rfl⟩
      rw [d4] at o4 b4
      have D4 := Lib.hid d4
      clear d4
      have o5 : bits .or .i64 (m : Int) 512 = ((m ||| 512 : Nat) : Int) := or_mask m 512 hm (by omega)
      have b5 := or_lt m 512 hm (by omega)
      obtain ⟨m5, d5⟩ : ∃ x, m ||| 512 = x := ⟨_, rfl⟩
      rw [d5] at o5 b5
      have D5 := Lib.hid d5
      clear d5
      clear A hc
      obtain h | h | h | h | h | h | ⟨h1, h2, h3, h4, h5, h6⟩ : c.toNat = 114 ∨ c.toNat = 119 ∨ c.toNat = 120 ∨ c.toNat = 115 ∨ c.toNat = 116 ∨ c.toNat = 88 ∨ (¬ c.toNat = 114 ∧ ¬ c.toNat = 119 ∧ ¬ c.toNat = 120 ∧ ¬ c.toNat = 88 ∧ ¬ c.toNat = 115 ∧ ¬ c.toNat = 116) := by omega
      · rw [h] at ix HN
        have HM := Lib.hid (show letM r (l.take (i + 1)) 0 = m1 ∧ wr = w from ⟨HN.out.1.trans D1.out, HN.out.2⟩)
        clear h HN
        go_wp2
        go_roundg (n - (i + 1))
        case measure => omega
        case rel => exact ⟨i + 1, m1, by omega, Nat.le_refl _, b1, by first | rfl | simp, by first | rfl | simp, HM.out⟩
      · rw [h] at ix HN
        have HM := Lib.hid (show letM r (l.take (i + 1)) 0 = m2 ∧ wr = w from ⟨HN.out.1.trans D2.out, HN.out.2⟩)
        clear h HN
        go_wp2
        go_roundg (n - (i + 1))
        case measure => omega
        case rel => exact ⟨i + 1, m2, by omega, Nat.le_refl _, b2, by first | rfl | simp, by first | rfl | simp, HM.out⟩
      · rw [h] at ix HN
        have HM := Lib.hid (show letM r (l.take (i + 1)) 0 = m3 ∧ wr = w from ⟨HN.out.1.trans D3.out, HN.out.2⟩)
        clear h HN
        go_wp2
        go_roundg (n - (i + 1))
        case measure => omega
        case rel => exact ⟨i + 1, m3, by omega, Nat.le_refl _, b3, by first | rfl | simp, by first | rfl | simp, HM.out⟩
      · rw [h] at ix HN
        have HM := Lib.hid (show letM r (l.take (i + 1)) 0 = m4 ∧ wr = w from ⟨HN.out.1.trans D4.out, HN.out.2⟩)
        clear h HN
        go_wp2
        go_roundg (n - (i + 1))
        case measure => omega
        case rel => exact ⟨i + 1, m4, by omega, Nat.le_refl _, b4, by first | rfl | simp, by first | rfl | simp, HM.out⟩
      · rw [h] at ix HN
        have HM := Lib.hid (show letM r (l.take (i + 1)) 0 = m5 ∧ wr = w from ⟨HN.out.1.trans D5.out, HN.out.2⟩)
        clear h HN
        go_wp2
        go_roundg (n - (i + 1))
        case measure => omega
        case rel => exact ⟨i + 1, m5, by omega, Nat.le_refl _, b5, by first | rfl | simp, by first | rfl | simp, HM.out⟩
      · rw [h] at ix HN
        clear h
        cases r with
        | true =>
          have HM := Lib.hid (show letM true (l.take (i + 1)) 0 = m3 ∧ wr = w from ⟨HN.out.1.trans D3.out, HN.out.2⟩)
          clear HN
          go_wp2
          go_roundg (n - (i + 1))
          case measure => omega
          case rel => exact ⟨i + 1, m3, by omega, Nat.le_refl _, b3, by first | rfl | simp, by first | rfl | simp, HM.out⟩
        | false =>
          have HM := Lib.hid (show letM false (l.take (i + 1)) 0 = m ∧ wr = w from ⟨HN.out.1.trans (Nat.or_zero m), HN.out.2⟩)
          clear HN
          go_wp2
          go_roundg (n - (i + 1))
          case measure => omega
          case rel => exact ⟨i + 1, m, by omega, Nat.le_refl _, hm, by first | rfl | simp, by first | rfl | simp, HM.out⟩
      · have HM := Lib.hid (show letM r (l.take (i + 1)) 0 = m ∧ wr = w from ⟨by rw [HN.out.1, lm_none _ _ h1 h2 h3 h4 h5 h6, Nat.or_zero], HN.out.2⟩)
        obtain ⟨x, hx⟩ : ∃ x : Int, (c.toNat : Int) = x := ⟨_, rfl⟩
        have g1 : ¬ x = 114 := by omega
        have g2 : ¬ x = 119 := by omega
        have g3 : ¬ x = 120 := by omega
        have g4 : ¬ x = 88 := by omega
        have g5 : ¬ x = 115 := by omega
        have g6 : ¬ x = 116 := by omega
        rw [hx] at ix
        clear h1 h2 h3 h4 h5 h6 HN hx
        go_wp2
        go_roundg (n - (i + 1))
        case measure => omega
        case rel => exact ⟨i + 1, m, by omega, Nat.le_refl _, hm, by first | rfl | simp, by first | rfl | simp, HM.out⟩
    · have hil : ¬ (i : Int) < (n : Int) := by omega
      have HE := Lib.hid (show Ending.returned (.int .i64 (m : Int)) = Ending.returned (.int .i64 (letM r l 0 : Int)) ∧ wr = w from by
        refine ⟨?_, A.out.2⟩
        rw [← A.out.1, List.take_of_length_le (by rw [HL.out]; omega)])
      clear A
      go_wp2
      go_ret
      exact HE.out
end Go.Proofs.YtalafhfpmkacgaaDoor
