/- The reference's MapFind. -/
import Derived.Test.YtpkledmpldnhiaaDoorFnd
import Derived.Test.YtpkledmpldnhiaaDoorTrz
import Derived.Test.YtpkledmpldnhiaaDoorTak
namespace Go.Proofs.YtpkledmpldnhiaaDoor
open Go.RowKit Go.Joins
set_option linter.unusedVariables false

set_option maxHeartbeats 2000000 in
theorem mfind_bad (s : List UInt8) (k : Int) (hk : k < 1) (w : World) :
    Calls Tryd.prog 7 #[.string (mkS s), .int .i64 k] w fun e w' => e = .returned (.tuple #[.slice none 0 0, .int .i64 1]) ∧ w' = w := by
  go_enter Tryd.func7, Tryd.ntmps7
  go_wp2
  go_ret2
  exact ⟨rfl, rfl⟩
/-- Is the block of this place to be taken, as the reference asks? -/
theorem block_cut (s : List UInt8) (k i : Nat) : (s.drop (i / k * k)).take (min k (s.length - i / k * k)) = (s.drop (i / k * k)).take k := by
  have : (s.drop (i / k * k)).length = s.length - i / k * k := List.length_drop
  rcases Nat.le_total k (s.length - i / k * k) with h | h
  · rw [Nat.min_eq_left h]
  · rw [Nat.min_eq_right h, List.take_of_length_le (by omega), List.take_of_length_le (by omega)]

theorem runs_len (f : Nat → Bool) : ∀ i, (runs f i).length ≤ i
  | 0 => Nat.le_refl _
  | i + 1 => by
    have := runs_len f i
    rw [runs]
    split
    · split
      · rw [bump_length]; omega
      · rw [List.length_append]; simp; omega
    · omega
set_option maxHeartbeats 2000000 in
theorem mfind_any (s : List UInt8) (k : Nat) (hs : s.length ≤ 1000) (hk : 0 < k) (hk2 : k ≤ 9223372036854775807) (w : World) :
    Calls Tryd.prog 7 #[.string (mkS s), .int .i64 k] w fun e w' =>
      (((findF s k).length ≤ 20 ∧ ∃ ad cap, e = .returned (.tuple #[.slice ad (findF s k).length cap, .int .i64 0]) ∧ PiecesAt w' ad (findF s k)) ∨
       (20 < (findF s k).length ∧ e = .returned (.tuple #[.slice none 0 0, .int .i64 4]))) ∧ Below w.heap.size w w' := by
  have hz := mkS_size s
  go_enter Tryd.func7, Tryd.ntmps7
  go_wp2
  go_loopg [6, 7, 15] s.length (fun g s6 s7 s15 wr => ∃ (i : Nat) (L : List Pc) (ad : Option Addr) (cap : Nat) (was : Bool), i ≤ s.length ∧ s.length - i ≤ g ∧ s6 = .slice ad L.length cap ∧ s7 = .bool was ∧ s15 = .int .i64 i ∧ Aside (Below w.heap.size w wr ∧ wr.ownsRow w.heap.size 47 2 (.slice ad L.length cap) L.length (pcCells L) ∧ L = runs (onB s k) i ∧ was = prevB (onB s k) i))
  case atStart => exact ⟨0, [], none, 0, false, by omega, by omega, rfl, rfl, rfl, (show Aside _ from ⟨Below.refl _ _, World.ownsRow_nil _ _ _ _, rfl, rfl⟩)⟩
  case round =>
    obtain ⟨i, L, ad, cap, was, hi, hg, rfl, rfl, rfl, A⟩ := hrel
    have HL := Lib.hid A.out.2.2.1
    have hLl : L.length ≤ 1000 := by rw [HL.out]; have := runs_len (onB s k) i; omega
    by_cases hil : i < s.length
    · have hdm := block_div (i := i) hk
      have hblk0 := block_cut s k i
      obtain ⟨q, hq1, hq2⟩ : ∃ q : Nat, (i : Int) / (k : Int) = (q : Int) ∧ i / k = q := ⟨i / k, by rw [Int.natCast_ediv], rfl⟩
      have hqb : q ≤ 1000 := by have := Nat.div_le_self i k; omega
      have hon0 : ((s.drop (i / k * k)).take k).any (· != 0) = onB s k i := rfl
      rw [hq2] at hdm hblk0 hon0
      have hmul : (q : Int) * (k : Int) = ((q * k : Nat) : Int) := by rw [Int.natCast_mul]
      generalize q * k = a at hdm hblk0 hon0 hmul
      have ha1 : a ≤ i := hdm.1
      by_cases h5 : (k : Int) ≤ (s.length : Int) - (a : Int)
      · have hm : min k (s.length - a) = k := by omega
        have hsz : a + k ≤ s.length := by omega
        have hblk : ((s.drop a).take k).any (· != 0) = onB s k i := hon0
        have hmin : min (k : Int) ((s.length : Int) - (a : Int)) = (k : Int) := by omega
        clear hm hblk0 hon0 hdm hq2
        have hmid : ∀ W, (Instr.slice 9 (.string (mkS s)) (some (.int .i64 (a : Int))) (some (.int .i64 ((a : Int) + (k : Int)))) none).run Tryd.prog W = .ok (.string (mkS ((s.drop a).take k))) W := fun W => by
          have h := mkS_mid s a (a + k) (by omega) hsz W
          rw [show a + k - a = k by omega] at h
          exact h
        obtain ⟨T, hT, TR⟩ := trimZ_any ((s.drop a).take k) (by rw [List.length_take]; omega)
        rw [hblk] at hT
        have TR := Lib.hid TR
        generalize mkS ((s.drop a).take k) = Y at hmid TR
        cases hon : onB s k i with
        | false =>
          have hTe : T = [] := hT.2 hon
          subst hTe
          have hemp := mkS_emp_nil
          have HN := Lib.hid (show L = runs (onB s k) (i + 1) by rw [runs, hon, if_neg (by simp), HL.out])
          have HO := Lib.hid (show false = prevB (onB s k) (i + 1) by rw [prevB]; exact hon.symm)
          have HA := Lib.hid A.out
          clear A hT hon hblk
          generalize mkS [] = Z at TR hemp
          go_wp2_with (go_at_call 20; with_reducible refine (TR.out _).mono ?_; rintro e w1 ⟨rfl, hb1⟩; have B1 := Lib.hid hb1; clear hb1)
          go_roundg (s.length - (i + 1))
          case measure => omega
          case rel => exact ⟨i + 1, L, ad, cap, false, by omega, by omega, rfl, by first | rfl | simp, by first | rfl | simp, (show Aside _ from ⟨HA.out.1.trans (B1.out.mono HA.out.1.size), own_below HA.out.2.1 B1.out, HN.out, HO.out⟩)⟩
        | true =>
          have hTe : T ≠ [] := fun h => by rw [hT.1 h] at hon; cases hon
          have hemp := mkS_emp T hTe
          have HO := Lib.hid (show true = prevB (onB s k) (i + 1) by rw [prevB]; exact hon.symm)
          generalize mkS T = Z at TR hemp
          cases was with
          | true =>
            have hpv := A.out.2.2.2.symm
            obtain ⟨m, p, hLm, hpe⟩ := (runs_end (onB s k) i).1 hpv
            have HN := Lib.hid (show bump L 1 = runs (onB s k) (i + 1) by rw [runs, hon, if_pos rfl, hpv, if_pos rfl, HL.out])
            rw [← HL.out] at hLm
            have hri := runs_right (onB s k) i s.length (by omega)
            rw [← HL.out, hLm, rightF_snoc] at hri
            have hp0 := (rightF_end _ _ hri.1).1
            have hp2 : 0 ≤ p.2 ∧ p.2 ≤ 1000 := by omega
            have hl2 : (L.length : Int) - 1 = (m.length : Int) := by rw [hLm]; simp
            have hl3 : m.length < L.length := by rw [hLm]; simp
            have hl4 : m.length ≤ 1000 := by omega
            have hbb := bump_length L 1
            have HA := Lib.hid A.out
            have HLC := Lib.hid (fun W (h : W.ownsRow w.heap.size 47 2 (.slice ad L.length cap) L.length (pcCells L)) => last_cells (W := W) (m := m) (p := p) (n := L.length) (by rw [hLm]) (by rw [← hLm]; exact h))
            rw [← hLm] at HLC
            clear A hri hLm hT hon hblk hpv hpe hp0
            go_wp2_with (go_at_call 20; with_reducible refine (TR.out _).mono ?_; rintro e w1 ⟨rfl, hb1⟩; have B1 := Lib.hid hb1; clear hb1; obtain ⟨G, hG, hGb, k1, k2, k3⟩ := HLC.out w1 (own_below HA.out.2.1 B1.out); subst hG; have K3 := Lib.hid (k3 1); clear k3)
            go_roundg (s.length - (i + 1))
            case measure => omega
            case rel => exact ⟨i + 1, bump L 1, _, cap, true, by omega, by omega, by rw [hbb], by first | rfl | simp, by first | rfl | simp, (show Aside _ from ⟨(HA.out.1.trans (B1.out.mono HA.out.1.size)).setCell (p := ⟨G, m.length * 2 + 1, none⟩) hGb _, by rw [hbb]; exact K3.out, HN.out, HO.out⟩)⟩
          | false =>
            have hpv := A.out.2.2.2.symm
            have HN := Lib.hid (show L ++ [((i : Int), 1)] = runs (onB s k) (i + 1) by rw [runs, hon, if_pos rfl, hpv, if_neg (by simp), HL.out])
            have HA := Lib.hid A.out
            clear A hT hon hblk hpv
            obtain ⟨i0, hi0, hz0, hz1, hz2⟩ := info_parts Tryd.infoPiece
            go_wp2_with (first
              | (go_at_call 20; with_reducible refine (TR.out _).mono ?_; rintro e w1 ⟨rfl, hb1⟩; have B1 := Lib.hid hb1; clear hb1; have O1 := Lib.hid (own_below HA.out.2.1 B1.out))
              | (at_builtin; refine wpList_append_own _ rfl _ _ 22 rfl w.heap.size 47 i0 (.agg #[.int .i64 0, .int .i64 0]) 2 16 Tryd.underlying22 hi0 hz0 hz1 hz2 rfl (by decide) _ _ _ rfl (O1.out.alloc _) ⟨w1.heap.size, 0, none⟩ 1 1 [.int .i64 (i : Int), .int .i64 0] rfl rfl (cell_two w1 47 (.int .i64 (i : Int)) (.int .i64 0)) (by simp [Value.oneCell']) (by unfold maxLen; omega) (by omega) (by simp; have := HA.out.1.size; have := B1.out.size; omega) ?_; intro v' w4 hown' hgrow _; have B4 := Lib.hid (below_grown ((HA.out.1.trans (B1.out.mono HA.out.1.size)).alloc (HA.out.1.trans (B1.out.mono HA.out.1.size)).size (.cells #[.int .i64 (i : Int), .int .i64 0] 47)) (O1.out.alloc _) (Nat.le_refl _) hgrow); obtain ⟨ad', cap', rfl⟩ := row_shape hown'; obtain ⟨G, hG, hGb, k1, k2, k3⟩ := last_cells (m := L) (p := ((i : Int), 0)) (n := L.length + 1) (by simp) (by rw [pcCells_snoc]; exact hown'); subst hG; have K3 := Lib.hid (k3 1); clear k3 hown' hgrow))
            have K4 := Lib.hid (show (w4.setCell ⟨G, L.length * 2 + 1, none⟩ (.int .i64 1)).ownsRow w.heap.size 47 2 (.slice (some ⟨G, 0, none⟩) (L ++ [((i : Int), 1)]).length cap') (L ++ [((i : Int), 1)]).length (pcCells (L ++ [((i : Int), 1)])) from by
              have h := K3.out
              rw [bump_snoc] at h
              rw [List.length_append]
              exact h)
            go_roundg (s.length - (i + 1))
            case measure => omega
            case rel => exact ⟨i + 1, L ++ [((i : Int), 1)], _, cap', true, by omega, by omega, by rw [List.length_append]; rfl, by first | rfl | simp, by first | rfl | simp, (show Aside _ from ⟨B4.out.setCell (p := ⟨G, L.length * 2 + 1, none⟩) hGb _, K4.out, HN.out, HO.out⟩)⟩
      · have hm : min k (s.length - a) = s.length - a := by omega
        rw [hm] at hblk0
        have hsz : a + (s.length - a) ≤ s.length := by omega
        have hszz : (s.length : Int) - (a : Int) = ((s.length - a : Nat) : Int) := by omega
        have hblk : ((s.drop a).take (s.length - a)).any (· != 0) = onB s k i := by rw [hblk0]; exact hon0
        have h5' : ((s.length - a : Nat) : Int) < (k : Int) := by omega
        clear hm hblk0 hon0 hdm hq2
        generalize s.length - a = sz at hsz hszz hblk h5'
        have hmin : min (k : Int) (sz : Int) = (sz : Int) := by omega
        clear h5
        have hmid : ∀ W, (Instr.slice 9 (.string (mkS s)) (some (.int .i64 (a : Int))) (some (.int .i64 ((a : Int) + (sz : Int)))) none).run Tryd.prog W = .ok (.string (mkS ((s.drop a).take sz))) W := fun W => by
          have h := mkS_mid s a (a + sz) (by omega) hsz W
          rw [show a + sz - a = sz by omega] at h
          exact h
        obtain ⟨T, hT, TR⟩ := trimZ_any ((s.drop a).take sz) (by rw [List.length_take]; omega)
        rw [hblk] at hT
        have TR := Lib.hid TR
        generalize mkS ((s.drop a).take sz) = Y at hmid TR
        cases hon : onB s k i with
        | false =>
          have hTe : T = [] := hT.2 hon
          subst hTe
          have hemp := mkS_emp_nil
          have HN := Lib.hid (show L = runs (onB s k) (i + 1) by rw [runs, hon, if_neg (by simp), HL.out])
          have HO := Lib.hid (show false = prevB (onB s k) (i + 1) by rw [prevB]; exact hon.symm)
          have HA := Lib.hid A.out
          clear A hT hon hblk
          generalize mkS [] = Z at TR hemp
          go_wp2_with (go_at_call 20; with_reducible refine (TR.out _).mono ?_; rintro e w1 ⟨rfl, hb1⟩; have B1 := Lib.hid hb1; clear hb1)
          go_roundg (s.length - (i + 1))
          case measure => omega
          case rel => exact ⟨i + 1, L, ad, cap, false, by omega, by omega, rfl, by first | rfl | simp, by first | rfl | simp, (show Aside _ from ⟨HA.out.1.trans (B1.out.mono HA.out.1.size), own_below HA.out.2.1 B1.out, HN.out, HO.out⟩)⟩
        | true =>
          have hTe : T ≠ [] := fun h => by rw [hT.1 h] at hon; cases hon
          have hemp := mkS_emp T hTe
          have HO := Lib.hid (show true = prevB (onB s k) (i + 1) by rw [prevB]; exact hon.symm)
          generalize mkS T = Z at TR hemp
          cases was with
          | true =>
            have hpv := A.out.2.2.2.symm
            obtain ⟨m, p, hLm, hpe⟩ := (runs_end (onB s k) i).1 hpv
            have HN := Lib.hid (show bump L 1 = runs (onB s k) (i + 1) by rw [runs, hon, if_pos rfl, hpv, if_pos rfl, HL.out])
            rw [← HL.out] at hLm
            have hri := runs_right (onB s k) i s.length (by omega)
            rw [← HL.out, hLm, rightF_snoc] at hri
            have hp0 := (rightF_end _ _ hri.1).1
            have hp2 : 0 ≤ p.2 ∧ p.2 ≤ 1000 := by omega
            have hl2 : (L.length : Int) - 1 = (m.length : Int) := by rw [hLm]; simp
            have hl3 : m.length < L.length := by rw [hLm]; simp
            have hl4 : m.length ≤ 1000 := by omega
            have hbb := bump_length L 1
            have HA := Lib.hid A.out
            have HLC := Lib.hid (fun W (h : W.ownsRow w.heap.size 47 2 (.slice ad L.length cap) L.length (pcCells L)) => last_cells (W := W) (m := m) (p := p) (n := L.length) (by rw [hLm]) (by rw [← hLm]; exact h))
            rw [← hLm] at HLC
            clear A hri hLm hT hon hblk hpv hpe hp0
            go_wp2_with (go_at_call 20; with_reducible refine (TR.out _).mono ?_; rintro e w1 ⟨rfl, hb1⟩; have B1 := Lib.hid hb1; clear hb1; obtain ⟨G, hG, hGb, k1, k2, k3⟩ := HLC.out w1 (own_below HA.out.2.1 B1.out); subst hG; have K3 := Lib.hid (k3 1); clear k3)
            go_roundg (s.length - (i + 1))
            case measure => omega
            case rel => exact ⟨i + 1, bump L 1, _, cap, true, by omega, by omega, by rw [hbb], by first | rfl | simp, by first | rfl | simp, (show Aside _ from ⟨(HA.out.1.trans (B1.out.mono HA.out.1.size)).setCell (p := ⟨G, m.length * 2 + 1, none⟩) hGb _, by rw [hbb]; exact K3.out, HN.out, HO.out⟩)⟩
          | false =>
            have hpv := A.out.2.2.2.symm
            have HN := Lib.hid (show L ++ [((i : Int), 1)] = runs (onB s k) (i + 1) by rw [runs, hon, if_pos rfl, hpv, if_neg (by simp), HL.out])
            have HA := Lib.hid A.out
            clear A hT hon hblk hpv
            obtain ⟨i0, hi0, hz0, hz1, hz2⟩ := info_parts Tryd.infoPiece
            go_wp2_with (first
              | (go_at_call 20; with_reducible refine (TR.out _).mono ?_; rintro e w1 ⟨rfl, hb1⟩; have B1 := Lib.hid hb1; clear hb1; have O1 := Lib.hid (own_below HA.out.2.1 B1.out))
              | (at_builtin; refine wpList_append_own _ rfl _ _ 22 rfl w.heap.size 47 i0 (.agg #[.int .i64 0, .int .i64 0]) 2 16 Tryd.underlying22 hi0 hz0 hz1 hz2 rfl (by decide) _ _ _ rfl (O1.out.alloc _) ⟨w1.heap.size, 0, none⟩ 1 1 [.int .i64 (i : Int), .int .i64 0] rfl rfl (cell_two w1 47 (.int .i64 (i : Int)) (.int .i64 0)) (by simp [Value.oneCell']) (by unfold maxLen; omega) (by omega) (by simp; have := HA.out.1.size; have := B1.out.size; omega) ?_; intro v' w4 hown' hgrow _; have B4 := Lib.hid (below_grown ((HA.out.1.trans (B1.out.mono HA.out.1.size)).alloc (HA.out.1.trans (B1.out.mono HA.out.1.size)).size (.cells #[.int .i64 (i : Int), .int .i64 0] 47)) (O1.out.alloc _) (Nat.le_refl _) hgrow); obtain ⟨ad', cap', rfl⟩ := row_shape hown'; obtain ⟨G, hG, hGb, k1, k2, k3⟩ := last_cells (m := L) (p := ((i : Int), 0)) (n := L.length + 1) (by simp) (by rw [pcCells_snoc]; exact hown'); subst hG; have K3 := Lib.hid (k3 1); clear k3 hown' hgrow))
            have K4 := Lib.hid (show (w4.setCell ⟨G, L.length * 2 + 1, none⟩ (.int .i64 1)).ownsRow w.heap.size 47 2 (.slice (some ⟨G, 0, none⟩) (L ++ [((i : Int), 1)]).length cap') (L ++ [((i : Int), 1)]).length (pcCells (L ++ [((i : Int), 1)])) from by
              have h := K3.out
              rw [bump_snoc] at h
              rw [List.length_append]
              exact h)
            go_roundg (s.length - (i + 1))
            case measure => omega
            case rel => exact ⟨i + 1, L ++ [((i : Int), 1)], _, cap', true, by omega, by omega, by rw [List.length_append]; rfl, by first | rfl | simp, by first | rfl | simp, (show Aside _ from ⟨B4.out.setCell (p := ⟨G, L.length * 2 + 1, none⟩) hGb _, K4.out, HN.out, HO.out⟩)⟩
    · have hii : i = s.length := by omega
      have hLF : L = findF s k := by rw [HL.out, hii]; rfl
      have HA := Lib.hid A.out
      have HF := Lib.hid hLF
      clear A hLF hii
      by_cases h20 : (20 : Int) < (L.length : Int)
      · go_wp2
        go_ret2
        exact ⟨Or.inr ⟨by rw [← HF.out]; omega, rfl⟩, HA.out.1⟩
      · go_wp2
        go_ret2
        have hP : PiecesAt wr ad (findF s k) := by rw [← HF.out]; exact piecesAt_of_row HA.out.2.1
        exact ⟨Or.inl ⟨by rw [← HF.out]; omega, ad, ⟨cap, by rw [← HF.out]; rfl⟩, hP⟩, HA.out.1⟩
end Go.Proofs.YtpkledmpldnhiaaDoor
