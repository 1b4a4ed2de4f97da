/- The reference's globSet at a negated set; at whatever text. -/
import Derived.Test.YtcdoiadmnckccaaDoorRst
namespace Go.Proofs.YtcdoiadmnckccaaDoor
set_option linter.unusedVariables false
set_option linter.unusedSimpArgs false
open Go.RowKit Go.Joins Go.Maps
set_option maxRecDepth 100000

set_option maxHeartbeats 8000000 in
theorem refSet_neg (c0 : UInt8) (s : List UInt8) (hs : s.length ≤ 1000) (hc0 : c0 = 33 ∨ c0 = 94) (w : World) :
    Calls Tryd.prog 12 #[.string (mkS (c0 :: s))] w fun e w' => RefSetIs w.heap.size (setOf true (elsL false s (fun _ => false))) e w' ∧ Below w.heap.size w w' := by
  have P1 := Lib.hid (fun (w : World) => prefix_c (c0 :: s) 33 w)
  have P2 := Lib.hid (fun (w : World) => prefix_c (c0 :: s) 94 w)
  have sl := mkS_tail c0 s
  have W0 := Lib.hid (show Says (w.alloc (.map #[] 0)) w.heap.size 0 (fun _ => false) ∧ Below w.heap.size w (w.alloc (.map #[] 0)) from ⟨Says.new w, below_alloc1 w _⟩)
  have hmm := @run_makeMap Tryd.prog
  rcases hc0 with rfl | rfl
  all_goals
    simp only [ahead, decide_true, show decide ((94 : UInt8) = 33) = false from rfl, show decide ((33 : UInt8) = 94) = false from rfl] at P1 P2
    go_enter Tryd.func12, Tryd.ntmps12
    go_wp2_with (first
      | (go_at_call 14; with_reducible refine (P1.out _).mono ?_; rintro e w' ⟨rfl, hw⟩; replace hw := hw.symm; subst hw)
      | (go_at_call 14; with_reducible refine (P2.out _).mono ?_; rintro e w' ⟨rfl, hw⟩; replace hw := hw.symm; subst hw))
    go_loopg [0, 7] s.length (fun g s0 s7 wr => ∃ (b : Bool) (u : List UInt8) (E : Nat → Bool) (k N : Nat), u.length = g ∧ s0 = .string (mkS u) ∧ s7 = .int .i64 (k : Int) ∧ b = decide (0 < k) ∧ k + u.length ≤ s.length ∧ Says wr w.heap.size N E ∧ N ≤ 256 * k ∧ Below w.heap.size w wr ∧ elsL b u E = elsL false s (fun _ => false))
    case atStart => exact ⟨false, s, _, 0, 0, rfl, rfl, rfl, rfl, by omega, W0.out.1, Nat.le_refl _, W0.out.2, rfl⟩
    case round =>
      obtain ⟨b, u, E, k, N, hg, rfl, rfl, hb, hk, hS, hN, hB, hE⟩ := hrel
      have HB := Lib.hid hB
      have hlt := hS.lt
      have HS := Lib.hid hS
      have Hk := Lib.hid hb
      clear hb hB hS sl
      cases u with
      | nil =>
        have e0 := mkS_emp_nil
        rw [elsL_none (by simp [shuts]) rfl] at hE
        have HE := Lib.hid hE
        clear hE
        go_wp2
        (try simp only [Exit.inBlock, Exit.then])
        go_ret3
        refine ⟨?_, HB.out⟩
        rw [← HE.out] <;> rfl
      | cons c r =>
        have e0 := mkS_emp (c :: r) (by simp)
        have i0 := mkS_head c r
        have s1 := mkS_tail c r
        have hk2 : k + r.length + 1 ≤ s.length := by simp at hk; omega
        have hg2 : r.length + 1 = gk := by simpa using hg
        by_cases hsh : b = true ∧ c = 93
        · obtain ⟨hbt, rfl⟩ := hsh
          have hk0 : decide (0 < (k : Int)) = true := by
            have := Hk.out; rw [hbt] at this
            have := of_decide_eq_true this.symm
            exact decide_eq_true (by omega)
          subst hbt
          have hk0n : decide (0 < k) = true := Hk.out.symm
          rw [show ((93 : UInt8).toNat : Int) = 93 from rfl] at i0
          rw [elsL_shut (by rfl)] at hE
          have HE := Lib.hid hE
          have K0 := Lib.hid (show Says (wr.alloc (.map #[] 0)) w.heap.size N E ∧ Says (wr.alloc (.map #[] 0)) wr.heap.size 0 (fun j => decide (j < 0) && takesOf true E j) ∧ Below w.heap.size w (wr.alloc (.map #[] 0)) from
            ⟨HS.out.below (below_alloc1 wr _), (Says.new wr).congr (fun j _ => by simp), HB.out.alloc (Nat.le_of_lt hlt) _⟩)
          clear hE Hk
          go_wp2
          generalize wr.heap.size = b2 at *
          go_loopg [80] 256 (fun g s80 wx => ∃ i N2 : Nat, i + g = 256 ∧ s80 = .int .i64 (i : Int) ∧ Says wx w.heap.size N E ∧ Says wx b2 N2 (fun j => decide (j < i) && takesOf true E j) ∧ N2 ≤ i ∧ Below w.heap.size w wx)
          case atStart => exact ⟨0, 0, rfl, rfl, K0.out.1, K0.out.2.1, Nat.le_refl _, K0.out.2.2⟩
          case round =>
            obtain ⟨i, N2, hig, rfl, hA, hO, hN2, hBx⟩ := hrel
            have KX := Lib.hid (And.intro hA (And.intro hO hBx))
            cases gk with
            | zero =>
              obtain rfl : i = 256 := by omega
              have HO := Lib.hid (hO.congr (F := takesOf true E) (fun j hj => by simp [hj]))
              clear hA hO hBx
              go_wp2
              go_quiet (fail)
              go_wp2
              go_ret3
              refine ⟨?_, KX.out.2.2.trans (below_draws _ _ _)⟩
              rw [← HE.out]
              exact ⟨_, _, rfl, Nat.le_of_lt hlt, HO.out.below (below_draws _ _ _)⟩
            | succ g =>
              have hi : i < 256 := by omega
              have hiz : (i : Int) < 256 := by omega
              have h9 : (i : Int) + 1 ≤ 9223372036854775807 := by omega
              have cv := conv_int i hi
              have lk := hA.look hi
              have hbz := hBx.size
              clear hA hO hBx
              by_cases h47 : i = 47
              · subst h47
                have HN := Lib.hid (KX.out.2.1.congr (F := fun j => decide (j < 47 + 1) && takesOf true E j) (fun j hj => by
                  by_cases h : j = 47
                  · subst h; simp [takesOf]
                  · rw [show decide (j < 47 + 1) = decide (j < 47) by (by_cases h2 : j < 47; (rw [decide_eq_true h2, decide_eq_true (by omega)]); (rw [decide_eq_false h2, decide_eq_false (by omega)]))]))
                go_wp2
                go_roundg g
                case measure => omega
                case rel => exact ⟨47 + 1, N2, by omega, rfl, KX.out.1, HN.out, by omega, KX.out.2.2⟩
              · have hbn : ((i : Int) != 47) = true := bne_iff_ne.2 (by omega)
                generalize hv : E i = v1 at lk
                have HV := Lib.hid hv
                clear hv
                cases v1
                · have HN := Lib.hid (show ∀ w1 : World, Says w1 b2 (N2 + 1) (fun j => if j = i then true else decide (j < i) && takesOf true E j) → Says w1 b2 (N2 + 1) (fun j => decide (j < i + 1) && takesOf true E j) from fun w1 h => h.congr (fun j hj => by
                    by_cases h : j = i
                    · subst h; simp [takesOf, HV.out, h47]
                    · by_cases h2 : j < i
                      · simp [h, h2, show j < i + 1 by omega]
                      · simp [h, h2, show ¬ j < i + 1 by omega]))
                  have hNm := Lib.hid (show N2 < maxLen by unfold maxLen; omega)
                  go_wp2_with (at_mapUpdate; with_reducible refine wpList_says_put rfl _ _ _ rfl b2 N2 (fun j => decide (j < i) && takesOf true E j) i rfl KX.out.2.1 hNm.out hi rfl rfl ?_; intro w5 hs5 hg5; have K5 := Lib.hid (And.intro (KX.out.1.kept hg5 (by simp; omega)) (And.intro (HN.out _ hs5) (below_put KX.out.2.2 (Nat.le_of_lt hlt) KX.out.2.2.size hg5))); clear hs5 hg5)
                  go_roundg g
                  case measure => omega
                  case rel => exact ⟨i + 1, N2 + 1, by omega, by first | rfl | simp, K5.out.1, K5.out.2.1, by omega, K5.out.2.2⟩
                · have HN := Lib.hid (KX.out.2.1.congr (F := fun j => decide (j < i + 1) && takesOf true E j) (fun j hj => by
                    by_cases h : j = i
                    · subst h; simp [takesOf, HV.out]
                    · by_cases h2 : j < i
                      · simp [h2, show j < i + 1 by omega]
                      · simp [h2, show ¬ j < i + 1 by omega]))
                  go_wp2
                  go_roundg g
                  case measure => omega
                  case rel => exact ⟨i + 1, N2, by omega, by first | rfl | simp, KX.out.1, HN.out, by omega, KX.out.2.2⟩
        · have hcond : (¬ (c.toNat : Int) = 93) ∨ (decide (0 < (k : Int)) = false ∧ decide (0 < k) = false ∧ c = 93) := by
            by_cases hc : c = 93
            · right
              have h9 := Hk.out
              by_cases h0 : 0 < k
              · rw [decide_eq_true h0] at h9; exact absurd ⟨h9, hc⟩ hsh
              · exact ⟨decide_eq_false (by omega), decide_eq_false h0, hc⟩
            · exact Or.inl fun e => hc ((u8_eq c 93).1 e)
          have hsh2 : ¬ (b = true ∧ shuts (c :: r) = true) := fun h => hsh ⟨h.1, of_decide_eq_true h.2⟩
          cases hsp : spanL (c :: r) with
          | none =>
            rw [elsL_none hsh2 hsp] at hE
            have HE := Lib.hid hE
            clear hE hsh hsh2 Hk
            unfold spanL at hsp
            split at hsp
            · rename_i h1
              have E1 := Lib.hid (fun (w : World) => letter_none h1 w)
              clear h1 hsp
              generalize mkS (c :: r) = S at *
              rcases hcond with hc | ⟨hkz, hkn, rfl⟩ <;> (
                go_wp2_with (go_at_call 13; with_reducible refine (E1.out _).mono ?_; rintro e w1 ⟨rfl, hb1⟩)
                (try simp only [Exit.inBlock, Exit.then])
                go_ret3
                refine ⟨?_, HB.out.trans (hb1.mono HB.out.size)⟩
                rw [← HE.out] <;> rfl)
            · rename_i a r1 h1
              split at hsp
              · rename_i h2
                split at hsp
                · rename_i h3
                  obtain ⟨d, r2, rfl, hd⟩ := dashed_iff h2
                  have E1 := Lib.hid (fun (w : World) => letter_some h1 w)
                  have E2 := Lib.hid (fun (w : World) => letter_none h3 w)
                  rw [List.tail_cons] at E2
                  have j0 := mkS_head 45 (d :: r2)
                  have j1 := mkS_second 45 d r2
                  have t1 := mkS_tail 45 (d :: r2)
                  have hz : decide (1 < ((mkS (45 :: d :: r2)).size : Int)) = true := decide_eq_true (by rw [mkS_size]; simp; try omega)
                  rw [show ((45 : UInt8).toNat : Int) = 45 from rfl] at j0
                  generalize mkS (45 :: d :: r2) = S1 at *
                  generalize mkS (d :: r2) = S2 at *
                  generalize mkS (c :: r) = S at *
                  clear h1 h2 h3 hsp
                  rcases hcond with hc | ⟨hkz, hkn, rfl⟩ <;> (
                    go_wp2_with (first
                      | (go_at_call 13; with_reducible refine (E1.out _).mono ?_; rintro e w1 ⟨rfl, hb1⟩)
                      | (go_at_call 13; with_reducible refine (E2.out _).mono ?_; rintro e w2 ⟨rfl, hb2⟩))
                    (try simp only [Exit.inBlock, Exit.then])
                    go_ret3
                    refine ⟨?_, HB.out.trans ((hb1.trans (hb2.mono hb1.size)).mono HB.out.size)⟩
                    rw [← HE.out] <;> rfl)
                · cases hsp
              · cases hsp
          | some x =>
            obtain ⟨a, y, r2⟩ := x
            rw [elsL_some hsh2 hsp] at hE
            obtain ⟨A, hA⟩ : ∃ A, A = a.toNat := ⟨_, rfl⟩
            obtain ⟨Y, hY⟩ : ∃ Y, Y = y.toNat := ⟨_, rfl⟩
            have HE := Lib.hid (show elsL true r2 (fun i => E i || (decide (A ≤ i) && decide (i ≤ Y))) = elsL false s (fun _ => false) by rw [hA, hY]; exact hE)
            have HA := Lib.hid hA
            have HY := Lib.hid hY
            have hA2 : A < 256 := by rw [hA]; exact a.toNat_lt
            have hY2 : Y < 256 := by rw [hY]; exact y.toNat_lt
            clear hA hY
            have hrl := spanL_lt hsp
            simp only [List.length_cons] at hrl
            clear hE hsh hsh2 Hk
            have x0 := conv_u8 a
            have y0 := conv_u8 y
            have ha := u8_lt a
            have hy := u8_lt y
            obtain ⟨R1, R2, z, d, e, hz, j0, j1, t1, E1, E2, hcase⟩ : ∃ (R1 R2 : ByteArray) (z : Bool) (d e : Int), decide (1 < (R1.size : Int)) = z ∧
                (z = true → ∀ w, (Instr.index 9 (.string R1) (.int .i64 0)).run Tryd.prog w = .ok (.int .u8 d) w) ∧
                (z = true → ∀ w, (Instr.index 9 (.string R1) (.int .i64 1)).run Tryd.prog w = .ok (.int .u8 e) w) ∧
                (z = true → ∀ w, (Instr.slice 9 (.string R1) (some (.int .i64 1)) none none).run Tryd.prog w = .ok (.string R2) w) ∧
                (∀ w, Calls Tryd.prog 13 #[.string (mkS (c :: r))] w fun e w' => e = .returned (.tuple #[.int .u8 (a.toNat : Int), .string R1, .bool true]) ∧ Below w.heap.size w w') ∧
                ((z = true ∧ d = 45 ∧ ¬ e = 93) → ∀ w, Calls Tryd.prog 13 #[.string R2] w fun e w' => e = .returned (.tuple #[.int .u8 (y.toNat : Int), .string (mkS r2), .bool true]) ∧ Below w.heap.size w w') ∧
                ((z = false ∧ y = a ∧ R1 = mkS r2) ∨ (z = true ∧ ¬ d = 45 ∧ y = a ∧ R1 = mkS r2) ∨ (z = true ∧ d = 45 ∧ e = 93 ∧ y = a ∧ R1 = mkS r2) ∨ (z = true ∧ d = 45 ∧ ¬ e = 93)) := by
              unfold spanL at hsp
              split at hsp
              · cases hsp
              · rename_i a1 r1 h1
                split at hsp
                · rename_i h2
                  split at hsp
                  · cases hsp
                  · rename_i b2 r3 h3
                    cases hsp
                    obtain ⟨d, r4, rfl, hd⟩ := dashed_iff h2
                    exact ⟨mkS (45 :: d :: r4), mkS (d :: r4), true, 45, (d.toNat : Int), decide_eq_true (by rw [mkS_size]; simp; try omega), fun _ => mkS_head 45 (d :: r4), fun _ => mkS_second 45 d r4, fun _ => mkS_tail 45 (d :: r4), fun w => letter_some h1 w, fun _ w => letter_some h3 w, Or.inr (Or.inr (Or.inr ⟨rfl, rfl, hd⟩))⟩
                · rename_i h2
                  cases hsp
                  rcases dashed_not h2 with rfl | ⟨d, rfl⟩ | ⟨d, e, r4, rfl, hd | ⟨rfl, rfl⟩⟩
                  · exact ⟨mkS [], mkS [], false, 0, 0, decide_eq_false (by rw [mkS_size]; simp), (fun h => by cases h), (fun h => by cases h), (fun h => by cases h), fun w => letter_some h1 w, (fun h => by cases h.1), Or.inl ⟨rfl, rfl, rfl⟩⟩
                  · exact ⟨mkS [d], mkS [], false, 0, 0, decide_eq_false (by rw [mkS_size]; simp), (fun h => by cases h), (fun h => by cases h), (fun h => by cases h), fun w => letter_some h1 w, (fun h => by cases h.1), Or.inl ⟨rfl, rfl, rfl⟩⟩
                  · exact ⟨mkS (d :: e :: r4), mkS (e :: r4), true, (d.toNat : Int), (e.toNat : Int), decide_eq_true (by rw [mkS_size]; simp; try omega), fun _ => mkS_head d (e :: r4), fun _ => mkS_second d e r4, fun _ => mkS_tail d (e :: r4), fun w => letter_some h1 w, (fun h => absurd h.2.1 hd), Or.inr (Or.inl ⟨rfl, hd, rfl, rfl⟩)⟩
                  · exact ⟨mkS (45 :: 93 :: r4), mkS (93 :: r4), true, 45, 93, decide_eq_true (by rw [mkS_size]; simp; try omega), fun _ => mkS_head 45 (93 :: r4), fun _ => mkS_second 45 93 r4, fun _ => mkS_tail 45 (93 :: r4), fun w => letter_some h1 w, (fun h => absurd rfl h.2.2), Or.inr (Or.inr (Or.inl ⟨rfl, rfl, rfl, rfl, rfl⟩))⟩
            have HE1 := Lib.hid E1
            clear E1 hsp
            generalize mkS (c :: r) = S at *
            have K0 := Lib.hid (show ∀ w1, Below wr.heap.size wr w1 → Says w1 w.heap.size N E ∧ Below w.heap.size w w1 from fun w1 h => ⟨HS.out.below h, HB.out.trans (h.mono HB.out.size)⟩)
            rcases hcond with hc | ⟨hkz, hkn, rfl⟩ <;> rcases hcase with ⟨rfl, rfl, rfl⟩ | ⟨rfl, hd, rfl, rfl⟩ | ⟨rfl, rfl, rfl, rfl, rfl⟩ | ⟨rfl, rfl, he⟩
            all_goals
              have j0' := Lib.hid j0
              have j1' := Lib.hid j1
              have t1' := Lib.hid t1
              have E2' := Lib.hid E2
              clear j0 j1 t1 E2
              (try (have j0 := j0'.out rfl; have j1 := j1'.out rfl; have t1 := t1'.out rfl))
              (try have E3 := Lib.hid (E2'.out ⟨rfl, rfl, he⟩))
              clear j0' j1' t1' E2'
              go_wp2_with (first
                | (go_at_call 13; with_reducible refine (HE1.out _).mono ?_; rintro e w1 ⟨rfl, hb1⟩; have k1 := Lib.hid (K0.out _ hb1); have kb := Lib.hid hb1; clear hb1)
                | (go_at_call 13; with_reducible refine (E3.out _).mono ?_; rintro e w2 ⟨rfl, hb2⟩; have k1 := Lib.hid (K0.out _ (kb.out.trans (hb2.mono kb.out.size))); clear hb2))
              go_loopg [12] (256 - A) (fun g s12 wx => ∃ i N' : Nat, i + g = 256 ∧ s12 = .int .i64 (i : Int) ∧ A ≤ i ∧ (i ≤ Y + 1 ∨ i = A) ∧ N' + A ≤ N + i ∧ Says wx w.heap.size N' (laid E A i) ∧ Below w.heap.size w wx)
              case atStart => exact ⟨A, N, by omega, by rw [HA.out], Nat.le_refl _, Or.inr rfl, Nat.le_refl _, k1.out.1.congr (laid_start E A), k1.out.2⟩
              case round =>
                obtain ⟨i, N', hig, rfl, hai, hiy, hN', hS2, hB2⟩ := hrel
                have K2 := Lib.hid (And.intro hS2 hB2)
                clear hS2 hB2
                have hYe := HY.out
                by_cases hle : i ≤ Y
                · have e1 : decide ((i : Int) ≤ (y.toNat : Int)) = true := decide_eq_true (by omega)
                  have e2 : decide (i ≤ y.toNat) = true := decide_eq_true (by omega)
                  have hi : i < 256 := by omega
                  have h9 : (i : Int) + 1 ≤ 9223372036854775807 := by omega
                  have cv := conv_int i hi
                  have Hle := Lib.hid hle
                  clear hle hYe
                  go_wp2_with (at_mapUpdate; refine wpList_says_put rfl _ _ _ rfl w.heap.size N' _ i rfl K2.out.1 (by unfold maxLen; omega) hi rfl rfl ?_; intro w5 hs5 hg5; have K5 := Lib.hid (And.intro (hs5.congr (laid_step E hai)) (below_put K2.out.2 (Nat.le_refl _) K2.out.2.size hg5)); clear hs5 hg5)
                  go_roundg (256 - (i + 1))
                  case measure => omega
                  case rel => exact ⟨i + 1, N' + 1, by omega, by first | rfl | simp, by omega, by left; have := Hle.out; omega, by omega, K5.out.1, K5.out.2⟩
                · have e1 : decide ((i : Int) ≤ (y.toNat : Int)) = false := decide_eq_false (by omega)
                  have e2 : decide (i ≤ y.toNat) = false := decide_eq_false (by omega)
                  have K3 := Lib.hid (K2.out.1.congr (laid_end E hai hle hiy))
                  have hNf : N' ≤ 256 * (k + 1) := by omega
                  clear hle hYe
                  go_wp2
                  go_roundg r2.length
                  case measure => omega
                  case rel => exact ⟨true, r2, _, k + 1, N', rfl, rfl, by first | rfl | simp, by simp, by omega, K3.out, hNf, K2.out.2, HE.out⟩

theorem refSet_any (s : List UInt8) (hs : s.length ≤ 1000) (w : World) : Calls Tryd.prog 12 #[.string (mkS s)] w fun e w' => RefSetIs w.heap.size (setL s) e w' ∧ Below w.heap.size w w' := by
  have e : setL s = setOf (negL s) (elsL false (if negL s = true then s.tail else s) (fun _ => false)) := rfl
  rw [e]
  cases s with
  | nil => exact refSet_no [] (by simp) rfl rfl w
  | cons c r =>
    by_cases h : c = 33 ∨ c = 94
    · have hn : negL (c :: r) = true := by simp only [negL, Bool.or_eq_true, decide_eq_true_eq]; exact h
      rw [hn]
      exact refSet_neg c r (by simp at hs; omega) h w
    · have h1 : ¬ c = 33 := fun x => h (Or.inl x)
      have h2 : ¬ c = 94 := fun x => h (Or.inr x)
      have hn : negL (c :: r) = false := by simp [negL, h1, h2]
      rw [hn]
      exact refSet_no (c :: r) hs (by simp [ahead, h1]) (by simp [ahead, h2]) w
end Go.Proofs.YtcdoiadmnckccaaDoor
