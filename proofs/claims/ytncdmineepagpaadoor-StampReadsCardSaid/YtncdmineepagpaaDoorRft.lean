/- The reference's TimeParse: what it returns, for every text of at most 100 bytes. -/
import Derived.Test.YtncdmineepagpaaDoorRfp
import Derived.Lib.QuietBelow
import Derived.Deep.Cut
import Derived.Deep.CutRange
import Derived.LoopN
namespace Go.Proofs.YtncdmineepagpaaDoor
open Go.RowKit Go.Joins

def strLen : Value → Nat | .string s => s.size | _ => 0

/-- The answer, of a text without its sign. -/
def readF (neg : Bool) (u : List UInt8) : Int × Int × Int :=
  if isDig (wholeOf u) && (!pointOf u || isDig (fracOf u)) then
    if 15 < (Lib.trimLeftB (wholeOf u) 48).length then (2, 0, 0)
    else timeF neg (valD (Lib.trimLeftB (wholeOf u) 48)) (nanoD (fracOf u)) (moreD (fracOf u))
  else (3, 0, 0)

theorem bad_read (neg : Bool) (u : List UInt8) (h : scanF 0 (-1) u = none) : readF neg u = (3, 0, 0) := by
  rw [scan_any u 0 (by omega)] at h
  by_cases hc : ((wholeOf u).all dig && (fracOf u).all dig) = true
  · rw [if_pos hc] at h; cases h
  · unfold readF
    rw [if_neg]
    intro hg
    apply hc
    simp only [isDig, Bool.and_eq_true] at hg ⊢
    refine ⟨hg.1.1, ?_⟩
    cases hp : pointOf u with
    | true => have := hg.2; rw [hp] at this; simp at this; exact List.all_eq_true.2 this.1
    | false => rw [(frac_nil u hp).2]; rfl

theorem good_read (u : List UInt8) (p : Int) (h : scanF 0 (-1) u = some p) : (wholeOf u).all dig = true ∧ (fracOf u).all dig = true ∧
    ((pointOf u = true ∧ p = ((wholeOf u).length : Int) ∧ u = wholeOf u ++ 46 :: fracOf u) ∨ (pointOf u = false ∧ p = -1 ∧ wholeOf u = u ∧ fracOf u = [])) ∧ (wholeOf u).length + (fracOf u).length ≤ u.length := by
  rw [scan_any u 0 (by omega)] at h
  by_cases hc : ((wholeOf u).all dig && (fracOf u).all dig) = true
  · rw [if_pos hc] at h
    rw [Bool.and_eq_true] at hc
    refine ⟨hc.1, hc.2, ?_⟩
    cases hp : pointOf u with
    | true =>
      have hs := (index_yes u hp).2
      rw [hp] at h
      simp at h
      have hl := congrArg List.length hs
      rw [List.length_append, List.length_cons] at hl
      exact ⟨.inl ⟨rfl, h.symm, hs⟩, by omega⟩
    | false =>
      have hf := frac_nil u hp
      rw [hp] at h
      simp at h
      exact ⟨.inr ⟨rfl, h.symm, hf⟩, by rw [hf.1, hf.2]; simp⟩
  · rw [if_neg hc] at h; cases h

theorem split_take (u A F : List UInt8) (c : UInt8) (h : u = A ++ c :: F) : u.take A.length = A ∧ u.drop (A.length + 1) = F := by
  subst h
  refine ⟨List.take_left' rfl, ?_⟩
  rw [List.drop_append, List.drop_eq_nil_of_le (by omega), List.nil_append, show A.length + 1 - A.length = 1 by omega]
  rfl

theorem within_dig (c : UInt8) (w : World) :
    Calls Tryd.prog 33 #[.int .i64 (c.toNat : Int), .int .i64 48, .int .i64 57] w fun e w' => e = .returned (.bool (dig c)) ∧ w' = w := by
  have h := within_any (c.toNat : Int) 48 57 w
  have e : (decide ((48 : Int) ≤ (c.toNat : Int)) && decide ((c.toNat : Int) ≤ 57)) = dig c := by
    unfold dig
    congr 1
    · exact decide_eq_decide.2 (by omega)
    · exact decide_eq_decide.2 (by omega)
  rwa [e] at h

set_option maxRecDepth 100000 in
set_option maxHeartbeats 4000000 in
theorem refParse_core (l u : List UInt8) (neg : Bool) (w : World) (hl : l.length ≤ 100)
    (hs : (neg = true ∧ l = 45 :: u) ∨ (neg = false ∧ l = u ∧ u = []) ∨ (neg = false ∧ l = u ∧ ∃ c r, u = c :: r ∧ c ≠ 45)) :
    Calls Tryd.prog 11 #[.string (mkS l)] w fun e w' => e = .returned (.tuple #[tmV (readF neg u).2.1 (readF neg u).2.2, .int .i64 (readF neg u).1]) ∧ Below w.heap.size w w' := by
  have hu : u.length ≤ 100 := by
    rcases hs with ⟨_, rfl⟩ | ⟨_, rfl, _⟩ | ⟨_, rfl, _⟩
    · simp at hl; omega
    · exact hl
    · exact hl
  go_enter Tryd.func11, Tryd.ntmps11
  go_upto_region 1 with fail
  obtain ⟨W, hW⟩ : ∃ W, W = w.alloc (.cells #[.int .i64 0, .int .i64 0] 23) := ⟨_, rfl⟩
  rw [← hW]
  have HW := Lib.hid hW
  clear hW
  go_cut [4] from 16 (fun b w' => b = .bool neg ∧ w' = W)
  case first =>
    rcases hs with ⟨rfl, rfl⟩ | ⟨rfl, rfl, rfl⟩ | ⟨rfl, rfl, c, r, rfl, hc⟩
    · have h1 := mkS_emp (45 :: u) (by simp)
      have h2 := fun w => mkS_index (45 :: u) 0 45 (by omega) rfl w
      go_wp2
      go_meet
      exact ⟨rfl, rfl⟩
    · have h1 := mkS_emp_nil
      go_wp2
      go_meet
      exact ⟨rfl, rfl⟩
    · have h1 := mkS_emp (c :: r) (by simp)
      have h2 := fun w => mkS_index (c :: r) 0 c (by omega) rfl w
      have h3 : ((c.toNat : Int) == 45) = false := by
        rw [beq_eq_false_iff_ne]
        intro h
        exact hc (UInt8.toNat_inj.1 (by have : (45 : UInt8).toNat = 45 := rfl; omega))
      go_wp2
      go_meet
      exact ⟨rfl, rfl⟩
  case rest =>
    obtain ⟨rfl, hw⟩ := hcut
    replace hw := hw.symm
    subst hw
    go_upto_if 23 with fail
    go_cut [0] from 24 (fun b w' => b = .string (mkS u) ∧ w' = W)
    case first =>
      rcases hs with ⟨rfl, rfl⟩ | ⟨rfl, rfl, rfl⟩ | ⟨rfl, rfl, _⟩
      · have h1 : ∀ w, (Instr.slice 9 (.string (mkS (45 :: u))) (some (.int .i64 1)) none none).run Tryd.prog w = .ok (.string (mkS u)) w := fun w => mkS_onward (45 :: u) 1 (by simp) w
        go_wp2
        go_meet
        exact ⟨rfl, rfl⟩
      · go_wp2
        go_meet
        exact ⟨rfl, rfl⟩
      · go_wp2
        go_meet
        exact ⟨rfl, rfl⟩
    case rest =>
      obtain ⟨rfl, hw⟩ := hcut
      replace hw := hw.symm
      subst hw
      have hsz := mkS_size u
      clear hs hl
      go_wp2
      go_loop [28, 5] (fun i pt => ∃ (k : Nat) (p : Int), k ≤ u.length ∧ i = .int .i64 k ∧ pt = .int .i64 p ∧ -1 ≤ p ∧ p ≤ 100 ∧ scanF 0 (-1) u = scanF k p (u.drop k)) (fun i _ => u.length - (intOf i).toNat)
      case atStart => exact ⟨0, -1, Nat.zero_le _, rfl, rfl, by omega, by omega, rfl⟩
      case round =>
        obtain ⟨k, p, hk, rfl, rfl, hp1, hp2, hsc⟩ := hrel
        by_cases hlt : k < u.length
        · have hlt' : (k : Int) < (u.length : Int) := by omega
          obtain ⟨c, hc⟩ : ∃ c, u[k]? = some c := ⟨_, List.getElem?_eq_getElem hlt⟩
          have hdr : u.drop k = c :: u.drop (k + 1) := by rw [List.drop_eq_getElem_cons hlt]; congr 1; exact (List.getElem?_eq_some_iff.1 hc).2
          have hix := fun w => mkS_index u (k : Int) c (by omega) (by rw [Int.toNat_natCast]; exact hc) w
          have hc2 : (c.toNat : Int) ≤ 255 := by have := c.toNat_lt; omega
          have WD := Lib.hid (fun w => within_dig c w)
          rw [hdr, scan_step] at hsc
          have HSC := Lib.hid hsc
          clear hsc hdr hc
          by_cases h46 : c = 46
          · have e1 : ((c.toNat : Int) == 46) = true := by subst h46; rfl
            by_cases hp0 : p < 0
            · have e2 : decide (p < 0) = true := by simpa using hp0
              have hs2 := HSC.out
              rw [if_pos ⟨h46, hp0⟩] at hs2
              have HS2 := Lib.hid hs2
              clear HSC hs2 hp0 h46
              go_wp2
              go_round
              case rel => exact ⟨k + 1, k, by omega, by go_num, rfl, by omega, by omega, HS2.out⟩
              case measure => simp [intOf]; omega
            · have e2 : decide (p < 0) = false := by simpa using hp0
              have hdg : dig c = false := by subst h46; rfl
              have hs2 := HSC.out
              rw [if_neg (fun h => hp0 h.2), hdg, if_neg (by simp)] at hs2
              have hbad : readF neg u = (3, 0, 0) := bad_read neg u hs2
              rw [hdg] at WD
              have HB := Lib.hid hbad
              clear HSC hs2 hp0 h46 hdg hbad hsz
              have hW := HW.out
              subst hW
              go_wp2_with (go_at_call 33; refine (WD.out _).mono ?_; rintro e w6 ⟨rfl, hw⟩; replace hw := hw.symm; subst hw)
              rw [HB.out]
              exact bodyPost_ret (v := .tuple #[tmV 0 0, .int .i64 3]) (by simp [results, Tryd.results11, go_sem]) rfl ⟨rfl, below_alloc1 _ _⟩
          · have e1 : ((c.toNat : Int) == 46) = false := by
              rw [beq_eq_false_iff_ne]
              intro h
              exact h46 (UInt8.toNat_inj.1 (by have : (46 : UInt8).toNat = 46 := rfl; omega))
            have hs2 := HSC.out
            rw [if_neg (fun h => h46 h.1)] at hs2
            by_cases hdg : dig c = true
            · rw [if_pos hdg] at hs2
              rw [hdg] at WD
              have HS2 := Lib.hid hs2
              clear HSC hs2 h46 hdg
              go_wp2_with (go_at_call 33; refine (WD.out _).mono ?_; rintro e w6 ⟨rfl, hw⟩; replace hw := hw.symm; subst hw)
              go_round
              case rel => exact ⟨k + 1, p, by omega, by go_num, rfl, hp1, hp2, HS2.out⟩
              case measure => simp [intOf]; omega
            · rw [if_neg hdg] at hs2
              rw [Bool.not_eq_true] at hdg
              rw [hdg] at WD
              have hbad : readF neg u = (3, 0, 0) := bad_read neg u hs2
              have HB := Lib.hid hbad
              clear HSC hs2 h46 hdg hbad hsz
              have hW := HW.out
              subst hW
              go_wp2_with (go_at_call 33; refine (WD.out _).mono ?_; rintro e w6 ⟨rfl, hw⟩; replace hw := hw.symm; subst hw)
              rw [HB.out]
              exact bodyPost_ret (v := .tuple #[tmV 0 0, .int .i64 3]) (by simp [results, Tryd.results11, go_sem]) rfl ⟨rfl, below_alloc1 _ _⟩
        · obtain rfl : k = u.length := by omega
          rw [List.drop_length] at hsc
          have hend : scanF 0 (-1) u = some p := hsc
          obtain ⟨hwd, hfd, hpp, hsplit⟩ := good_read u p hend
          have hnl : ¬ ((u.length : Nat) : Int) < (u.length : Int) := by omega
          clear hsc hend hlt hk
          go_upto_if 52 with fail
          go_cut [7, 8] from 51 (fun a b w' => a = .string (mkS (wholeOf u)) ∧ b = .string (mkS (fracOf u)) ∧ ∃ q, w' = W.drewN q)
          case first =>
            rcases hpp with ⟨hpt, hp, hsp⟩ | ⟨hpt, hp, hw1, hf1⟩
            · have hA : (wholeOf u).length ≤ u.length := by omega
              have s1 : ∀ w, (Instr.slice 9 (.string (mkS u)) none (some (.int .i64 p)) none).run Tryd.prog w = .ok (.string (mkS (wholeOf u))) w := fun w => by
                rw [hp]
                have h := mkS_upto u (wholeOf u).length hA w
                rw [(split_take u _ _ _ hsp).1] at h
                exact h
              have hl1 : (wholeOf u).length + 1 ≤ u.length := by
                have := congrArg List.length hsp
                rw [List.length_append, List.length_cons] at this
                omega
              have s2 : ∀ w, (Instr.slice 9 (.string (mkS u)) (some (.int .i64 (p + 1))) none none).run Tryd.prog w = .ok (.string (mkS (fracOf u))) w := fun w => by
                rw [hp]
                have h := mkS_onward u ((wholeOf u).length + 1) hl1 w
                rw [(split_take u _ _ _ hsp).2] at h
                push_cast at h
                exact h
              have hp0 : (0 : Int) ≤ p := by omega
              clear hp hsp hpt hwd hfd hsplit hl1 hA
              go_wp2
              go_region
              go_wp2
              go_meet
              exact ⟨rfl, rfl, 1, rfl⟩
            · have hp0 : ¬ (0 : Int) ≤ p := by omega
              have HW1 := Lib.hid hw1
              have HF1 := Lib.hid hf1
              clear hp hpt hwd hfd hsplit hw1 hf1
              go_wp2
              go_meet
              exact ⟨by rw [HW1.out], by rw [HF1.out]; rfl, 0, rfl⟩
          case rest =>
            obtain ⟨rfl, rfl, q, hw⟩ := hcut
            have hbl : Below w.heap.size w wc := by rw [hw, HW.out]; exact (below_alloc1 w _).trans ⟨rfl, rfl, rfl, Nat.le_refl _, fun _ _ => rfl⟩
            have sw : w.heap.size < wc.heap.size := by rw [hw, HW.out]; show w.heap.size < (w.alloc _).heap.size; simp
            have row : wc.heap[w.heap.size]? = some (.cells #[.int .i64 0, .int .i64 0] 23 (0, 0)) := by rw [hw, HW.out]; exact Array.getElem?_push_size
            have k0 : wc.cell? ⟨w.heap.size, 0, none⟩ = some (.int .i64 0) := by simp [World.cell?, row]
            have k1 : wc.cell? ⟨w.heap.size, 1, none⟩ = some (.int .i64 0) := by simp [World.cell?, row]
            have fr0 : wc.frozen? ⟨w.heap.size, 0, none⟩ = false := by simp [World.frozen?, row]
            have fr1 : wc.frozen? ⟨w.heap.size, 1, none⟩ = false := by simp [World.frozen?, row]
            have hR : readF neg u = if isDig (wholeOf u) && (!pointOf u || isDig (fracOf u)) then
              if 15 < (Lib.trimLeftB (wholeOf u) 48).length then (2, 0, 0)
              else timeF neg (valD (Lib.trimLeftB (wholeOf u) 48)) (nanoD (fracOf u)) (moreD (fracOf u))
              else (3, 0, 0) := rfl
            have hpc : (pointOf u = true ∧ 0 ≤ p) ∨ (pointOf u = false ∧ p < 0 ∧ fracOf u = []) := by
              rcases hpp with ⟨h1, h2, _⟩ | ⟨h1, h2, _, h3⟩
              · exact .inl ⟨h1, by omega⟩
              · exact .inr ⟨h1, by omega, h3⟩
            have lA : (wholeOf u).length ≤ 100 := by omega
            have lF : (fracOf u).length ≤ 100 := by omega
            clear hpp hsplit hw HW hnl hsz hu
            generalize wholeOf u = A at *
            generalize fracOf u = F at *
            generalize pointOf u = pt at *
            by_cases hA : A = []
            · have hR' : readF neg u = (3, 0, 0) := by rw [hR, hA]; rfl
              have h1 := mkS_emp_nil
              have HR := Lib.hid hR'
              subst hA
              clear hR hR'
              go_wp2
              rw [HR.out]
              exact bodyPost_ret (v := .tuple #[tmV 0 0, .int .i64 3]) (by simp [results, Tryd.results11, go_sem, k0, k1]) rfl ⟨rfl, (hbl.setCell (Nat.le_refl _) _).setCell (Nat.le_refl _) _⟩
            · have h1 := mkS_emp A hA
              have iA : isDig A = true := by simp [isDig, hwd, hA]
              by_cases hF : pt = true ∧ F = []
              · have hR' : readF neg u = (3, 0, 0) := by rw [hR, hF.1, hF.2, iA]; rfl
                have hp0 : 0 ≤ p := by rcases hpc with h | h; exact h.2; rw [hF.1] at h; cases h.1
                have h2 := mkS_emp_nil
                obtain ⟨rfl, rfl⟩ := hF
                have HR := Lib.hid hR'
                clear hR hpc hR'
                go_wp2
                rw [HR.out]
                exact bodyPost_ret (v := .tuple #[tmV 0 0, .int .i64 3]) (by simp [results, Tryd.results11, go_sem, k0, k1]) rfl ⟨rfl, (hbl.setCell (Nat.le_refl _) _).setCell (Nat.le_refl _) _⟩
              · have hR' : readF neg u = if 15 < (Lib.trimLeftB A 48).length then (2, 0, 0) else timeF neg (valD (Lib.trimLeftB A 48)) (nanoD F) (moreD F) := by
                  rw [hR, iA]
                  cases pt with
                  | false => rfl
                  | true => rw [show isDig F = true by simp [isDig, hfd]; exact fun h => hF ⟨rfl, h⟩]; rfl
                have HR := Lib.hid hR'
                clear hR hR'
                go_upto_region 16 with fail
                go_cut [69] from 60 (fun b w' => b = .bool false ∧ w' = wc)
                case first =>
                  rcases hpc with ⟨h3, h4⟩ | ⟨h3, h4, h5⟩
                  · have h2 := mkS_emp F (fun h => hF ⟨h3, h⟩)
                    clear h3 hF
                    go_wp2
                    go_meet
                    exact ⟨rfl, rfl⟩
                  · have h6 : ¬ 0 ≤ p := by omega
                    clear h3 h5 hF h4
                    go_wp2
                    go_meet
                    exact ⟨rfl, rfl⟩
                case rest =>
                  obtain ⟨rfl, hw⟩ := hcut
                  replace hw := hw.symm
                  subst hw
                  have hd0 : dropsTo A A := ⟨hA, hwd, rfl, Nat.le_refl _⟩
                  clear hpc hF h1 iA hA hwd hp1 hp2
                  go_wp2
                  go_loop [7] (fun v => ∃ W, v = .string (mkS W) ∧ dropsTo A W) (fun v => strLen v)
                  case atStart => exact ⟨A, rfl, hd0⟩
                  case round =>
                    obtain ⟨W, rfl, hd⟩ := hrel
                    obtain ⟨c, r, rfl⟩ : ∃ c r, W = c :: r := by
                      cases W with
                      | nil => exact absurd rfl hd.1
                      | cons c r => exact ⟨c, r, rfl⟩
                    obtain ⟨m, hm, hsm, hm1⟩ : ∃ m : Nat, m = r.length + 1 ∧ (mkS (c :: r)).size = m ∧ m ≤ 100 := ⟨_, rfl, by rw [mkS_size]; rfl, by have := hd.2.2.2; simp at this; omega⟩
                    have hix : ∀ w, (Instr.index 9 (.string (mkS (c :: r))) (.int .i64 0)).run Tryd.prog w = .ok (.int .u8 (c.toNat : Int)) w := fun w => mkS_index (c :: r) 0 c (by omega) rfl w
                    by_cases hc : r ≠ [] ∧ c = 48
                    · obtain ⟨hr, rfl⟩ := hc
                      have hsl : ∀ w, (Instr.slice 9 (.string (mkS (48 :: r))) (some (.int .i64 1)) none none).run Tryd.prog w = .ok (.string (mkS r)) w := fun w => mkS_onward (48 :: r) 1 (by simp) w
                      have hd' := drops_step A r hd hr
                      have hr1 : (1 : Int) < (m : Int) := by
                        have : r.length ≠ 0 := fun h => hr (List.eq_nil_of_length_eq_zero h)
                        omega
                      have HD := Lib.hid hd'
                      have HM := Lib.hid hm
                      clear hd hd' hr hm hd0
                      go_wp2
                      go_round
                      case rel => exact ⟨r, rfl, HD.out⟩
                      case measure => simp only [strLen, mkS_size, List.length_cons]; omega
                    · have hc' : c ≠ 48 ∨ r = [] := by
                        by_cases hr : r = []
                        · exact .inr hr
                        · exact .inl fun h => hc ⟨hr, h⟩
                      obtain ⟨hd1, hd2⟩ := drops_end A c r hd hc'
                      have hdig := hd.2.1
                      rw [List.length_cons, ← hm] at hd1
                      rw [hd2.symm] at HR
                      have hstop : (m = 1) ∨ ((1 : Int) < (m : Int) ∧ ((c.toNat : Int) == 48) = false) := by
                        by_cases hr : r = []
                        · left; rw [hm, hr]; rfl
                        · right
                          have : r.length ≠ 0 := fun h => hr (List.eq_nil_of_length_eq_zero h)
                          refine ⟨by omega, ?_⟩
                          rw [beq_eq_false_iff_ne]
                          intro h
                          exact hc ⟨hr, UInt8.toNat_inj.1 (by have : (48 : UInt8).toNat = 48 := rfl; omega)⟩
                      clear hc hc' hd hd0 hd2 hm
                      go_upto_region 18 with fail
                      go_cut [78] from 71 to 80 (fun b w' => b = .bool false ∧ w' = wc)
                      case first =>
                        rcases hstop with hs | ⟨hs1, hs2⟩
                        · have hs' : ¬ (1 : Int) < (m : Int) := by omega
                          clear hs
                          go_wp2
                          go_meet
                          exact ⟨rfl, rfl⟩
                        · go_wp2
                          go_meet
                          exact ⟨rfl, rfl⟩
                      case rest =>
                        obtain ⟨rfl, hw⟩ := hcut
                        replace hw := hw.symm
                        subst hw
                        clear hstop hix
                        by_cases h15 : 15 < m
                        · have hR2 : readF neg u = (2, 0, 0) := by
                            rw [HR.out, if_pos]
                            exact of_decide_eq_true (hd1 ▸ decide_eq_true h15)
                          have HR2 := Lib.hid hR2
                          have h15' : (15 : Int) < (m : Int) := by omega
                          clear HR hd1 hR2 h15 hdig
                          go_wp2
                          rw [HR2.out]
                          exact bodyPost_ret (v := .tuple #[tmV 0 0, .int .i64 2]) (by simp [results, Tryd.results11, go_sem, k0, k1]) rfl ⟨rfl, (hbl.setCell (Nat.le_refl _) _).setCell (Nat.le_refl _) _⟩
                        · have hR2 : readF neg u = timeF neg (valD (c :: r)) (nanoD F) (moreD F) := by
                            rw [HR.out, if_neg]
                            intro h
                            exact h15 (of_decide_eq_true (hd1.trans (decide_eq_true h)))
                          have HR2 := Lib.hid hR2
                          have h15' : ¬ (15 : Int) < (m : Int) := by omega
                          have at1 : ∀ w, Calls Tryd.prog 34 #[.string (mkS (c :: r))] w fun e w' => e = .returned (.tuple #[.int .i64 (valD (c :: r)), .nilIface]) ∧ Below w.heap.size w w' := fun w => by
                            have h := Tryd.strconv_Atoi (mkS (c :: r)) (valD (c :: r)) (by rw [hsm]; omega) (by rw [mkS_list]; exact atoi_dig _ hdig (by simp)) w
                            refine h.mono ?_
                            rintro e w' ⟨rfl, t, rfl⟩
                            exact ⟨rfl, below_bytesWorld _ _ _ _ (Nat.le_refl _)⟩
                          have hsr : 0 ≤ valD (c :: r) ∧ valD (c :: r) < 1000000000000000 := by
                            have hl : (c :: r).length ≤ 15 := by rw [← mkS_size, hsm]; omega
                            have h3 := valD_lt (c :: r).length (c :: r) rfl hdig
                            have h4 := pow10_le hl
                            have h5 : (10 : Nat) ^ 15 = 1000000000000000 := by decide
                            omega
                          have AT := Lib.hid at1
                          generalize valD (c :: r) = sec at *
                          clear HR hd1 hR2 h15 hdig at1
                          go_upto_region 23 with (go_at_call 34; refine (AT.out _).mono ?_; rintro e w2 ⟨rfl, h2⟩)
                          replace k0 := (h2.cell (p := ⟨w.heap.size, 0, none⟩) sw).trans k0
                          replace k1 := (h2.cell (p := ⟨w.heap.size, 1, none⟩) sw).trans k1
                          replace fr0 := (h2.frozen (p := ⟨w.heap.size, 0, none⟩) sw).trans fr0
                          replace fr1 := (h2.frozen (p := ⟨w.heap.size, 1, none⟩) sw).trans fr1
                          replace hbl := hbl.trans (h2.mono hbl.size)
                          replace sw := Nat.lt_of_lt_of_le sw h2.size
                          have hszF : (mkS F).size = F.length := mkS_size F
                          obtain ⟨K, hK, hK9, hKl, hK1⟩ : ∃ K : Nat, max (F.length : Int) 9 = (K : Int) ∧ 9 ≤ K ∧ F.length ≤ K ∧ K ≤ 100 := ⟨max F.length 9, by omega, by omega, by omega, by omega⟩
                          have hn9 := nanoK_range F hfd
                          have hdr := dOf_range F hfd
                          have HN := Lib.hid hn9
                          have HDR := Lib.hid hdr
                          have HFD := Lib.hid hfd
                          clear h2 h15' hsm hm1 AT hn9 hdr hfd row lA
                          go_wp2
                          go_loop [13, 11, 12] (fun i n b => ∃ k : Nat, k ≤ K ∧ i = .int .i64 k ∧ n = .int .i64 (nanoK F k) ∧ b = .bool (restK F k)) (fun i _ _ => K - (intOf i).toNat)
                          case atStart => exact ⟨0, Nat.zero_le _, rfl, rfl, rfl⟩
                          case round =>
                            obtain ⟨k, hk, rfl, rfl, rfl⟩ := hrel
                            by_cases hlt : k < K
                            · have hlt' : (k : Int) < (K : Int) := by omega
                              have hd := HDR.out k
                              have hdn : dOf F k = (match F[k]? with | some c => (c.toNat : Int) - 48 | none => 0) := rfl
                              by_cases hkf : k < F.length
                              · have hkf' : (k : Int) < (F.length : Int) := by omega
                                obtain ⟨c, hc⟩ : ∃ c, F[k]? = some c := ⟨_, List.getElem?_eq_getElem hkf⟩
                                have hix := fun w => mkS_index F (k : Int) c (by omega) (by rw [Int.toNat_natCast]; exact hc) w
                                have hdc := dOf_some F k c hc
                                by_cases h9 : k < 9
                                · have h9' : (k : Int) < 9 := by omega
                                  have hn := HN.out k (by omega)
                                  have hp8 := pow10_le (show k ≤ 8 by omega)
                                  have e8 : (10 : Nat) ^ 8 = 100000000 := by decide
                                  have hnx : nanoK F (k + 1) = nanoK F k * 10 + ((c.toNat : Int) - 48) := by rw [nanoK, if_pos h9, hdc]
                                  have hrx : restK F (k + 1) = restK F k := by rw [restK, if_pos h9]
                                  have HNX := Lib.hid hnx
                                  have HRX := Lib.hid hrx
                                  have hn1 : 0 ≤ nanoK F k ∧ nanoK F k < 100000000 := by omega
                                  have hc1 : 48 ≤ (c.toNat : Int) ∧ (c.toNat : Int) ≤ 57 := by omega
                                  clear hnx hrx hdc hdn hd hc hn hp8 e8
                                  generalize nanoK F k = nn at *
                                  generalize restK F k = rr at *
                                  go_wp2
                                  go_round
                                  case rel => exact ⟨k + 1, by omega, by go_num, by rw [HNX.out], by rw [HRX.out]⟩
                                  case measure => simp [intOf]; omega
                                · have h9' : ¬ (k : Int) < 9 := by omega
                                  have hnx : nanoK F (k + 1) = nanoK F k := by rw [nanoK, if_neg h9]
                                  have hrx : restK F (k + 1) = (restK F k || decide ((0 : Int) < (c.toNat : Int) - 48)) := by rw [restK, if_neg h9, hdc]
                                  have HNX := Lib.hid hnx
                                  have HRX := Lib.hid hrx
                                  have hc1 : 48 ≤ (c.toNat : Int) ∧ (c.toNat : Int) ≤ 57 := by omega
                                  clear hnx hrx hdc hdn hd hc
                                  generalize nanoK F k = nn at *
                                  generalize restK F k = rr at *
                                  cases rr
                                  · go_wp2
                                    go_round
                                    case rel => exact ⟨k + 1, by omega, by go_num, by rw [HNX.out], by rw [HRX.out]; simp⟩
                                    case measure => simp [intOf]; omega
                                  · go_wp2
                                    go_round
                                    case rel => exact ⟨k + 1, by omega, by go_num, by rw [HNX.out], by rw [HRX.out]; simp⟩
                                    case measure => simp [intOf]; omega
                              · have hkf' : ¬ (k : Int) < (F.length : Int) := by omega
                                have h9 : k < 9 := by omega
                                have h9' : (k : Int) < 9 := by omega
                                have hn := HN.out k (by omega)
                                have hp8 := pow10_le (show k ≤ 8 by omega)
                                have e8 : (10 : Nat) ^ 8 = 100000000 := by decide
                                have hnx : nanoK F (k + 1) = nanoK F k * 10 := by rw [nanoK, if_pos h9, dOf_none F k (by omega)]; omega
                                have hrx : restK F (k + 1) = restK F k := by rw [restK, if_pos h9]
                                have HNX := Lib.hid hnx
                                have HRX := Lib.hid hrx
                                have hn1 : 0 ≤ nanoK F k ∧ nanoK F k < 100000000 := by omega
                                clear hnx hrx hdn hd hn hp8 e8
                                generalize nanoK F k = nn at *
                                generalize restK F k = rr at *
                                go_wp2
                                go_round
                                case rel => exact ⟨k + 1, by omega, by go_num, by rw [HNX.out], by rw [HRX.out]⟩
                                case measure => simp [intOf]; omega
                            · obtain rfl : k = K := by omega
                              have hnl : ¬ (k : Int) < (k : Int) := by omega
                              have hn := HN.out 9 (by omega)
                              rw [nano_end F 9 (by omega), show (10 : Nat) ^ 9 = 1000000000 by decide] at hn
                              rw [nano_end F k hK9, rest_end F HFD.out k hK9 hKl]
                              have hR3 := HR2.out
                              clear HN HDR HFD HR2 hlt hk
                              generalize nanoD F = nn at *
                              generalize moreD F = b at *
                              cases neg
                              · have HR3 := hR3
                                unfold timeF at HR3
                                simp only [Bool.false_and, Bool.false_eq_true, if_false] at HR3
                                clear hR3
                                go_upto_region 38 with fail
                                by_cases hrb : rightB (sec) (nn) = true
                                all_goals
                                  have RR := Lib.hid (fun w => refRight_any (sec) (nn) w)
                                  first
                                    | rw [hrb] at RR
                                    | (rw [Bool.not_eq_true] at hrb; rw [hrb] at RR)
                                  first
                                    | rw [if_pos hrb] at HR3
                                    | rw [if_neg (by rw [hrb]; simp)] at HR3
                                  clear hrb
                                  go_wp2_with (go_at_call 14
                                               refine (RR.out _).mono ?_
                                               rintro e w3 ⟨rfl, h3⟩
                                               have j0 := (h3.cell (p := ⟨w.heap.size, 0, none⟩) (by simp; omega)).trans (((Below.refl w2.heap.size w2).alloc (Nat.le_refl _) _ |>.cell (p := ⟨w.heap.size, 0, none⟩) sw).trans k0)
                                               have j1 := (h3.cell (p := ⟨w.heap.size, 1, none⟩) (by simp; omega)).trans (((Below.refl w2.heap.size w2).alloc (Nat.le_refl _) _ |>.cell (p := ⟨w.heap.size, 1, none⟩) sw).trans k1)
                                               have jf0 := (h3.frozen (p := ⟨w.heap.size, 0, none⟩) (by simp; omega)).trans (((Below.refl w2.heap.size w2).alloc (Nat.le_refl _) _ |>.frozen (p := ⟨w.heap.size, 0, none⟩) sw).trans fr0)
                                               have jf1 := (h3.frozen (p := ⟨w.heap.size, 1, none⟩) (by simp; omega)).trans (((Below.refl w2.heap.size w2).alloc (Nat.le_refl _) _ |>.frozen (p := ⟨w.heap.size, 1, none⟩) sw).trans fr1)
                                               have jt0 : w3.cell? ⟨w2.heap.size, 0, none⟩ = some (.int .i64 (sec)) := (h3.cell (p := ⟨w2.heap.size, 0, none⟩) (by simp)).trans (by simp [go_sem])
                                               have jt1 : w3.cell? ⟨w2.heap.size, 1, none⟩ = some (.int .i64 (nn)) := (h3.cell (p := ⟨w2.heap.size, 1, none⟩) (by simp)).trans (by simp [go_sem])
                                               have jb := (hbl.alloc hbl.size _).trans (h3.mono (by have := hbl.size; simp; omega))
                                               have jw : w.heap.size < w3.heap.size := Nat.lt_of_lt_of_le sw (by have := h3.size; simp at this; omega))
                                  rw [HR3]
                                  first
                                    | exact bodyPost_ret (v := .tuple #[tmV (sec) (nn), .int .i64 0]) (by simp [results, Tryd.results11, go_sem, j0, j1]) rfl ⟨rfl, (jb.setCell (Nat.le_refl _) _).setCell (Nat.le_refl _) _⟩
                                    | exact bodyPost_ret (v := .tuple #[tmV 0 0, .int .i64 2]) (by simp [results, Tryd.results11, go_sem, j0, j1]) rfl ⟨rfl, (jb.setCell (Nat.le_refl _) _).setCell (Nat.le_refl _) _⟩
                              · cases b
                                · have OA := Lib.hid (fun w => one_any false w)
                                  by_cases hn0 : nn = 0
                                  · subst hn0
                                    have HR3 : readF true u = if rightB (-sec) 0 = true then (0, -sec, 0) else (2, 0, 0) := by rw [hR3]; rfl
                                    have H3 := Lib.hid HR3
                                    clear hR3 HR3
                                    go_wp2_with (go_at_call 35; refine (OA.out _).mono ?_; rintro e w6 ⟨rfl, hw⟩; replace hw := hw.symm; subst hw)
                                    refine wp_loop_rounds 1 ?_
                                    rw [rounds_succ]
                                    go_wp2_with fail
                                    by_cases hrb : rightB (-sec) (0) = true
                                    all_goals
                                      have RR := Lib.hid (fun w => refRight_any (-sec) (0) w)
                                      first
                                        | rw [hrb] at RR
                                        | (rw [Bool.not_eq_true] at hrb; rw [hrb] at RR)
                                      have HR3 := H3.out
                                      first
                                        | rw [if_pos hrb] at HR3
                                        | rw [if_neg (by rw [hrb]; simp)] at HR3
                                      clear hrb
                                      refine (RR.out _).mono ?_
                                      rintro e w3 ⟨rfl, h3⟩
                                      have j0 := (h3.cell (p := ⟨w.heap.size, 0, none⟩) (by simp; omega)).trans (((Below.refl w2.heap.size w2).alloc (Nat.le_refl _) _ |>.cell (p := ⟨w.heap.size, 0, none⟩) sw).trans k0)
                                      have j1 := (h3.cell (p := ⟨w.heap.size, 1, none⟩) (by simp; omega)).trans (((Below.refl w2.heap.size w2).alloc (Nat.le_refl _) _ |>.cell (p := ⟨w.heap.size, 1, none⟩) sw).trans k1)
                                      have jf0 := (h3.frozen (p := ⟨w.heap.size, 0, none⟩) (by simp; omega)).trans (((Below.refl w2.heap.size w2).alloc (Nat.le_refl _) _ |>.frozen (p := ⟨w.heap.size, 0, none⟩) sw).trans fr0)
                                      have jf1 := (h3.frozen (p := ⟨w.heap.size, 1, none⟩) (by simp; omega)).trans (((Below.refl w2.heap.size w2).alloc (Nat.le_refl _) _ |>.frozen (p := ⟨w.heap.size, 1, none⟩) sw).trans fr1)
                                      have jt0 : w3.cell? ⟨w2.heap.size, 0, none⟩ = some (.int .i64 (-sec)) := (h3.cell (p := ⟨w2.heap.size, 0, none⟩) (by simp)).trans (by simp [go_sem])
                                      have jt1 : w3.cell? ⟨w2.heap.size, 1, none⟩ = some (.int .i64 (0)) := (h3.cell (p := ⟨w2.heap.size, 1, none⟩) (by simp)).trans (by simp [go_sem])
                                      have jb := (hbl.alloc hbl.size _).trans (h3.mono (by have := hbl.size; simp; omega))
                                      have jw : w.heap.size < w3.heap.size := Nat.lt_of_lt_of_le sw (by have := h3.size; simp at this; omega)
                                      have H4 := Lib.hid HR3
                                      clear h3 HR3
                                      go_wp2_with fail
                                      rw [H4.out]
                                      first
                                        | exact bodyPost_ret (v := .tuple #[tmV (-sec) (0), .int .i64 0]) (by simp [results, Tryd.results11, go_sem, j0, j1]) rfl ⟨rfl, (jb.setCell (Nat.le_refl _) _).setCell (Nat.le_refl _) _⟩
                                        | exact bodyPost_ret (v := .tuple #[tmV 0 0, .int .i64 2]) (by simp [results, Tryd.results11, go_sem, j0, j1]) rfl ⟨rfl, (jb.setCell (Nat.le_refl _) _).setCell (Nat.le_refl _) _⟩
                                  · have HR3 : readF true u = if rightB (-sec - 1) (-nn + 1000000000) = true then (0, -sec - 1, -nn + 1000000000) else (2, 0, 0) := by
                                      rw [hR3]
                                      unfold timeF
                                      simp only [Bool.and_false, Bool.false_eq_true, if_true, if_false]
                                      rw [show negS sec nn = -sec - 1 from if_neg hn0, show negN nn = -nn + 1000000000 by unfold negN; rw [if_neg hn0]; omega]
                                    have hq : -nn < 0 := by omega
                                    have hq2 : ¬ -nn + 1000000000 < 0 := by omega
                                    have H3 := Lib.hid HR3
                                    clear hR3 HR3 hn0
                                    go_wp2_with (go_at_call 35; refine (OA.out _).mono ?_; rintro e w6 ⟨rfl, hw⟩; replace hw := hw.symm; subst hw)
                                    refine wp_loop_rounds 2 ?_
                                    rw [rounds_succ]
                                    go_wp2_with fail
                                    rw [rounds_succ]
                                    go_wp2_with fail
                                    by_cases hrb : rightB (-sec - 1) (-nn + 1000000000) = true
                                    all_goals
                                      have RR := Lib.hid (fun w => refRight_any (-sec - 1) (-nn + 1000000000) w)
                                      first
                                        | rw [hrb] at RR
                                        | (rw [Bool.not_eq_true] at hrb; rw [hrb] at RR)
                                      have HR3 := H3.out
                                      first
                                        | rw [if_pos hrb] at HR3
                                        | rw [if_neg (by rw [hrb]; simp)] at HR3
                                      clear hrb
                                      refine (RR.out _).mono ?_
                                      rintro e w3 ⟨rfl, h3⟩
                                      have j0 := (h3.cell (p := ⟨w.heap.size, 0, none⟩) (by simp; omega)).trans (((Below.refl w2.heap.size w2).alloc (Nat.le_refl _) _ |>.cell (p := ⟨w.heap.size, 0, none⟩) sw).trans k0)
                                      have j1 := (h3.cell (p := ⟨w.heap.size, 1, none⟩) (by simp; omega)).trans (((Below.refl w2.heap.size w2).alloc (Nat.le_refl _) _ |>.cell (p := ⟨w.heap.size, 1, none⟩) sw).trans k1)
                                      have jf0 := (h3.frozen (p := ⟨w.heap.size, 0, none⟩) (by simp; omega)).trans (((Below.refl w2.heap.size w2).alloc (Nat.le_refl _) _ |>.frozen (p := ⟨w.heap.size, 0, none⟩) sw).trans fr0)
                                      have jf1 := (h3.frozen (p := ⟨w.heap.size, 1, none⟩) (by simp; omega)).trans (((Below.refl w2.heap.size w2).alloc (Nat.le_refl _) _ |>.frozen (p := ⟨w.heap.size, 1, none⟩) sw).trans fr1)
                                      have jt0 : w3.cell? ⟨w2.heap.size, 0, none⟩ = some (.int .i64 (-sec - 1)) := (h3.cell (p := ⟨w2.heap.size, 0, none⟩) (by simp)).trans (by simp [go_sem])
                                      have jt1 : w3.cell? ⟨w2.heap.size, 1, none⟩ = some (.int .i64 (-nn + 1000000000)) := (h3.cell (p := ⟨w2.heap.size, 1, none⟩) (by simp)).trans (by simp [go_sem])
                                      have jb := (hbl.alloc hbl.size _).trans (h3.mono (by have := hbl.size; simp; omega))
                                      have jw : w.heap.size < w3.heap.size := Nat.lt_of_lt_of_le sw (by have := h3.size; simp at this; omega)
                                      have H4 := Lib.hid HR3
                                      clear h3 HR3
                                      go_wp2_with fail
                                      rw [H4.out]
                                      first
                                        | exact bodyPost_ret (v := .tuple #[tmV (-sec - 1) (-nn + 1000000000), .int .i64 0]) (by simp [results, Tryd.results11, go_sem, j0, j1]) rfl ⟨rfl, (jb.setCell (Nat.le_refl _) _).setCell (Nat.le_refl _) _⟩
                                        | exact bodyPost_ret (v := .tuple #[tmV 0 0, .int .i64 2]) (by simp [results, Tryd.results11, go_sem, j0, j1]) rfl ⟨rfl, (jb.setCell (Nat.le_refl _) _).setCell (Nat.le_refl _) _⟩
                                · have HR3 : readF true u = if rightB (-sec - 1) (-nn - 1 + 1000000000) = true then (0, -sec - 1, -nn - 1 + 1000000000) else (2, 0, 0) := by
                                    rw [hR3]
                                    unfold timeF
                                    simp only [Bool.and_self, if_true]
                                    rw [show negS sec (nn + 1) = -sec - 1 from if_neg (by omega), show negN (nn + 1) = -nn - 1 + 1000000000 by unfold negN; rw [if_neg (by omega)]; omega]
                                  have hq : -nn - 1 < 0 := by omega
                                  have hq2 : ¬ -nn - 1 + 1000000000 < 0 := by omega
                                  have H3 := Lib.hid HR3
                                  have OA := Lib.hid (fun w => one_any true w)
                                  clear hR3 HR3
                                  go_wp2_with (go_at_call 35; refine (OA.out _).mono ?_; rintro e w6 ⟨rfl, hw⟩; replace hw := hw.symm; subst hw)
                                  refine wp_loop_rounds 2 ?_
                                  rw [rounds_succ]
                                  go_wp2_with fail
                                  rw [rounds_succ]
                                  go_wp2_with fail
                                  by_cases hrb : rightB (-sec - 1) (-nn - 1 + 1000000000) = true
                                  all_goals
                                    have RR := Lib.hid (fun w => refRight_any (-sec - 1) (-nn - 1 + 1000000000) w)
                                    first
                                      | rw [hrb] at RR
                                      | (rw [Bool.not_eq_true] at hrb; rw [hrb] at RR)
                                    have HR3 := H3.out
                                    first
                                      | rw [if_pos hrb] at HR3
                                      | rw [if_neg (by rw [hrb]; simp)] at HR3
                                    clear hrb
                                    refine (RR.out _).mono ?_
                                    rintro e w3 ⟨rfl, h3⟩
                                    have j0 := (h3.cell (p := ⟨w.heap.size, 0, none⟩) (by simp; omega)).trans (((Below.refl w2.heap.size w2).alloc (Nat.le_refl _) _ |>.cell (p := ⟨w.heap.size, 0, none⟩) sw).trans k0)
                                    have j1 := (h3.cell (p := ⟨w.heap.size, 1, none⟩) (by simp; omega)).trans (((Below.refl w2.heap.size w2).alloc (Nat.le_refl _) _ |>.cell (p := ⟨w.heap.size, 1, none⟩) sw).trans k1)
                                    have jf0 := (h3.frozen (p := ⟨w.heap.size, 0, none⟩) (by simp; omega)).trans (((Below.refl w2.heap.size w2).alloc (Nat.le_refl _) _ |>.frozen (p := ⟨w.heap.size, 0, none⟩) sw).trans fr0)
                                    have jf1 := (h3.frozen (p := ⟨w.heap.size, 1, none⟩) (by simp; omega)).trans (((Below.refl w2.heap.size w2).alloc (Nat.le_refl _) _ |>.frozen (p := ⟨w.heap.size, 1, none⟩) sw).trans fr1)
                                    have jt0 : w3.cell? ⟨w2.heap.size, 0, none⟩ = some (.int .i64 (-sec - 1)) := (h3.cell (p := ⟨w2.heap.size, 0, none⟩) (by simp)).trans (by simp [go_sem])
                                    have jt1 : w3.cell? ⟨w2.heap.size, 1, none⟩ = some (.int .i64 (-nn - 1 + 1000000000)) := (h3.cell (p := ⟨w2.heap.size, 1, none⟩) (by simp)).trans (by simp [go_sem])
                                    have jb := (hbl.alloc hbl.size _).trans (h3.mono (by have := hbl.size; simp; omega))
                                    have jw : w.heap.size < w3.heap.size := Nat.lt_of_lt_of_le sw (by have := h3.size; simp at this; omega)
                                    have H4 := Lib.hid HR3
                                    clear h3 HR3
                                    go_wp2_with fail
                                    rw [H4.out]
                                    first
                                      | exact bodyPost_ret (v := .tuple #[tmV (-sec - 1) (-nn - 1 + 1000000000), .int .i64 0]) (by simp [results, Tryd.results11, go_sem, j0, j1]) rfl ⟨rfl, (jb.setCell (Nat.le_refl _) _).setCell (Nat.le_refl _) _⟩
                                      | exact bodyPost_ret (v := .tuple #[tmV 0 0, .int .i64 2]) (by simp [results, Tryd.results11, go_sem, j0, j1]) rfl ⟨rfl, (jb.setCell (Nat.le_refl _) _).setCell (Nat.le_refl _) _⟩
end Go.Proofs.YtncdmineepagpaaDoor
