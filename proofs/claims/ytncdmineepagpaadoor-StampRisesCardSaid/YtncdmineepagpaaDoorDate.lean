/- stamp.Date and the reference's Date: the date of the second's day, and the hour, minute and second. -/
import Derived.Test.YtncdmineepagpaaDoorDat
import Derived.Laws.CopyOwn
namespace Go.Proofs.YtncdmineepagpaaDoor
open Go.RowKit Go.Joins

theorem push2 (h : Array Obj) (a b : Obj) : ((h.push a).push b)[h.size + 1]? = some b := by
  have := Array.getElem?_push_size (xs := h.push a) (x := b)
  rwa [Array.size_push] at this

/-- A date, as a value. -/
abbrev dateV (y m d h i s : Int) : Value := .agg #[.int .i64 y, .int .i64 m, .int .i64 d, .int .i64 h, .int .i64 i, .int .i64 s]

set_option maxRecDepth 100000 in
set_option maxHeartbeats 4000000 in
theorem date_ok (s n : Int) (w : World) (hT : TabLaid w) (hr : rightB s n = true) :
    Calls Tryd.prog 15 #[tmV s n] w fun e w' => ∃ y m d, IsDate (s / 86400) y m d ∧ e = .returned (dateV y m d (s % 86400 / 3600) (s % 86400 / 60 % 60) (s % 60)) ∧ Below w.heap.size w w' := by
  obtain ⟨h1, h2, h3, h4⟩ := rightB_true s n hr
  have hp : ∀ w, Calls Tryd.prog 42 #[tmV s n] w fun e w' => e = .returned (.bool true) ∧ w' = w.alloc (.cells #[.int .i64 s, .int .i64 n] 23) := fun w => hr ▸ right_ex s n w
  have R := Lib.hid hp
  have HT := Lib.hid hT
  clear hp hT hr
  have hs1 : 0 ≤ s % 86400 ∧ s % 86400 < 86400 := by omega
  go_enter Tryd.func15, Tryd.ntmps15
  go_wp2_with (first
    | (go_at_call 42; refine (R.out _).mono ?_; rintro e w' ⟨rfl, hw⟩; replace hw := hw.symm; subst hw)
    | (go_at_call 45; refine (divide_any _ _ _ (by omega) (by omega) (by omega) (by omega)).mono ?_; rintro e w' ⟨rfl, hw⟩; replace hw := hw.symm; subst hw)
    | (go_at_call 46; refine (calendar_any _ _ (HT.out.below (below_alloc3 _ _ _ _)) (by omega) (by omega)).mono ?_; rintro e w' ⟨y, m, d, hd, rfl, hw⟩; have HD := Lib.hid hd; clear hd; replace hw := hw.symm; subst hw))
  exact bodyPost_ret (v := dateV y m d (s % 86400 / 3600) (s % 86400 / 60 % 60) (s % 60)) (by simp [results, Tryd.results15, go_sem]) rfl ⟨y, m, d, HD.out, rfl, below_alloc3 _ _ _ _⟩

set_option maxRecDepth 100000 in
set_option maxHeartbeats 4000000 in
theorem refDate_ok (s n : Int) (w : World) (h1 : -1099511627776 ≤ s) (h2 : s ≤ 1099511627776) :
    Calls Tryd.prog 16 #[tmV s n] w fun e w' => ∃ y m d, IsDate (s / 86400) y m d ∧ e = .returned (dateV y m d (s % 86400 / 3600) (s % 86400 / 60 % 60) (s % 60)) ∧ Below w.heap.size w w' := by
  have hq := Int.mul_tdiv_add_tmod s 86400
  have hr1 := Int.tmod_lt_of_pos s (show (0 : Int) < 86400 by omega)
  have hr2 := Int.lt_tmod_of_pos s (show (0 : Int) < 86400 by omega)
  generalize hD : s / 86400 = D
  generalize hS : s % 86400 = S
  have hS1 : 0 ≤ S ∧ S < 86400 := by omega
  have hD1 : -12725830 ≤ D ∧ D ≤ 12725830 := by omega
  have hDS : 86400 * D + S = s := by omega
  have h60 : s % 60 = S % 60 := by omega
  rw [h60]
  generalize hq0 : s.tdiv 86400 = q0 at hq
  generalize hr0 : s.tmod 86400 = r0 at hq hr1 hr2
  have Hq := Lib.hid hq
  have HD := Lib.hid hD
  have HS := Lib.hid hS
  have HDS := Lib.hid hDS
  have hq1 : -12725830 ≤ q0 ∧ q0 ≤ 12725830 := by omega
  clear hq hD hS h60 hDS
  go_enter Tryd.func16, Tryd.ntmps16
  go_wp2
  go_quiet (fail)
  have hb0 : Below w.heap.size w (((w.alloc (Obj.cells #[Value.int IntKind.i64 s, Value.int IntKind.i64 n] 23)).alloc (Obj.cells #[Value.int IntKind.i64 0, Value.int IntKind.i64 0, Value.int IntKind.i64 0, Value.int IntKind.i64 0, Value.int IntKind.i64 0, Value.int IntKind.i64 0] 34)).drewN nq) := (below_alloc2 _ _ _).trans (below_draws _ _ _)
  have HB := Lib.hid hb0
  clear hb0
  go_wp2
  go_loop [3, 4] (fun day sec => ∃ d r : Int, day = .int .i64 d ∧ sec = .int .i64 r ∧ 86400 * d + r = s ∧ -86400 < r ∧ r < 86400) (fun _ r => if (intOf r) < 0 then 1 else 0)
  case atStart => exact ⟨q0, r0, rfl, rfl, Hq.out, hr2, hr1⟩
  case round =>
    obtain ⟨d, r, rfl, rfl, hdr, hra, hrb⟩ := hrel
    by_cases hneg : r < 0
    · have Hdr := Lib.hid hdr
      have hd1 : -12725830 ≤ d ∧ d ≤ 12725830 := by omega
      clear hdr
      go_wp2
      go_round
      case rel => have := Hdr.out; exact ⟨d - 1, r + 86400, rfl, rfl, by omega, by omega, by omega⟩
      case measure => simp [intOf, hneg, show ¬ r + 86400 < 0 by omega]
    · have e1 : d = D := by have := HDS.out; omega
      have e2 : r = S := by have := HDS.out; omega
      subst e1 e2
      clear hq0 hr0 hq1 hr1 hr2 hdr hneg Hq
      go_wp2
      go_loop [3, 5] (fun day year => ∃ e y : Int, day = .int .i64 e ∧ year = .int .i64 y ∧ e + yday y = d ∧ -12725830 ≤ e ∧ e ≤ 12725830 ∧ (y - 1970) * 146097 = 400 * (d - e)) (fun e _ => if intOf e < 0 then (146097 - intOf e).toNat else (intOf e).toNat)
      case atStart => exact ⟨d, 1970, rfl, rfl, by rw [show yday 1970 = 0 from by decide]; omega, hD1.1, hD1.2, by omega⟩
      case round =>
        obtain ⟨e, y, rfl, rfl, hey, he1, he2, hye⟩ := hrel
        have hy1 : -100000 ≤ y ∧ y ≤ 100000 := by omega
        have Hey := Lib.hid hey
        have Hye := Lib.hid hye
        clear hey hye
        by_cases hneg : e < 0
        · go_wp2
          go_round
          case rel =>
            have hey := Hey.out; have hye := Hye.out
            have h4 := yday_400 (y - 400)
            rw [show y - 400 + 400 = y by omega] at h4
            exact ⟨e + 146097, y - 400, rfl, rfl, by omega, by omega, by omega, by omega⟩
          case measure =>
            by_cases c : e + 146097 < 0 <;> simp only [intOf, hneg, c, if_true, if_false] <;> omega
        · by_cases hbig : 146097 ≤ e
          · have hneg' : decide (e < 0) = false := by simpa using hneg
            go_wp2
            go_round
            case rel =>
              have hey := Hey.out; have hye := Hye.out
              have h4 := yday_400 y
              exact ⟨e - 146097, y + 400, rfl, rfl, by omega, by omega, by omega, by omega⟩
            case measure =>
              have c : ¬ e - 146097 < 0 := by omega
              simp only [intOf, hneg, c, if_false]; omega
          · have hneg' : decide (e < 0) = false := by simpa using hneg
            have hbig' : decide (146097 ≤ e) = false := by simpa using hbig
            go_wp2
            go_loop [3, 5] (fun day year => ∃ f z : Int, day = .int .i64 f ∧ year = .int .i64 z ∧ f + yday z = d ∧ 0 ≤ f ∧ f ≤ 146097 ∧ y ≤ z ∧ z + f ≤ y + e) (fun f _ => (intOf f).toNat)
            case atStart => exact ⟨e, y, rfl, rfl, Hey.out, by omega, by omega, by omega, by omega⟩
            case round =>
              obtain ⟨f, z, rfl, rfl, hfz, hf1, hf2, hz1, hz2⟩ := hrel
              have hz3 : -100000 ≤ z ∧ z ≤ 250000 := by omega
              have Hfz := Lib.hid hfz
              have hl := lp_01 z
              clear hfz
              by_cases hmore : 365 + lp z ≤ f
              · go_wp2_with (first
                  | (go_at_call 47; refine (leap_any _ _).mono ?_; rintro ev w' ⟨rfl, hw⟩; replace hw := hw.symm; subst hw)
                  | (go_at_call 35; refine (lp_one _ _).mono ?_; rintro ev w' ⟨rfl, hw⟩; replace hw := hw.symm; subst hw))
                go_round
                case rel =>
                  have hfz := Hfz.out
                  have h4 := yday_succ z
                  exact ⟨f - (365 + lp z), z + 1, rfl, rfl, by omega, by omega, by omega, by omega, by omega⟩
                case measure => simp [intOf]; omega
              · have hmore' : decide (365 + lp z ≤ f) = false := by simpa using hmore
                have hmore2 : f < 365 + lp z := by omega
                go_wp2_with (first
                  | (go_at_call 47; refine (leap_any _ _).mono ?_; rintro ev w' ⟨rfl, hw⟩; replace hw := hw.symm; subst hw)
                  | (go_at_call 35; refine (lp_one _ _).mono ?_; rintro ev w' ⟨rfl, hw⟩; replace hw := hw.symm; subst hw))
                have hfin : ∀ k : Nat, k ≤ 11 → ∀ g : Int, 0 ≤ g → g + mday z (k + 1) = f → g < mlen z (k + 1) → IsDate d z (k + 1) (g + 1) := by
                  intro k hk g hg hgf hgl
                  exact ⟨by omega, by omega, by omega, by omega, by have := Hfz.out; omega⟩
                have HF := Lib.hid hfin
                clear hfin
                go_loopw [3, 6] (fun day m wr => ∃ k : Nat, ∃ g : Int, k ≤ 11 ∧ day = .int .i64 g ∧ m = .int .i64 k ∧ 0 ≤ g ∧ g + mday z (k + 1) = f ∧ Below w.heap.size w wr ∧ w.heap.size + 2 ≤ wr.heap.size ∧ wr.heap[w.heap.size + 1]? = some (.cells #[.int .i64 0, .int .i64 0, .int .i64 0, .int .i64 0, .int .i64 0, .int .i64 0] 34 (0, 0))) (fun _ m _ => 12 - (intOf m).toNat)
                case atStart => exact ⟨0, f, by omega, rfl, rfl, hf1, by rw [show ((0 : Nat) : Int) + 1 = 1 from rfl, mday_1]; omega, HB.out, by simp, push2 w.heap _ _⟩
                case round =>
                  obtain ⟨k, g, hk, rfl, rfl, hg, hgf, hbw, hsz, hrow⟩ := hrel
                  have hrow2 : ∀ o, (wr.alloc o).heap[w.heap.size + 1]? = some (.cells #[.int .i64 0, .int .i64 0, .int .i64 0, .int .i64 0, .int .i64 0, .int .i64 0] 34 (0, 0)) := fun o => by rw [Below.heap_alloc wr o _ (by omega)]; exact hrow
                  have hres : ∀ o cells j, ((wr.alloc o).setRow (w.heap.size + 1) cells).cell? ⟨w.heap.size + 1, j, none⟩ = cells[j]? := fun o cells j => cell_setRow_same _ _ j _ cells _ _ (hrow2 o)
                  have Hrow := Lib.hid hrow
                  have Hgf := Lib.hid hgf
                  have hgb : g ≤ 400 := by have := (mday_range z (k + 1) (by omega) (by omega)).1; omega
                  clear hgf hrow
                  rcases (show k = 0 ∨ k = 1 ∨ k = 2 ∨ k = 3 ∨ k = 4 ∨ k = 5 ∨ k = 6 ∨ k = 7 ∨ k = 8 ∨ k = 9 ∨ k = 10 ∨ k = 11 by omega) with rfl | rfl | rfl | rfl | rfl | rfl | rfl | rfl | rfl | rfl | rfl | rfl
                  · have hml : mlen z (((0 : Nat) : Int) + 1) = 31 := by simp [mlen]
                    by_cases hlt : g < 31
                    · go_wp2_with (first
                        | (go_at_call 47; refine (leap_any _ _).mono ?_; rintro ev w' ⟨rfl, hw⟩; replace hw := hw.symm; subst hw)
                        | (go_at_call 35; refine (lp_one _ _).mono ?_; rintro ev w' ⟨rfl, hw⟩; replace hw := hw.symm; subst hw)
                        | (refine wpList_store_row rfl _ _ _ rfl _ _ rfl rfl _ _ (hrow2 _) (by kernel_rfl) rfl (by simp; exact ⟨rfl, rfl, rfl, rfl, rfl, rfl⟩) ?_))
                      refine bodyPost_ret (v := dateV z 1 (g + 1) (r / 3600) (r % 3600 / 60) (r % 60)) (by simp [results, Tryd.results16, go_sem, hres]) rfl ?_
                      rw [show r % 3600 / 60 = r / 60 % 60 by omega]
                      exact ⟨z, ((0 : Nat) : Int) + 1, g + 1, HF.out 0 (by omega) g hg Hgf.out (by rw [hml]; exact hlt), rfl, below_setRow (hbw.alloc (by omega) _) (by omega) _⟩
                    · have hlt' : decide (g < 31) = false := by simpa using hlt
                      go_wp2_with (first
                        | (go_at_call 47; refine (leap_any _ _).mono ?_; rintro ev w' ⟨rfl, hw⟩; replace hw := hw.symm; subst hw)
                        | (go_at_call 35; refine (lp_one _ _).mono ?_; rintro ev w' ⟨rfl, hw⟩; replace hw := hw.symm; subst hw)
                        | (refine wpList_store_row rfl _ _ _ rfl _ _ rfl rfl _ _ (hrow2 _) (by kernel_rfl) rfl (by simp; exact ⟨rfl, rfl, rfl, rfl, rfl, rfl⟩) ?_))
                      go_roundw
                      case rel =>
                        have hgf := Hgf.out
                        have hms := mday_succ z (((0 : Nat) : Int) + 1) (by omega) (by omega)
                        exact ⟨0 + 1, g - (31), by omega, rfl, rfl, by omega, by rw [show (((0 + 1 : Nat) : Int) + 1) = ((0 : Nat) : Int) + 1 + 1 by omega]; omega, hbw.alloc (by omega) _, by simp; omega, hrow2 _⟩
                      case measure => simp [intOf]
                  · have hml : mlen z (((1 : Nat) : Int) + 1) = 28 + lp z := by simp [mlen]
                    by_cases hlt : g < 28 + lp z
                    · go_wp2_with (first
                        | (go_at_call 47; refine (leap_any _ _).mono ?_; rintro ev w' ⟨rfl, hw⟩; replace hw := hw.symm; subst hw)
                        | (go_at_call 35; refine (lp_one _ _).mono ?_; rintro ev w' ⟨rfl, hw⟩; replace hw := hw.symm; subst hw)
                        | (refine wpList_store_row rfl _ _ _ rfl _ _ rfl rfl _ _ (hrow2 _) (by kernel_rfl) rfl (by simp; exact ⟨rfl, rfl, rfl, rfl, rfl, rfl⟩) ?_))
                      refine bodyPost_ret (v := dateV z 2 (g + 1) (r / 3600) (r % 3600 / 60) (r % 60)) (by simp [results, Tryd.results16, go_sem, hres]) rfl ?_
                      rw [show r % 3600 / 60 = r / 60 % 60 by omega]
                      exact ⟨z, ((1 : Nat) : Int) + 1, g + 1, HF.out 1 (by omega) g hg Hgf.out (by rw [hml]; exact hlt), rfl, below_setRow (hbw.alloc (by omega) _) (by omega) _⟩
                    · have hlt' : decide (g < 28 + lp z) = false := by simpa using hlt
                      go_wp2_with (first
                        | (go_at_call 47; refine (leap_any _ _).mono ?_; rintro ev w' ⟨rfl, hw⟩; replace hw := hw.symm; subst hw)
                        | (go_at_call 35; refine (lp_one _ _).mono ?_; rintro ev w' ⟨rfl, hw⟩; replace hw := hw.symm; subst hw)
                        | (refine wpList_store_row rfl _ _ _ rfl _ _ rfl rfl _ _ (hrow2 _) (by kernel_rfl) rfl (by simp; exact ⟨rfl, rfl, rfl, rfl, rfl, rfl⟩) ?_))
                      go_roundw
                      case rel =>
                        have hgf := Hgf.out
                        have hms := mday_succ z (((1 : Nat) : Int) + 1) (by omega) (by omega)
                        exact ⟨1 + 1, g - (28 + lp z), by omega, rfl, rfl, by omega, by rw [show (((1 + 1 : Nat) : Int) + 1) = ((1 : Nat) : Int) + 1 + 1 by omega]; omega, hbw.alloc (by omega) _, by simp; omega, hrow2 _⟩
                      case measure => simp [intOf]
                  · have hml : mlen z (((2 : Nat) : Int) + 1) = 31 := by simp [mlen]
                    by_cases hlt : g < 31
                    · go_wp2_with (first
                        | (go_at_call 47; refine (leap_any _ _).mono ?_; rintro ev w' ⟨rfl, hw⟩; replace hw := hw.symm; subst hw)
                        | (go_at_call 35; refine (lp_one _ _).mono ?_; rintro ev w' ⟨rfl, hw⟩; replace hw := hw.symm; subst hw)
                        | (refine wpList_store_row rfl _ _ _ rfl _ _ rfl rfl _ _ (hrow2 _) (by kernel_rfl) rfl (by simp; exact ⟨rfl, rfl, rfl, rfl, rfl, rfl⟩) ?_))
                      refine bodyPost_ret (v := dateV z 3 (g + 1) (r / 3600) (r % 3600 / 60) (r % 60)) (by simp [results, Tryd.results16, go_sem, hres]) rfl ?_
                      rw [show r % 3600 / 60 = r / 60 % 60 by omega]
                      exact ⟨z, ((2 : Nat) : Int) + 1, g + 1, HF.out 2 (by omega) g hg Hgf.out (by rw [hml]; exact hlt), rfl, below_setRow (hbw.alloc (by omega) _) (by omega) _⟩
                    · have hlt' : decide (g < 31) = false := by simpa using hlt
                      go_wp2_with (first
                        | (go_at_call 47; refine (leap_any _ _).mono ?_; rintro ev w' ⟨rfl, hw⟩; replace hw := hw.symm; subst hw)
                        | (go_at_call 35; refine (lp_one _ _).mono ?_; rintro ev w' ⟨rfl, hw⟩; replace hw := hw.symm; subst hw)
                        | (refine wpList_store_row rfl _ _ _ rfl _ _ rfl rfl _ _ (hrow2 _) (by kernel_rfl) rfl (by simp; exact ⟨rfl, rfl, rfl, rfl, rfl, rfl⟩) ?_))
                      go_roundw
                      case rel =>
                        have hgf := Hgf.out
                        have hms := mday_succ z (((2 : Nat) : Int) + 1) (by omega) (by omega)
                        exact ⟨2 + 1, g - (31), by omega, rfl, rfl, by omega, by rw [show (((2 + 1 : Nat) : Int) + 1) = ((2 : Nat) : Int) + 1 + 1 by omega]; omega, hbw.alloc (by omega) _, by simp; omega, hrow2 _⟩
                      case measure => simp [intOf]
                  · have hml : mlen z (((3 : Nat) : Int) + 1) = 30 := by simp [mlen]
                    by_cases hlt : g < 30
                    · go_wp2_with (first
                        | (go_at_call 47; refine (leap_any _ _).mono ?_; rintro ev w' ⟨rfl, hw⟩; replace hw := hw.symm; subst hw)
                        | (go_at_call 35; refine (lp_one _ _).mono ?_; rintro ev w' ⟨rfl, hw⟩; replace hw := hw.symm; subst hw)
                        | (refine wpList_store_row rfl _ _ _ rfl _ _ rfl rfl _ _ (hrow2 _) (by kernel_rfl) rfl (by simp; exact ⟨rfl, rfl, rfl, rfl, rfl, rfl⟩) ?_))
                      refine bodyPost_ret (v := dateV z 4 (g + 1) (r / 3600) (r % 3600 / 60) (r % 60)) (by simp [results, Tryd.results16, go_sem, hres]) rfl ?_
                      rw [show r % 3600 / 60 = r / 60 % 60 by omega]
                      exact ⟨z, ((3 : Nat) : Int) + 1, g + 1, HF.out 3 (by omega) g hg Hgf.out (by rw [hml]; exact hlt), rfl, below_setRow (hbw.alloc (by omega) _) (by omega) _⟩
                    · have hlt' : decide (g < 30) = false := by simpa using hlt
                      go_wp2_with (first
                        | (go_at_call 47; refine (leap_any _ _).mono ?_; rintro ev w' ⟨rfl, hw⟩; replace hw := hw.symm; subst hw)
                        | (go_at_call 35; refine (lp_one _ _).mono ?_; rintro ev w' ⟨rfl, hw⟩; replace hw := hw.symm; subst hw)
                        | (refine wpList_store_row rfl _ _ _ rfl _ _ rfl rfl _ _ (hrow2 _) (by kernel_rfl) rfl (by simp; exact ⟨rfl, rfl, rfl, rfl, rfl, rfl⟩) ?_))
                      go_roundw
                      case rel =>
                        have hgf := Hgf.out
                        have hms := mday_succ z (((3 : Nat) : Int) + 1) (by omega) (by omega)
                        exact ⟨3 + 1, g - (30), by omega, rfl, rfl, by omega, by rw [show (((3 + 1 : Nat) : Int) + 1) = ((3 : Nat) : Int) + 1 + 1 by omega]; omega, hbw.alloc (by omega) _, by simp; omega, hrow2 _⟩
                      case measure => simp [intOf]
                  · have hml : mlen z (((4 : Nat) : Int) + 1) = 31 := by simp [mlen]
                    by_cases hlt : g < 31
                    · go_wp2_with (first
                        | (go_at_call 47; refine (leap_any _ _).mono ?_; rintro ev w' ⟨rfl, hw⟩; replace hw := hw.symm; subst hw)
                        | (go_at_call 35; refine (lp_one _ _).mono ?_; rintro ev w' ⟨rfl, hw⟩; replace hw := hw.symm; subst hw)
                        | (refine wpList_store_row rfl _ _ _ rfl _ _ rfl rfl _ _ (hrow2 _) (by kernel_rfl) rfl (by simp; exact ⟨rfl, rfl, rfl, rfl, rfl, rfl⟩) ?_))
                      refine bodyPost_ret (v := dateV z 5 (g + 1) (r / 3600) (r % 3600 / 60) (r % 60)) (by simp [results, Tryd.results16, go_sem, hres]) rfl ?_
                      rw [show r % 3600 / 60 = r / 60 % 60 by omega]
                      exact ⟨z, ((4 : Nat) : Int) + 1, g + 1, HF.out 4 (by omega) g hg Hgf.out (by rw [hml]; exact hlt), rfl, below_setRow (hbw.alloc (by omega) _) (by omega) _⟩
                    · have hlt' : decide (g < 31) = false := by simpa using hlt
                      go_wp2_with (first
                        | (go_at_call 47; refine (leap_any _ _).mono ?_; rintro ev w' ⟨rfl, hw⟩; replace hw := hw.symm; subst hw)
                        | (go_at_call 35; refine (lp_one _ _).mono ?_; rintro ev w' ⟨rfl, hw⟩; replace hw := hw.symm; subst hw)
                        | (refine wpList_store_row rfl _ _ _ rfl _ _ rfl rfl _ _ (hrow2 _) (by kernel_rfl) rfl (by simp; exact ⟨rfl, rfl, rfl, rfl, rfl, rfl⟩) ?_))
                      go_roundw
                      case rel =>
                        have hgf := Hgf.out
                        have hms := mday_succ z (((4 : Nat) : Int) + 1) (by omega) (by omega)
                        exact ⟨4 + 1, g - (31), by omega, rfl, rfl, by omega, by rw [show (((4 + 1 : Nat) : Int) + 1) = ((4 : Nat) : Int) + 1 + 1 by omega]; omega, hbw.alloc (by omega) _, by simp; omega, hrow2 _⟩
                      case measure => simp [intOf]
                  · have hml : mlen z (((5 : Nat) : Int) + 1) = 30 := by simp [mlen]
                    by_cases hlt : g < 30
                    · go_wp2_with (first
                        | (go_at_call 47; refine (leap_any _ _).mono ?_; rintro ev w' ⟨rfl, hw⟩; replace hw := hw.symm; subst hw)
                        | (go_at_call 35; refine (lp_one _ _).mono ?_; rintro ev w' ⟨rfl, hw⟩; replace hw := hw.symm; subst hw)
                        | (refine wpList_store_row rfl _ _ _ rfl _ _ rfl rfl _ _ (hrow2 _) (by kernel_rfl) rfl (by simp; exact ⟨rfl, rfl, rfl, rfl, rfl, rfl⟩) ?_))
                      refine bodyPost_ret (v := dateV z 6 (g + 1) (r / 3600) (r % 3600 / 60) (r % 60)) (by simp [results, Tryd.results16, go_sem, hres]) rfl ?_
                      rw [show r % 3600 / 60 = r / 60 % 60 by omega]
                      exact ⟨z, ((5 : Nat) : Int) + 1, g + 1, HF.out 5 (by omega) g hg Hgf.out (by rw [hml]; exact hlt), rfl, below_setRow (hbw.alloc (by omega) _) (by omega) _⟩
                    · have hlt' : decide (g < 30) = false := by simpa using hlt
                      go_wp2_with (first
                        | (go_at_call 47; refine (leap_any _ _).mono ?_; rintro ev w' ⟨rfl, hw⟩; replace hw := hw.symm; subst hw)
                        | (go_at_call 35; refine (lp_one _ _).mono ?_; rintro ev w' ⟨rfl, hw⟩; replace hw := hw.symm; subst hw)
                        | (refine wpList_store_row rfl _ _ _ rfl _ _ rfl rfl _ _ (hrow2 _) (by kernel_rfl) rfl (by simp; exact ⟨rfl, rfl, rfl, rfl, rfl, rfl⟩) ?_))
                      go_roundw
                      case rel =>
                        have hgf := Hgf.out
                        have hms := mday_succ z (((5 : Nat) : Int) + 1) (by omega) (by omega)
                        exact ⟨5 + 1, g - (30), by omega, rfl, rfl, by omega, by rw [show (((5 + 1 : Nat) : Int) + 1) = ((5 : Nat) : Int) + 1 + 1 by omega]; omega, hbw.alloc (by omega) _, by simp; omega, hrow2 _⟩
                      case measure => simp [intOf]
                  · have hml : mlen z (((6 : Nat) : Int) + 1) = 31 := by simp [mlen]
                    by_cases hlt : g < 31
                    · go_wp2_with (first
                        | (go_at_call 47; refine (leap_any _ _).mono ?_; rintro ev w' ⟨rfl, hw⟩; replace hw := hw.symm; subst hw)
                        | (go_at_call 35; refine (lp_one _ _).mono ?_; rintro ev w' ⟨rfl, hw⟩; replace hw := hw.symm; subst hw)
                        | (refine wpList_store_row rfl _ _ _ rfl _ _ rfl rfl _ _ (hrow2 _) (by kernel_rfl) rfl (by simp; exact ⟨rfl, rfl, rfl, rfl, rfl, rfl⟩) ?_))
                      refine bodyPost_ret (v := dateV z 7 (g + 1) (r / 3600) (r % 3600 / 60) (r % 60)) (by simp [results, Tryd.results16, go_sem, hres]) rfl ?_
                      rw [show r % 3600 / 60 = r / 60 % 60 by omega]
                      exact ⟨z, ((6 : Nat) : Int) + 1, g + 1, HF.out 6 (by omega) g hg Hgf.out (by rw [hml]; exact hlt), rfl, below_setRow (hbw.alloc (by omega) _) (by omega) _⟩
                    · have hlt' : decide (g < 31) = false := by simpa using hlt
                      go_wp2_with (first
                        | (go_at_call 47; refine (leap_any _ _).mono ?_; rintro ev w' ⟨rfl, hw⟩; replace hw := hw.symm; subst hw)
                        | (go_at_call 35; refine (lp_one _ _).mono ?_; rintro ev w' ⟨rfl, hw⟩; replace hw := hw.symm; subst hw)
                        | (refine wpList_store_row rfl _ _ _ rfl _ _ rfl rfl _ _ (hrow2 _) (by kernel_rfl) rfl (by simp; exact ⟨rfl, rfl, rfl, rfl, rfl, rfl⟩) ?_))
                      go_roundw
                      case rel =>
                        have hgf := Hgf.out
                        have hms := mday_succ z (((6 : Nat) : Int) + 1) (by omega) (by omega)
                        exact ⟨6 + 1, g - (31), by omega, rfl, rfl, by omega, by rw [show (((6 + 1 : Nat) : Int) + 1) = ((6 : Nat) : Int) + 1 + 1 by omega]; omega, hbw.alloc (by omega) _, by simp; omega, hrow2 _⟩
                      case measure => simp [intOf]
                  · have hml : mlen z (((7 : Nat) : Int) + 1) = 31 := by simp [mlen]
                    by_cases hlt : g < 31
                    · go_wp2_with (first
                        | (go_at_call 47; refine (leap_any _ _).mono ?_; rintro ev w' ⟨rfl, hw⟩; replace hw := hw.symm; subst hw)
                        | (go_at_call 35; refine (lp_one _ _).mono ?_; rintro ev w' ⟨rfl, hw⟩; replace hw := hw.symm; subst hw)
                        | (refine wpList_store_row rfl _ _ _ rfl _ _ rfl rfl _ _ (hrow2 _) (by kernel_rfl) rfl (by simp; exact ⟨rfl, rfl, rfl, rfl, rfl, rfl⟩) ?_))
                      refine bodyPost_ret (v := dateV z 8 (g + 1) (r / 3600) (r % 3600 / 60) (r % 60)) (by simp [results, Tryd.results16, go_sem, hres]) rfl ?_
                      rw [show r % 3600 / 60 = r / 60 % 60 by omega]
                      exact ⟨z, ((7 : Nat) : Int) + 1, g + 1, HF.out 7 (by omega) g hg Hgf.out (by rw [hml]; exact hlt), rfl, below_setRow (hbw.alloc (by omega) _) (by omega) _⟩
                    · have hlt' : decide (g < 31) = false := by simpa using hlt
                      go_wp2_with (first
                        | (go_at_call 47; refine (leap_any _ _).mono ?_; rintro ev w' ⟨rfl, hw⟩; replace hw := hw.symm; subst hw)
                        | (go_at_call 35; refine (lp_one _ _).mono ?_; rintro ev w' ⟨rfl, hw⟩; replace hw := hw.symm; subst hw)
                        | (refine wpList_store_row rfl _ _ _ rfl _ _ rfl rfl _ _ (hrow2 _) (by kernel_rfl) rfl (by simp; exact ⟨rfl, rfl, rfl, rfl, rfl, rfl⟩) ?_))
                      go_roundw
                      case rel =>
                        have hgf := Hgf.out
                        have hms := mday_succ z (((7 : Nat) : Int) + 1) (by omega) (by omega)
                        exact ⟨7 + 1, g - (31), by omega, rfl, rfl, by omega, by rw [show (((7 + 1 : Nat) : Int) + 1) = ((7 : Nat) : Int) + 1 + 1 by omega]; omega, hbw.alloc (by omega) _, by simp; omega, hrow2 _⟩
                      case measure => simp [intOf]
                  · have hml : mlen z (((8 : Nat) : Int) + 1) = 30 := by simp [mlen]
                    by_cases hlt : g < 30
                    · go_wp2_with (first
                        | (go_at_call 47; refine (leap_any _ _).mono ?_; rintro ev w' ⟨rfl, hw⟩; replace hw := hw.symm; subst hw)
                        | (go_at_call 35; refine (lp_one _ _).mono ?_; rintro ev w' ⟨rfl, hw⟩; replace hw := hw.symm; subst hw)
                        | (refine wpList_store_row rfl _ _ _ rfl _ _ rfl rfl _ _ (hrow2 _) (by kernel_rfl) rfl (by simp; exact ⟨rfl, rfl, rfl, rfl, rfl, rfl⟩) ?_))
                      refine bodyPost_ret (v := dateV z 9 (g + 1) (r / 3600) (r % 3600 / 60) (r % 60)) (by simp [results, Tryd.results16, go_sem, hres]) rfl ?_
                      rw [show r % 3600 / 60 = r / 60 % 60 by omega]
                      exact ⟨z, ((8 : Nat) : Int) + 1, g + 1, HF.out 8 (by omega) g hg Hgf.out (by rw [hml]; exact hlt), rfl, below_setRow (hbw.alloc (by omega) _) (by omega) _⟩
                    · have hlt' : decide (g < 30) = false := by simpa using hlt
                      go_wp2_with (first
                        | (go_at_call 47; refine (leap_any _ _).mono ?_; rintro ev w' ⟨rfl, hw⟩; replace hw := hw.symm; subst hw)
                        | (go_at_call 35; refine (lp_one _ _).mono ?_; rintro ev w' ⟨rfl, hw⟩; replace hw := hw.symm; subst hw)
                        | (refine wpList_store_row rfl _ _ _ rfl _ _ rfl rfl _ _ (hrow2 _) (by kernel_rfl) rfl (by simp; exact ⟨rfl, rfl, rfl, rfl, rfl, rfl⟩) ?_))
                      go_roundw
                      case rel =>
                        have hgf := Hgf.out
                        have hms := mday_succ z (((8 : Nat) : Int) + 1) (by omega) (by omega)
                        exact ⟨8 + 1, g - (30), by omega, rfl, rfl, by omega, by rw [show (((8 + 1 : Nat) : Int) + 1) = ((8 : Nat) : Int) + 1 + 1 by omega]; omega, hbw.alloc (by omega) _, by simp; omega, hrow2 _⟩
                      case measure => simp [intOf]
                  · have hml : mlen z (((9 : Nat) : Int) + 1) = 31 := by simp [mlen]
                    by_cases hlt : g < 31
                    · go_wp2_with (first
                        | (go_at_call 47; refine (leap_any _ _).mono ?_; rintro ev w' ⟨rfl, hw⟩; replace hw := hw.symm; subst hw)
                        | (go_at_call 35; refine (lp_one _ _).mono ?_; rintro ev w' ⟨rfl, hw⟩; replace hw := hw.symm; subst hw)
                        | (refine wpList_store_row rfl _ _ _ rfl _ _ rfl rfl _ _ (hrow2 _) (by kernel_rfl) rfl (by simp; exact ⟨rfl, rfl, rfl, rfl, rfl, rfl⟩) ?_))
                      refine bodyPost_ret (v := dateV z 10 (g + 1) (r / 3600) (r % 3600 / 60) (r % 60)) (by simp [results, Tryd.results16, go_sem, hres]) rfl ?_
                      rw [show r % 3600 / 60 = r / 60 % 60 by omega]
                      exact ⟨z, ((9 : Nat) : Int) + 1, g + 1, HF.out 9 (by omega) g hg Hgf.out (by rw [hml]; exact hlt), rfl, below_setRow (hbw.alloc (by omega) _) (by omega) _⟩
                    · have hlt' : decide (g < 31) = false := by simpa using hlt
                      go_wp2_with (first
                        | (go_at_call 47; refine (leap_any _ _).mono ?_; rintro ev w' ⟨rfl, hw⟩; replace hw := hw.symm; subst hw)
                        | (go_at_call 35; refine (lp_one _ _).mono ?_; rintro ev w' ⟨rfl, hw⟩; replace hw := hw.symm; subst hw)
                        | (refine wpList_store_row rfl _ _ _ rfl _ _ rfl rfl _ _ (hrow2 _) (by kernel_rfl) rfl (by simp; exact ⟨rfl, rfl, rfl, rfl, rfl, rfl⟩) ?_))
                      go_roundw
                      case rel =>
                        have hgf := Hgf.out
                        have hms := mday_succ z (((9 : Nat) : Int) + 1) (by omega) (by omega)
                        exact ⟨9 + 1, g - (31), by omega, rfl, rfl, by omega, by rw [show (((9 + 1 : Nat) : Int) + 1) = ((9 : Nat) : Int) + 1 + 1 by omega]; omega, hbw.alloc (by omega) _, by simp; omega, hrow2 _⟩
                      case measure => simp [intOf]
                  · have hml : mlen z (((10 : Nat) : Int) + 1) = 30 := by simp [mlen]
                    by_cases hlt : g < 30
                    · go_wp2_with (first
                        | (go_at_call 47; refine (leap_any _ _).mono ?_; rintro ev w' ⟨rfl, hw⟩; replace hw := hw.symm; subst hw)
                        | (go_at_call 35; refine (lp_one _ _).mono ?_; rintro ev w' ⟨rfl, hw⟩; replace hw := hw.symm; subst hw)
                        | (refine wpList_store_row rfl _ _ _ rfl _ _ rfl rfl _ _ (hrow2 _) (by kernel_rfl) rfl (by simp; exact ⟨rfl, rfl, rfl, rfl, rfl, rfl⟩) ?_))
                      refine bodyPost_ret (v := dateV z 11 (g + 1) (r / 3600) (r % 3600 / 60) (r % 60)) (by simp [results, Tryd.results16, go_sem, hres]) rfl ?_
                      rw [show r % 3600 / 60 = r / 60 % 60 by omega]
                      exact ⟨z, ((10 : Nat) : Int) + 1, g + 1, HF.out 10 (by omega) g hg Hgf.out (by rw [hml]; exact hlt), rfl, below_setRow (hbw.alloc (by omega) _) (by omega) _⟩
                    · have hlt' : decide (g < 30) = false := by simpa using hlt
                      go_wp2_with (first
                        | (go_at_call 47; refine (leap_any _ _).mono ?_; rintro ev w' ⟨rfl, hw⟩; replace hw := hw.symm; subst hw)
                        | (go_at_call 35; refine (lp_one _ _).mono ?_; rintro ev w' ⟨rfl, hw⟩; replace hw := hw.symm; subst hw)
                        | (refine wpList_store_row rfl _ _ _ rfl _ _ rfl rfl _ _ (hrow2 _) (by kernel_rfl) rfl (by simp; exact ⟨rfl, rfl, rfl, rfl, rfl, rfl⟩) ?_))
                      go_roundw
                      case rel =>
                        have hgf := Hgf.out
                        have hms := mday_succ z (((10 : Nat) : Int) + 1) (by omega) (by omega)
                        exact ⟨10 + 1, g - (30), by omega, rfl, rfl, by omega, by rw [show (((10 + 1 : Nat) : Int) + 1) = ((10 : Nat) : Int) + 1 + 1 by omega]; omega, hbw.alloc (by omega) _, by simp; omega, hrow2 _⟩
                      case measure => simp [intOf]
                  · have hml : mlen z (((11 : Nat) : Int) + 1) = 31 := by simp [mlen]
                    by_cases hlt : g < 31
                    · go_wp2_with (first
                        | (go_at_call 47; refine (leap_any _ _).mono ?_; rintro ev w' ⟨rfl, hw⟩; replace hw := hw.symm; subst hw)
                        | (go_at_call 35; refine (lp_one _ _).mono ?_; rintro ev w' ⟨rfl, hw⟩; replace hw := hw.symm; subst hw)
                        | (refine wpList_store_row rfl _ _ _ rfl _ _ rfl rfl _ _ (hrow2 _) (by kernel_rfl) rfl (by simp; exact ⟨rfl, rfl, rfl, rfl, rfl, rfl⟩) ?_))
                      refine bodyPost_ret (v := dateV z 12 (g + 1) (r / 3600) (r % 3600 / 60) (r % 60)) (by simp [results, Tryd.results16, go_sem, hres]) rfl ?_
                      rw [show r % 3600 / 60 = r / 60 % 60 by omega]
                      exact ⟨z, ((11 : Nat) : Int) + 1, g + 1, HF.out 11 (by omega) g hg Hgf.out (by rw [hml]; exact hlt), rfl, below_setRow (hbw.alloc (by omega) _) (by omega) _⟩
                    · have := mday_succ z 12 (by omega) (by omega); rw [show (12 : Int) + 1 = 13 from rfl, mday_13] at this; have h12 : mlen z 12 = 31 := by simp [mlen]
                      have hgf := Hgf.out
                      rw [show (((11 : Nat) : Int) + 1) = 12 by omega] at hgf
                      omega
end Go.Proofs.YtncdmineepagpaaDoor
