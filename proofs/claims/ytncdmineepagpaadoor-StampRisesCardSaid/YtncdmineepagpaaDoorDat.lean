/- The parts of both calendars: divide, leap, one, calendar, the reference's Date, Date: what each returns. -/
import Derived.Test.YtncdmineepagpaaDoorCal
import Derived.Test.YtncdmineepagpaaDoorLaid
import Derived.Lib.QuietBelow
namespace Go.Proofs.YtncdmineepagpaaDoor
open Go.RowKit Go.Joins

theorem tmod_neg {n u : Int} (hu : 0 < u) (h : n.tmod u < 0) : n.tmod u + u = n % u := by
  have hn : n < 0 := by
    rcases Int.lt_or_le n 0 with a | a
    · exact a
    · have := Int.tmod_nonneg u a; omega
  rw [Int.tmod_eq_emod] at h ⊢
  by_cases c : 0 ≤ n ∨ u ∣ n
  · rw [if_pos c] at h
    have := Int.emod_nonneg n (show u ≠ 0 by omega); omega
  · rw [if_neg c]; omega
theorem tmod_pos {n u : Int} (hu : 0 < u) (h : ¬ n.tmod u < 0) : n.tmod u = n % u := by
  by_cases c : 0 ≤ n ∨ u ∣ n
  · rw [Int.tmod_eq_emod, if_pos c]; omega
  · rw [Int.tmod_eq_emod, if_neg c] at h
    have := Int.emod_lt_of_pos n hu
    omega
theorem tdiv_whole (n u : Int) (hu : 0 < u) : (n - n % u).tdiv u = n / u := by
  rw [show n - n % u = u * (n / u) by have := Int.mul_ediv_add_emod n u; omega]
  exact Int.mul_tdiv_cancel_left _ (by omega)

theorem divide_any (n u : Int) (w : World) (hu : 0 < u) (hu2 : u ≤ 1099511627776) (h1 : -4611686018427387904 ≤ n) (h2 : n ≤ 4611686018427387904) :
    Calls Tryd.prog 45 #[.int .i64 n, .int .i64 u] w fun e w' => e = .returned (.tuple #[.int .i64 (n / u), .int .i64 (n % u)]) ∧ w' = w := by
  have hm1 := Int.emod_nonneg n (show u ≠ 0 by omega)
  have hm2 := Int.emod_lt_of_pos n hu
  have hd := tdiv_whole n u hu
  have hq1 : n / u ≤ 4611686018427387904 := by
    apply Int.ediv_le_of_le_mul hu
    have : (4611686018427387904 : Int) * 1 ≤ 4611686018427387904 * u := Int.mul_le_mul_of_nonneg_left (by omega) (by omega)
    omega
  have hq2 : -4611686018427387904 ≤ n / u := by
    rw [Int.le_ediv_iff_mul_le hu]
    have : (-4611686018427387904 : Int) * u ≤ -4611686018427387904 * 1 := Int.mul_le_mul_of_nonpos_left (by omega) (by omega)
    omega
  have hd2 : wrap64 (n / u) = n / u := IntWalk.wrap64_in _ ⟨by omega, by omega⟩
  by_cases h : n.tmod u < 0
  · have hr := tmod_neg hu h
    go_enter Tryd.func45, Tryd.ntmps45
    go_wp2
    go_ret2
    exact ⟨rfl, rfl⟩
  · have hr := tmod_pos hu h
    go_enter Tryd.func45, Tryd.ntmps45
    go_wp2
    go_ret2
    exact ⟨rfl, rfl⟩

theorem tmod_zero (n u : Int) : n.tmod u = 0 ↔ n % u = 0 := by
  rw [← Int.dvd_iff_tmod_eq_zero, ← Int.dvd_iff_emod_eq_zero]

theorem leap_any (y : Int) (w : World) :
    Calls Tryd.prog 47 #[.int .i64 y] w fun e w' => e = .returned (.bool (decide (lp y = 1))) ∧ w' = w := by
  by_cases a : y % 4 = 0
  · have t4 := (tmod_zero y 4).2 a
    by_cases b : y % 100 = 0
    · have t100 := (tmod_zero y 100).2 b
      by_cases c : y % 400 = 0
      · have t400 := (tmod_zero y 400).2 c
        have e : lp y = 1 := by simp [lp, a, b, c]
        simp only [e, decide_true]
        clear a b c e
        go_enter Tryd.func47, Tryd.ntmps47
        go_wp2
        go_ret
        exact ⟨rfl, rfl⟩
      · have t400 := mt (tmod_zero y 400).1 c
        have e : decide (lp y = 1) = false := by simp [lp, a, b, c]
        rw [e]
        clear a b c e
        have t4b : (y.tmod 400 == 0) = false := by simpa using t400
        go_enter Tryd.func47, Tryd.ntmps47
        go_wp2
        go_ret
        exact ⟨rfl, rfl⟩
    · have t100 := mt (tmod_zero y 100).1 b
      have e : lp y = 1 := by simp [lp, a, b]
      simp only [e, decide_true]
      clear a b e
      go_enter Tryd.func47, Tryd.ntmps47
      go_wp2
      go_ret
      exact ⟨rfl, rfl⟩
  · have t4 := mt (tmod_zero y 4).1 a
    have e : decide (lp y = 1) = false := by simp [lp, a]
    rw [e]
    clear a e
    go_enter Tryd.func47, Tryd.ntmps47
    go_wp2
    go_ret
    exact ⟨rfl, rfl⟩

theorem one_any (b : Bool) (w : World) :
    Calls Tryd.prog 35 #[.bool b] w fun e w' => e = .returned (.int .i64 (if b then 1 else 0)) ∧ w' = w := by
  cases b
  · go_enter Tryd.func35, Tryd.ntmps35
    go_wp2
    go_ret
    exact ⟨rfl, rfl⟩
  · go_enter Tryd.func35, Tryd.ntmps35
    go_wp2
    go_ret
    exact ⟨rfl, rfl⟩
theorem lp_one (y : Int) (w : World) :
    Calls Tryd.prog 35 #[.bool (decide (lp y = 1))] w fun e w' => e = .returned (.int .i64 (lp y)) ∧ w' = w := by
  refine (one_any _ w).mono ?_
  rintro e w' ⟨rfl, rfl⟩
  have := lp_01 y
  refine ⟨?_, rfl⟩
  rcases (show lp y = 0 ∨ lp y = 1 by omega) with h | h <;> simp [h]

/-- The table of the months' days, as laid. -/
def monD (k : Int) : Int := if k = 1 ∨ k = 3 ∨ k = 6 ∨ k = 8 then 30 else if k = 11 then 29 else 31
def TabLaid (w : World) : Prop := ∀ k : Nat, k < 12 → w.cell? ⟨0, k, none⟩ = some (.int .i64 (monD k))
theorem TabLaid.pos {w : World} (h : TabLaid w) : 0 < w.heap.size := by
  have := h 0 (by omega)
  rcases Nat.lt_or_ge 0 w.heap.size with h0 | h0
  · exact h0
  · simp [World.cell?, Array.getElem?_eq_none h0] at this
theorem TabLaid.below {w w' : World} (h : TabLaid w) (hb : Below w.heap.size w w') : TabLaid w' := fun k hk => by rw [hb.cell (p := ⟨0, k, none⟩) h.pos]; exact h k hk
theorem tabLaid_of {W : World} (h : Lib.VarReads Tryd.prog W "revetment/stamp.monthDays" (Lib.tabData .i64 [31, 30, 31, 30, 31, 31, 30, 31, 30, 31, 31, 29])) : TabLaid W := fun k hk => by
  have := (tabIs_of_reads (g := 0) (by kernel_rfl) (by kernel_rfl) Tryd.underlying99 Tryd.underlying3 (by kernel_rfl) (by kernel_rfl) h).cell (g := 0) (by kernel_rfl) k (by simpa using hk)
  rw [this]
  rcases (show k = 0 ∨ k = 1 ∨ k = 2 ∨ k = 3 ∨ k = 4 ∨ k = 5 ∨ k = 6 ∨ k = 7 ∨ k = 8 ∨ k = 9 ∨ k = 10 ∨ k = 11 by omega) with rfl | rfl | rfl | rfl | rfl | rfl | rfl | rfl | rfl | rfl | rfl | rfl <;> rfl
theorem monD_mar (k : Int) (h0 : 0 ≤ k) (h1 : k ≤ 10) : monD k = mar (k + 1) - mar k := by
  have hk : k = 0 ∨ k = 1 ∨ k = 2 ∨ k = 3 ∨ k = 4 ∨ k = 5 ∨ k = 6 ∨ k = 7 ∨ k = 8 ∨ k = 9 ∨ k = 10 := by omega
  rcases hk with rfl | rfl | rfl | rfl | rfl | rfl | rfl | rfl | rfl | rfl | rfl <;> decide

/-- What calendar answers. -/
structure Parts (days c n a q e : Int) : Prop where
  cc : c = (days + 719468) / 146097
  n0 : 0 ≤ n
  n3 : n ≤ 3
  a0 : 0 ≤ a
  a24 : a ≤ 24
  q0 : 0 ≤ q
  q3 : q ≤ 3
  e0 : 0 ≤ e
  e1 : e < 365 + lp (400 * c + 100 * n + 4 * a + q + 1)
  eq : days = mday3 (400 * c + 100 * n + 4 * a + q) + e

theorem parts_of (days : Int) :
    let c := (days + 719468) / 146097
    let r := (days + 719468) % 146097
    let n := min (r / 36524) 3
    let r1 := r - n * 36524
    let a := r1 / 1461
    let r2 := r1 - a * 1461
    let q := min (r2 / 365) 3
    Parts days c n a q (r2 - q * 365) := by
  intro c r n r1 a r2 q
  have hc : days + 719468 = 146097 * c + r := by have := Int.mul_ediv_add_emod (days + 719468) 146097; omega
  have hr : 0 ≤ r ∧ r < 146097 := by omega
  have hn : n = min (r / 36524) 3 := rfl
  have hr1 : r1 = r - n * 36524 := rfl
  have ha : a = r1 / 1461 := rfl
  have hr2 : r2 = r1 - a * 1461 := rfl
  have hq : q = min (r2 / 365) 3 := rfl
  have hn0 : 0 ≤ n ∧ n ≤ 3 := by omega
  have h1 : 0 ≤ r1 ∧ r1 ≤ 36524 ∧ (n < 3 → r1 < 36524) := by omega
  have ha0 : 0 ≤ a ∧ a ≤ 24 := by omega
  have h2 : 0 ≤ r2 ∧ r2 ≤ 1460 ∧ (a = 24 → n < 3 → r2 < 1460) := by omega
  have hq0 : 0 ≤ q ∧ q ≤ 3 := by omega
  have he : 0 ≤ r2 - q * 365 ∧ r2 - q * 365 ≤ 365 ∧ (q < 3 → r2 - q * 365 < 365) ∧ (a = 24 → n < 3 → r2 - q * 365 < 365) := by omega
  clear_value c r n r1 a r2 q
  refine ⟨?_, hn0.1, hn0.2, ha0.1, ha0.2, hq0.1, hq0.2, he.1, ?_, ?_⟩
  · omega
  · unfold lp
    split
    · omega
    · rename_i hl
      omega
  · unfold mday3
    have e1 : (400 * c + 100 * n + 4 * a + q) / 4 = 100 * c + 25 * n + a := by omega
    have e2 : (400 * c + 100 * n + 4 * a + q) / 100 = 4 * c + n := by omega
    have e3 : (400 * c + 100 * n + 4 * a + q) / 400 = c := by omega
    rw [e1, e2, e3]; omega

theorem int3 {a b c x y z : Int} (h1 : a = x) (h2 : b = y) (h3 : c = z) : Ending.returned (.tuple #[.int .i64 a, .int .i64 b, .int .i64 c]) = Ending.returned (.tuple #[.int .i64 x, .int .i64 y, .int .i64 z]) := by rw [h1, h2, h3]
theorem mar_0 : mar 0 = 0 := by decide
theorem mar_lo (k : Int) (h : 0 ≤ k) : 0 ≤ mar k := by unfold mar; omega

set_option maxRecDepth 100000 in
set_option maxHeartbeats 4000000 in
theorem calendar_any (days : Int) (w : World) (hT : TabLaid w) (b1 : -1099511627776 ≤ days) (b2 : days ≤ 1099511627776) :
    Calls Tryd.prog 46 #[.int .i64 days] w fun e w' => ∃ y m d, IsDate days y m d ∧ e = .returned (.tuple #[.int .i64 y, .int .i64 m, .int .i64 d]) ∧ w' = w := by
  have hp := parts_of days
  simp only at hp
  obtain ⟨c, hc⟩ : ∃ c, c = (days + 719468) / 146097 := ⟨_, rfl⟩
  obtain ⟨r, hr⟩ : ∃ r, r = (days + 719468) % 146097 := ⟨_, rfl⟩
  rw [← hc, ← hr] at hp
  obtain ⟨n, hn⟩ : ∃ n, n = min (r / 36524) 3 := ⟨_, rfl⟩
  rw [← hn] at hp
  obtain ⟨a, ha⟩ : ∃ a, a = (r - n * 36524) / 1461 := ⟨_, rfl⟩
  rw [← ha] at hp
  obtain ⟨q, hq⟩ : ∃ q, q = min ((r - n * 36524 - a * 1461) / 365) 3 := ⟨_, rfl⟩
  rw [← hq] at hp
  obtain ⟨E, hE⟩ : ∃ E, E = r - n * 36524 - a * 1461 - q * 365 := ⟨_, rfl⟩
  rw [← hE] at hp
  obtain ⟨Y, hY⟩ : ∃ Y, Y = 400 * c + 100 * n + 4 * a + q := ⟨_, rfl⟩
  have he0 := hp.e0
  have he1 := hp.e1
  have heq := hp.eq
  rw [← hY] at he1 heq
  have hl := lp_01 (Y + 1)
  have hr0 : 0 ≤ r ∧ r < 146097 := by omega
  have Hc := Lib.hid hc
  have Hr := Lib.hid hr
  have Hn := Lib.hid hn
  have Ha := Lib.hid ha
  have Hq := Lib.hid hq
  have HE := Lib.hid hE
  have HY := Lib.hid hY
  have HT := Lib.hid hT
  have Heq := Lib.hid heq
  have He1 := Lib.hid he1
  have hE2 : E ≤ 365 := by omega
  clear hp hc hr hn ha hq hE hY hT heq he1
  go_enter Tryd.func46, Tryd.ntmps46
  go_wp2_with (go_at_call 45; refine (divide_any _ _ _ (by omega) (by omega) (by omega) (by omega)).mono ?_; rintro e w' ⟨rfl, hw⟩; replace hw := hw.symm; subst hw)
  all_goals
    go_loop [6, 11] (fun day month => ∃ k : Nat, ∃ e : Int, k ≤ 11 ∧ month = .int .i64 k ∧ day = .int .i64 e ∧ 0 ≤ e ∧ E = mar k + e) (fun _ m => 12 - (intOf m).toNat)
    case atStart =>
      have g1 := Hr.out; have g2 := Hn.out; have g3 := Ha.out; have g4 := Hq.out; have g5 := HE.out
      refine ⟨0, E, by omega, rfl, ?_, he0, by rw [show ((0 : Nat) : Int) = 0 from rfl, mar_0]; omega⟩
      congr 1; omega
    case round =>
      obtain ⟨k, e, hk, rfl, rfl, he, hEk⟩ := hrel
      have hcell := HT.out k (by omega)
      by_cases hlt : monD k ≤ e
      · have hk10 : k ≤ 10 := by
          rcases Nat.lt_or_ge k 11 with h | h
          · omega
          · obtain rfl : k = 11 := by omega
            rw [show monD ((11 : Nat) : Int) = 29 from by decide] at hlt
            rw [show mar ((11 : Nat) : Int) = 337 from by decide] at hEk
            omega
        have hm := monD_mar k (by omega) (by omega)
        have hm1 := mar_lo k (by omega)
        have hm2 : mar (k + 1) ≤ 1000 ∧ mar k ≤ mar (k + 1) := by unfold mar; omega
        generalize hD : monD k = D at *
        have HM := Lib.hid hm
        have HEk := Lib.hid hEk
        have hD2 : 0 ≤ D ∧ D ≤ 1000 ∧ e ≤ 366 := by omega
        clear hm hm1 hEk hm2
        go_wp2
        go_round
        case rel =>
          have hm := HM.out; have hEk := HEk.out
          exact ⟨k + 1, e - D, by omega, by go_num, rfl, by omega, by rw [show ((k + 1 : Nat) : Int) = (k : Int) + 1 by omega]; omega⟩
        case measure => simp [intOf]; omega
      · have hlt2 : decide (monD k ≤ e) = false := by simpa using hlt
        have hlt3 : e < monD k := by omega
        have hmon : monD k ≤ 31 := by unfold monD; split <;> (try split) <;> omega
        have heq := Heq.out; have he1 := He1.out
        have he2 : e ≤ 366 := by have := mar_lo k (by omega); omega
        have hfin : ∃ y m d, IsDate days y m d ∧ ((k < 10 ∧ y = Y ∧ m = k + 3 ∧ d = e + 1) ∨ (10 ≤ k ∧ y = Y + 1 ∧ m = k - 9 ∧ d = e + 1)) := by
          rcases Nat.lt_or_ge k 10 with h | h
          · exact ⟨Y, k + 3, e + 1, march days Y k e (by omega) (by omega) he (by rw [← monD_mar k (by omega) (by omega)]; exact hlt3) (by omega), Or.inl ⟨h, rfl, rfl, rfl⟩⟩
          · rcases (show k = 10 ∨ k = 11 by omega) with rfl | rfl
            · rw [show mar ((10 : Nat) : Int) = 306 from by decide] at hEk
              exact ⟨Y + 1, 1, e + 1, march10 days Y e he (by rw [show monD ((10 : Nat) : Int) = 31 from by decide] at hlt3; omega) (by omega), Or.inr ⟨h, rfl, by omega, rfl⟩⟩
            · rw [show mar ((11 : Nat) : Int) = 337 from by decide] at hEk
              exact ⟨Y + 1, 2, e + 1, march11 days Y e he (by omega) (by omega), Or.inr ⟨h, rfl, by omega, rfl⟩⟩
        obtain ⟨y, m, d, hdate, hcase⟩ := hfin
        have HD := Lib.hid hdate
        have HEk := Lib.hid hEk
        have hce := Lib.hid hcase
        clear hdate hEk heq he1 hcase
        by_cases h10 : 10 ≤ k
        · go_wp2
          refine bodyPost_ret (results_tmp3 rfl _ _ _) rfl ?_
          have hcase := hce.out
          have g1 := Hr.out; have g2 := Hn.out; have g3 := Ha.out; have g4 := Hq.out; have g6 := HY.out; have g7 := Hc.out
          refine ⟨y, m, d, HD.out, int3 ?_ ?_ ?_, rfl⟩
          · omega
          · omega
          · omega
        · have h10' : k < 10 := by omega
          go_wp2
          refine bodyPost_ret (results_tmp3 rfl _ _ _) rfl ?_
          have hcase := hce.out
          have g1 := Hr.out; have g2 := Hn.out; have g3 := Ha.out; have g4 := Hq.out; have g6 := HY.out; have g7 := Hc.out
          refine ⟨y, m, d, HD.out, int3 ?_ ?_ ?_, rfl⟩
          · omega
          · omega
          · omega
end Go.Proofs.YtncdmineepagpaaDoor
