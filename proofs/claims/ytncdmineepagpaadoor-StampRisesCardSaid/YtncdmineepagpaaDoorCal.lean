/- The calendar: years, months and days of a day's number: one date each day, the later the later. No program. -/
import Derived.Test.YtncdmineepagpaaDoorProg
namespace Go.Proofs.YtncdmineepagpaaDoor

/-- One day more, in a leap year. -/
def lp (y : Int) : Int := if y % 4 = 0 ∧ (y % 100 ≠ 0 ∨ y % 400 = 0) then 1 else 0
theorem lp_01 (y : Int) : 0 ≤ lp y ∧ lp y ≤ 1 := by unfold lp; split <;> omega
/-- The number of a year's first day. -/
def yday (y : Int) : Int := 365 * (y - 1970) + (y - 1) / 4 - (y - 1) / 100 + (y - 1) / 400 - 477
theorem yday_succ (y : Int) : yday (y + 1) = yday y + 365 + lp y := by unfold yday lp; split <;> omega
theorem yday_mono (y z : Int) (h : y < z) : yday y + 365 + lp y ≤ yday z := by
  have := yday_succ y
  unfold yday at *; omega
theorem yday_400 (y : Int) : yday (y + 400) = yday y + 146097 := by unfold yday; omega
theorem lp_400 (y : Int) : lp (y + 400) = lp y := by
  unfold lp
  have e1 : (y + 400) % 4 = y % 4 := by omega
  have e2 : (y + 400) % 100 = y % 100 := by omega
  have e3 : (y + 400) % 400 = y % 400 := by omega
  rw [e1, e2, e3]
/-- The days of a year ahead of a month. -/
def mday (y m : Int) : Int := (367 * m - 362) / 12 + (if m ≤ 2 then 0 else lp y - 2)
def mlen (y m : Int) : Int := if m = 2 then 28 + lp y else if m = 4 ∨ m = 6 ∨ m = 9 ∨ m = 11 then 30 else 31
theorem twelve (m : Int) (h1 : 1 ≤ m) (h2 : m ≤ 12) : m = 1 ∨ m = 2 ∨ m = 3 ∨ m = 4 ∨ m = 5 ∨ m = 6 ∨ m = 7 ∨ m = 8 ∨ m = 9 ∨ m = 10 ∨ m = 11 ∨ m = 12 := by omega
theorem mday_succ (y m : Int) (h1 : 1 ≤ m) (h2 : m ≤ 12) : mday y (m + 1) = mday y m + mlen y m := by
  rcases twelve m h1 h2 with rfl | rfl | rfl | rfl | rfl | rfl | rfl | rfl | rfl | rfl | rfl | rfl <;> simp [mday, mlen] <;> omega
theorem mlen_pos (y m : Int) : 28 ≤ mlen y m ∧ mlen y m ≤ 31 := by
  have := lp_01 y
  unfold mlen; split <;> (try split) <;> omega
theorem mday_1 (y : Int) : mday y 1 = 0 := by simp [mday]
theorem mday_13 (y : Int) : mday y 13 = 365 + lp y := by simp [mday]; omega
theorem mday_mono (y m n : Int) (h1 : 1 ≤ m) (h2 : m < n) (h3 : n ≤ 13) : mday y m + mlen y m ≤ mday y n := by
  have hl := lp_01 y
  rw [← mday_succ y m h1 (by omega)]
  unfold mday; split <;> split <;> omega
theorem mday_range (y m : Int) (h1 : 1 ≤ m) (h2 : m ≤ 12) : 0 ≤ mday y m ∧ mday y m + mlen y m ≤ 365 + lp y := by
  have hl := lp_01 y
  refine ⟨?_, ?_⟩
  · unfold mday; split <;> omega
  · have := mday_mono y m 13 h1 (by omega) (by omega); rw [mday_13] at this; exact this
/-- The date of day D. -/
structure IsDate (D y m d : Int) : Prop where
  m1 : 1 ≤ m
  m2 : m ≤ 12
  d1 : 1 ≤ d
  d2 : d ≤ mlen y m
  eq : D = yday y + mday y m + (d - 1)
theorem IsDate.year {D y m d : Int} (h : IsDate D y m d) : yday y ≤ D ∧ D < yday y + 365 + lp y := by
  have h1 := mday_range y m h.m1 h.m2
  have h2 := h.eq; have h3 := h.d1; have h4 := h.d2
  omega
theorem IsDate.lt {D E y m d z n e : Int} (h : IsDate D y m d) (k : IsDate E z n e) (hl : D < E) : y < z ∨ (y = z ∧ (m < n ∨ (m = n ∧ d < e))) := by
  have hy := h.year; have ky := k.year
  rcases Int.lt_trichotomy y z with a | a | a
  · exact Or.inl a
  · subst a
    refine Or.inr ⟨rfl, ?_⟩
    rcases Int.lt_trichotomy m n with b | b | b
    · exact Or.inl b
    · subst b
      have h2 := h.eq; have k2 := k.eq
      exact Or.inr ⟨rfl, by omega⟩
    · have := mday_mono y n m k.m1 b (by have := h.m2; omega)
      have h2 := h.eq; have k2 := k.eq; have h3 := h.d1; have k3 := k.d2
      omega
  · have := yday_mono z y a
    omega
theorem IsDate.uniq {D y m d z n e : Int} (h : IsDate D y m d) (k : IsDate D z n e) : y = z ∧ m = n ∧ d = e := by
  have hy := h.year; have ky := k.year
  have h2 := h.eq; have k2 := k.eq
  have a : y = z := by
    rcases Int.lt_trichotomy y z with a | a | a
    · have := yday_mono y z a; omega
    · exact a
    · have := yday_mono z y a; omega
  subst a
  have b : m = n := by
    have h3 := h.d1; have k3 := k.d2; have h4 := h.d2; have k4 := k.d1
    rcases Int.lt_trichotomy m n with b | b | b
    · have := mday_mono y m n h.m1 b (by have := k.m2; omega); omega
    · exact b
    · have := mday_mono y n m k.m1 b (by have := h.m2; omega); omega
  subst b
  exact ⟨rfl, rfl, by omega⟩
theorem IsDate.far {D y m d : Int} (h : IsDate D y m d) : IsDate (D + 146097) (y + 400) m d := by
  have e1 := yday_400 y
  have e2 : mday (y + 400) m = mday y m := by unfold mday; rw [lp_400]
  have e3 : mlen (y + 400) m = mlen y m := by unfold mlen; rw [lp_400]
  exact ⟨h.m1, h.m2, h.d1, by rw [e3]; exact h.d2, by rw [e1, e2]; have := h.eq; omega⟩
/-- The next day's date. -/
theorem IsDate.next {D y m d : Int} (h : IsDate D y m d) :
    (d < mlen y m ∧ IsDate (D + 1) y m (d + 1)) ∨ (d = mlen y m ∧ m < 12 ∧ IsDate (D + 1) y (m + 1) 1) ∨ (d = mlen y m ∧ m = 12 ∧ IsDate (D + 1) (y + 1) 1 1) := by
  have h2 := h.eq; have h3 := h.d1; have h4 := h.d2; have h5 := h.m1; have h6 := h.m2
  by_cases c : d < mlen y m
  · exact Or.inl ⟨c, h.m1, h.m2, by omega, by omega, by omega⟩
  · by_cases b : m < 12
    · have := mday_succ y m h5 h6
      have hp := mlen_pos y (m + 1)
      exact Or.inr (Or.inl ⟨by omega, b, by omega, by omega, by omega, by omega, by omega⟩)
    · obtain rfl : m = 12 := by omega
      have := mday_succ y 12 h5 h6
      rw [show (12 : Int) + 1 = 13 from rfl] at this
      have e13 := mday_13 y
      have e1 := mday_1 (y + 1)
      have ey := yday_succ y
      have hp := mlen_pos (y + 1) 1
      exact Or.inr (Or.inr ⟨by omega, rfl, by omega, by omega, by omega, by omega, by rw [e1]; omega⟩)

/-! ### Years from March -/
/-- The days of such a year ahead of its month k. -/
def mar (k : Int) : Int := (153 * k + 2) / 5
/-- The first of March of year y. -/
def mday3 (y : Int) : Int := 365 * y + y / 4 - y / 100 + y / 400 - 719468
theorem mday3_a (y : Int) : yday y + mday y 3 = mday3 y := by
  have := yday_succ y
  simp only [mday, mday3]; unfold yday at *; simp only [show ¬ (3 : Int) ≤ 2 by omega, if_false]; omega
theorem mday3_b (y : Int) : yday (y + 1) = mday3 y + 306 := by unfold yday mday3; omega
theorem march (D y k e : Int) (h0 : 0 ≤ k) (h1 : k ≤ 9) (h2 : 0 ≤ e) (h3 : e < mar (k + 1) - mar k) (hD : D = mday3 y + mar k + e) : IsDate D y (k + 3) (e + 1) := by
  have ha := mday3_a y
  have hl := lp_01 y
  have hk : k = 0 ∨ k = 1 ∨ k = 2 ∨ k = 3 ∨ k = 4 ∨ k = 5 ∨ k = 6 ∨ k = 7 ∨ k = 8 ∨ k = 9 := by omega
  refine ⟨by omega, by omega, by omega, ?_, ?_⟩
  · rcases hk with rfl | rfl | rfl | rfl | rfl | rfl | rfl | rfl | rfl | rfl <;> simp [mar] at h3 <;> simp [mlen] <;> omega
  · rcases hk with rfl | rfl | rfl | rfl | rfl | rfl | rfl | rfl | rfl | rfl <;> simp [mday, mar] at ha hD ⊢ <;> omega
theorem march10 (D y e : Int) (h2 : 0 ≤ e) (h3 : e < 31) (hD : D = mday3 y + 306 + e) : IsDate D (y + 1) 1 (e + 1) := by
  have hb := mday3_b y
  exact ⟨by omega, by omega, by omega, by simp [mlen]; omega, by rw [mday_1]; omega⟩
theorem march11 (D y e : Int) (h2 : 0 ≤ e) (h3 : e < 28 + lp (y + 1)) (hD : D = mday3 y + 337 + e) : IsDate D (y + 1) 2 (e + 1) := by
  have hb := mday3_b y
  exact ⟨by omega, by omega, by omega, by simp [mlen]; omega, by simp [mday]; omega⟩
end Go.Proofs.YtncdmineepagpaaDoor
