/- Sa: what the texts of the name hold, joined. -/
import Derived.Test.YtnjcefmmdghbmaaBa
import Derived.Test.YtnjcefmmdghbmaaProg
import Derived.WalkKit
import Derived.ProofKit
import Derived.OpenShut
import Derived.LoopTactic
import Derived.Lib.Hide
import Derived.Lib.SmallJoins
import Derived.BigRegion
import Derived.BigQuiet
import Derived.Deep.QuietTactic
set_option linter.unusedSimpArgs false
set_option linter.unusedVariables false
section
/- Times (structs of two ints): stamp.Right, Cut, Before and the reference's TimeRight: what each returns, for every time. -/
namespace Go.Proofs.Ytnjcefmmdghbmaa.St
open Go.RowKit Go.Joins

/-- A time, as a value. -/
abbrev tmV (s n : Int) : Value := .agg #[.int .i64 s, .int .i64 n]
/-- Whether a time may be. -/
def rightB (s n : Int) : Bool := decide (-1099511627776 ≤ s) && (decide (s ≤ 1099511627776) && (decide (0 ≤ n) && decide (n < 1000000000)))

theorem rightB_true (s n : Int) (h : rightB s n = true) : -1099511627776 ≤ s ∧ s ≤ 1099511627776 ∧ 0 ≤ n ∧ n < 1000000000 := by
  simpa [rightB] using h

theorem right_ex (s n : Int) (w : World) :
    Calls Try.prog 21 #[tmV s n] w fun e w' => e = .returned (.bool (rightB s n)) ∧ w' = w.alloc (.cells #[.int .i64 s, .int .i64 n] 23) := by
  unfold rightB
  by_cases h1 : -1099511627776 ≤ s
  · by_cases h2 : s ≤ 1099511627776
    · by_cases h3 : 0 ≤ n
      · simp only [h1, h2, h3, decide_true, Bool.true_and]
        go_enter Try.func21, Try.ntmps21
        go_wp2
        go_ret
        exact ⟨rfl, rfl⟩
      · have h3' : decide (0 ≤ n) = false := by simpa using h3
        simp only [h1, h2, h3', decide_true, Bool.true_and, Bool.false_and]
        clear h3
        go_enter Try.func21, Try.ntmps21
        go_wp2
        go_ret
        exact ⟨rfl, rfl⟩
    · have h3' : decide (s ≤ 1099511627776) = false := by simpa using h2
      simp only [h1, h3', decide_true, Bool.true_and, Bool.false_and]
      clear h2
      go_enter Try.func21, Try.ntmps21
      go_wp2
      go_ret
      exact ⟨rfl, rfl⟩
  · have h3' : decide (-1099511627776 ≤ s) = false := by simpa using h1
    simp only [h3', Bool.false_and]
    clear h1
    go_enter Try.func21, Try.ntmps21
    go_wp2
    go_ret
    exact ⟨rfl, rfl⟩

theorem right_any (s n : Int) (w : World) :
    Calls Try.prog 21 #[tmV s n] w fun e w' => e = .returned (.bool (rightB s n)) ∧ Below w.heap.size w w' :=
  (right_ex s n w).mono fun _ _ ⟨he, hw⟩ => ⟨he, hw ▸ below_alloc1 _ _⟩

/-- Which time is ahead. -/
def ahead (s n s' n' : Int) : Bool := decide (s < s') || (decide (s = s') && decide (n < n'))

theorem power40 (w : World) :
    Calls Try.prog 14 #[.int .i64 2, .int .i64 40] w fun e w' => e = .returned (.int .i64 1099511627776) ∧ w' = w := by
  have step : ∀ k : Nat, k + 1 ≤ 40 → wrap64 ((2 : Int) ^ k * 2) = (2 : Int) ^ (k + 1) := fun k hk => (by decide +kernel : ∀ k : Fin 40, wrap64 ((2 : Int) ^ k.1 * 2) = (2 : Int) ^ (k.1 + 1)) ⟨k, hk⟩
  have Step := Lib.hid step
  clear step
  go_enter Try.func14, Try.ntmps14
  go_wp2
  go_loop [1, 5] (fun n out => ∃ k : Nat, k ≤ 40 ∧ n = .int .i64 (40 - k) ∧ out = .int .i64 ((2 : Int) ^ k)) (fun n _ => (intOf n).toNat)
  case atStart => exact ⟨0, Nat.zero_le _, by simp, by simp⟩
  case round =>
    obtain ⟨k, hk, rfl, rfl⟩ := hrel
    by_cases hlt : k < 40
    · have h0 : (0 : Int) < 40 - k := by omega
      go_wp2
      go_round
      case rel => exact ⟨k + 1, by omega, by rw [show (40 : Int) - k - 1 = 40 - ((k + 1 : Nat) : Int) by omega], by rw [Step.out k (by omega)]⟩
      case measure => simp [intOf]; omega
    · obtain rfl : k = 40 := by omega
      go_wp2
      go_ret
      exact ⟨rfl, rfl⟩

theorem within_any (n lo hi : Int) (w : World) :
    Calls Try.prog 7 #[.int .i64 n, .int .i64 lo, .int .i64 hi] w fun e w' => e = .returned (.bool (decide (lo ≤ n) && decide (n ≤ hi))) ∧ w' = w := by
  by_cases h1 : lo ≤ n
  · simp only [h1, decide_true, Bool.true_and]
    go_enter Try.func7, Try.ntmps7
    go_wp2
    go_ret
    exact ⟨rfl, rfl⟩
  · have d2 : n < lo := by omega
    have e1 : decide (lo ≤ n) = false := by simpa using h1
    simp only [e1, Bool.false_and]
    clear h1
    go_enter Try.func7, Try.ntmps7
    go_wp2
    go_ret
    exact ⟨rfl, rfl⟩

theorem rightB_split (s n : Int) : rightB s n = ((decide (-1099511627776 ≤ s) && decide (s ≤ 1099511627776)) && (decide (0 ≤ n) && decide (n ≤ 999999999))) := by
  unfold rightB
  have : decide (n < 1000000000) = decide (n ≤ 999999999) := by simp; omega
  rw [this, Bool.and_assoc]

theorem refRight_any (s n : Int) (w : World) :
    Calls Try.prog 8 #[tmV s n] w fun e w' => e = .returned (.bool (rightB s n)) ∧ Below w.heap.size w w' := by
  rw [rightB_split]
  generalize hA : (decide (-1099511627776 ≤ s) && decide (s ≤ 1099511627776)) = A
  generalize hB : (decide (0 ≤ n) && decide (n ≤ 999999999)) = B
  have cA : ∀ w, Calls Try.prog 7 #[.int .i64 s, .int .i64 (-1099511627776), .int .i64 1099511627776] w fun e w' => e = .returned (.bool A) ∧ w' = w := fun w => hA ▸ within_any s _ _ w
  have cB : ∀ w, Calls Try.prog 7 #[.int .i64 n, .int .i64 0, .int .i64 999999999] w fun e w' => e = .returned (.bool B) ∧ w' = w := fun w => hB ▸ within_any n _ _ w
  have CA := Lib.hid cA
  have CB := Lib.hid cB
  clear hA hB cA cB
  cases A
  · go_enter Try.func8, Try.ntmps8
    go_wp2
    go_quiet (first
      | (go_at_call 14; exact Calls.quiet_of_same (power40 _))
      | (go_at_call 7; with_reducible exact Calls.quiet_of_same (CA.out _)))
    go_wp2
    go_ret
    exact ⟨rfl, (below_alloc1 _ _).trans (below_draws _ _ _)⟩
  · go_enter Try.func8, Try.ntmps8
    go_wp2
    go_quiet (first
      | (go_at_call 14; exact Calls.quiet_of_same (power40 _))
      | (go_at_call 7; with_reducible exact Calls.quiet_of_same (CA.out _))
      | (go_at_call 7; with_reducible exact Calls.quiet_of_same (CB.out _)))
    go_wp2
    go_ret
    exact ⟨by simp, (below_alloc1 _ _).trans (below_draws _ _ _)⟩
end Go.Proofs.Ytnjcefmmdghbmaa.St
end
