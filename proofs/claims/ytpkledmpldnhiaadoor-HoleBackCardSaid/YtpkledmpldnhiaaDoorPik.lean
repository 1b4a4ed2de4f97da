/- The keep's pick. -/
import Derived.Test.YtpkledmpldnhiaaDoorMk
import Derived.Handy
namespace Go.Proofs.YtpkledmpldnhiaaDoor
open Go.RowKit Go.Joins
set_option linter.unusedVariables false

def pickG (a n : Int) : Int := a % 18446744073709551616 % n
theorem pickG_range (a n : Int) (h : 1 ≤ n) : 0 ≤ pickG a n ∧ pickG a n < n := by
  unfold pickG; exact ⟨Int.emod_nonneg _ (by omega), Int.emod_lt_of_pos _ (by omega)⟩
theorem wrap_u64 (a : Int) : IntKind.u64.wrap a = a % 18446744073709551616 := by
  simp only [IntKind.wrap, IntKind.bits, IntKind.signed]; simp
theorem pickg_any (a n : Int) (w : World) (h1 : 1 ≤ n) (h2 : n ≤ 1000000) :
    Calls Tryd.prog 16 #[.int .i64 a, .int .i64 n] w fun e w' => e = .returned (.int .i64 (pickG a n)) ∧ w' = w := by
  have hw := wrap_u64 a
  have hr := pickG_range a n h1
  have hp : a % 18446744073709551616 % n = pickG a n := rfl
  obtain ⟨u, hu, hu0, hu1⟩ : ∃ u, a % 18446744073709551616 = u ∧ 0 ≤ u ∧ u ≤ 18446744073709551615 := ⟨_, rfl, by omega, by omega⟩
  rw [hu] at hw hp
  obtain ⟨hr1, hr2⟩ := hr
  have hn : n ≠ 0 := by omega
  clear hu
  go_enter Tryd.func16, Tryd.ntmps16
  go_wp2
  go_ret
  exact ⟨rfl, rfl⟩
/-- pick, as a number. -/
theorem pick_nat (a : Int) (n : Nat) (h1 : 1 ≤ n) (h2 : n ≤ 1000000) : ∃ k, k < n ∧ ∀ w, Calls Tryd.prog 16 #[.int .i64 a, .int .i64 (n : Int)] w fun e w' => e = .returned (.int .i64 (k : Int)) ∧ w' = w := by
  obtain ⟨p1, p2⟩ := pickG_range a n (by omega)
  obtain ⟨k, hk⟩ := Int.eq_ofNat_of_zero_le p1
  exact ⟨k, by omega, fun w => by rw [← hk]; exact pickg_any a n w (by omega) (by omega)⟩
end Go.Proofs.YtpkledmpldnhiaaDoor
