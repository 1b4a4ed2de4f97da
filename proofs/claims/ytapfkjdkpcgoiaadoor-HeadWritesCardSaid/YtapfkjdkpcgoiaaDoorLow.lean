/- Contracts of number.Most, within, power, both Pads: what each returns, for every int. -/
import Derived.Test.YtapfkjdkpcgoiaaDoorProg
import Derived.WalkKit
import Derived.ProofKit
import Derived.OpenShut
import Derived.LoopTactic
import Derived.Lib.Hide
namespace Go.Proofs.YtapfkjdkpcgoiaaDoor
open Go.RowKit

theorem ipow_mono (k N : Nat) (b : Int) (hb : 1 ≤ b) (h : k ≤ N) : b ^ k ≤ b ^ N ∧ 1 ≤ b ^ k := by
  obtain ⟨c, rfl⟩ := Int.eq_ofNat_of_zero_le (by omega : 0 ≤ b)
  have hc : 0 < c := by omega
  have h1 := Nat.pow_le_pow_right hc h
  have h2 := Nat.pow_pos (n := k) hc
  constructor
  · exact_mod_cast h1
  · exact_mod_cast h2

/-- b^n, behind a name. -/
def ipw (b n : Int) : Int := b ^ n.toNat

/-- power(b, n) = b^n where that fits. -/
theorem power_any (b n : Int) (hb : 1 ≤ b) (hn : 0 ≤ n) (hfit : ipw b n ≤ 9223372036854775807) (hN : n ≤ 1000) (w : World) :
    Calls Tryd.prog 70 #[.int .i64 b, .int .i64 n] w fun e w' => e = .returned (.int .i64 (ipw b n)) ∧ w' = w := by
  obtain ⟨N, rfl⟩ := Int.eq_ofNat_of_zero_le hn
  have step : ∀ k : Nat, k + 1 ≤ N → wrap64 (ipw b k * b) = ipw b ((k + 1 : Nat) : Int) := by
    intro k hk
    unfold ipw at hfit ⊢
    rw [Int.toNat_natCast] at hfit ⊢
    rw [Int.toNat_natCast, ← Int.pow_succ]
    have h1 := ipow_mono (k + 1) N b hb hk
    exact IntWalk.wrap64_in _ (by constructor <;> simp only [Nat.succ_eq_add_one] <;> omega)
  have Step := Lib.hid step
  clear step hfit
  go_enter Tryd.func70, Tryd.ntmps70
  go_wp2
  go_loop [1, 5] (fun n out => ∃ k : Nat, k ≤ N ∧ n = .int .i64 ((N : Int) - k) ∧ out = .int .i64 (ipw b k)) (fun n _ => (intOf n).toNat)
  case atStart => exact ⟨0, Nat.zero_le _, by simp, by simp [ipw]⟩
  case round =>
    obtain ⟨k, hk, rfl, rfl⟩ := hrel
    by_cases hlt : k < N
    · have h0 : (0 : Int) < (N : Int) - k := by omega
      go_wp2
      go_round
      case rel => exact ⟨k + 1, by omega, by rw [show (N : Int) - k - 1 = (N : Int) - ((k + 1 : Nat) : Int) by omega], by rw [Step.out k (by omega)]⟩
      case measure => simp [intOf]; omega
    · obtain rfl : k = N := by omega
      go_wp2
      go_ret
      exact ⟨rfl, rfl⟩

/-- within(n, low, high). -/
theorem within_yes (n lo hi : Int) (w : World) (h1 : lo ≤ n) (h2 : n ≤ hi) :
    Calls Tryd.prog 20 #[.int .i64 n, .int .i64 lo, .int .i64 hi] w fun e w' => e = .returned (.bool true) ∧ w' = w := by
  go_enter Tryd.func20, Tryd.ntmps20
  go_wp2
  go_ret
  exact ⟨rfl, rfl⟩
theorem within_no (n lo hi : Int) (w : World) (h : n < lo ∨ hi < n) :
    Calls Tryd.prog 20 #[.int .i64 n, .int .i64 lo, .int .i64 hi] w fun e w' => e = .returned (.bool false) ∧ w' = w := by
  by_cases h1 : lo ≤ n
  · have d2 : decide (n ≤ hi) = false := by simp; omega
    clear h
    go_enter Tryd.func20, Tryd.ntmps20
    go_wp2
    go_ret
    exact ⟨rfl, rfl⟩
  · have d2 : n < lo := by omega
    clear h
    go_enter Tryd.func20, Tryd.ntmps20
    go_wp2
    go_ret
    exact ⟨rfl, rfl⟩

/-- What both Mosts give. -/
def mostF (a : Int) : Int := if 2 ≤ a ∧ a ≤ 20 then ipw 8 (a - 1) - 1 else 0

theorem pow8_le (a : Int) (h : 2 ≤ a ∧ a ≤ 20) : ipw 8 (a - 1) ≤ 144115188075855872 ∧ 1 ≤ ipw 8 (a - 1) := by
  have h1 := ipow_mono (a - 1).toNat 19 8 (by omega) (by omega)
  have h2 : (8 : Int) ^ 19 = 144115188075855872 := by decide +kernel
  unfold ipw; omega

theorem most_any (a : Int) (w : World) :
    Calls Tryd.prog 72 #[.int .i64 a] w fun e w' => e = .returned (.int .i64 (mostF a)) ∧ w' = w := by
  by_cases h1 : a < 2
  · have hm : mostF a = 0 := by unfold mostF; rw [if_neg (by omega)]
    have Hm := Lib.hid hm
    clear hm
    go_enter Tryd.func72, Tryd.ntmps72
    go_wp2
    go_ret
    exact ⟨by rw [Hm.out]; rfl, rfl⟩
  · by_cases h2 : 20 < a
    · have hm : mostF a = 0 := by unfold mostF; rw [if_neg (by omega)]
      have Hm := Lib.hid hm
      clear hm
      go_enter Tryd.func72, Tryd.ntmps72
      go_wp2
      go_ret
      exact ⟨by rw [Hm.out]; rfl, rfl⟩
    · have hm : mostF a = ipw 8 (a - 1) - 1 := by unfold mostF; rw [if_pos (by omega)]
      have hp := pow8_le a (by omega)
      have he : wrap64 (wrap64 (2 ^ (3 * (a - 1)).toNat) - 1) = mostF a := by
        have e1 : (2 : Int) ^ (3 * (a - 1)).toNat = ipw 8 (a - 1) := by
          unfold ipw
          rw [show (3 * (a - 1)).toNat = 3 * (a - 1).toNat by omega, Int.pow_mul]; rfl
        rw [e1, hm, IntWalk.wrap64_in (ipw 8 (a - 1)) ⟨by omega, by omega⟩, IntWalk.wrap64_in _ ⟨by omega, by omega⟩]
      have He := Lib.hid he
      clear hm he
      go_enter Tryd.func72, Tryd.ntmps72
      go_wp2
      go_ret
      exact ⟨congrArg (fun x => Ending.returned (.int .i64 x)) He.out, rfl⟩

/-! ### Pad -/
/-- What both Pads give. -/
def padF (n : Int) : Int := if n < 0 then 0 else (512 - n % 512) % 512

end Go.Proofs.YtapfkjdkpcgoiaaDoor
