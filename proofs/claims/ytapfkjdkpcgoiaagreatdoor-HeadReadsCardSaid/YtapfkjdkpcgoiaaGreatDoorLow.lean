/- Contracts of number.Most, within, power, both Pads: what each returns, for every int. -/
import Derived.Test.YtapfkjdkpcgoiaaGreatDoorProg
import Derived.WalkKit
import Derived.ProofKit
import Derived.OpenShut
import Derived.LoopTactic
import Derived.Lib.Hide
namespace Go.Proofs.YtapfkjdkpcgoiaaGreatDoor
open Go.RowKit

theorem ipow_mono (k N : Nat) (b : Int) (hb : 1 ≤ b) (h : k ≤ N) : b ^ k ≤ b ^ N ∧ 1 ≤ b ^ k := by
  obtain ⟨c, rfl⟩ := Int.eq_ofNat_of_zero_le (by omega : 0 ≤ b)
  have hc : 0 < c := by omega
  have h1 := Nat.pow_le_pow_right hc h
  have h2 := Nat.pow_pos (n := k) hc
  constructor
  · exact_mod_cast h1
  · exact_mod_cast h2

/-- b^n, behind a name. -/
def ipw (b n : Int) : Int := b ^ n.toNat

/-- within(n, low, high). -/
theorem within_yes (n lo hi : Int) (w : World) (h1 : lo ≤ n) (h2 : n ≤ hi) :
    Calls Tryz.prog 25 #[.int .i64 n, .int .i64 lo, .int .i64 hi] w fun e w' => e = .returned (.bool true) ∧ w' = w := by
  go_enter Tryz.func25, Tryz.ntmps25
  go_wp2
  go_ret
  exact ⟨rfl, rfl⟩
theorem within_no (n lo hi : Int) (w : World) (h : n < lo ∨ hi < n) :
    Calls Tryz.prog 25 #[.int .i64 n, .int .i64 lo, .int .i64 hi] w fun e w' => e = .returned (.bool false) ∧ w' = w := by
  by_cases h1 : lo ≤ n
  · have d2 : decide (n ≤ hi) = false := by simp; omega
    clear h
    go_enter Tryz.func25, Tryz.ntmps25
    go_wp2
    go_ret
    exact ⟨rfl, rfl⟩
  · have d2 : n < lo := by omega
    clear h
    go_enter Tryz.func25, Tryz.ntmps25
    go_wp2
    go_ret
    exact ⟨rfl, rfl⟩

/-- What both Mosts give. -/
def mostF (a : Int) : Int := if 2 ≤ a ∧ a ≤ 20 then ipw 8 (a - 1) - 1 else 0

theorem pow8_le (a : Int) (h : 2 ≤ a ∧ a ≤ 20) : ipw 8 (a - 1) ≤ 144115188075855872 ∧ 1 ≤ ipw 8 (a - 1) := by
  have h1 := ipow_mono (a - 1).toNat 19 8 (by omega) (by omega)
  have h2 : (8 : Int) ^ 19 = 144115188075855872 := by decide +kernel
  unfold ipw; omega

/-! ### Pad -/
/-- What both Pads give. -/
def padF (n : Int) : Int := if n < 0 then 0 else (512 - n % 512) % 512

end Go.Proofs.YtapfkjdkpcgoiaaGreatDoor
