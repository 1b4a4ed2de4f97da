/- fielded, pick; what is written is read; the laws NumberBack, NumberOrder, NumberOne: their walks. -/
import Derived.Test.YtapfkjdkpcgoiaaDoorPlainK
import Derived.Test.YtapfkjdkpcgoiaaDoorReadL
import Derived.Stop.IfaceNil
namespace Go.Proofs.YtapfkjdkpcgoiaaDoor
open Go.RowKit

def pickF (a n : Int) : Int := a % 18446744073709551616 % n
theorem pickF_range (a n : Int) (h : 1 ≤ n) : 0 ≤ pickF a n ∧ pickF a n < n := by
  unfold pickF; exact ⟨Int.emod_nonneg _ (by omega), Int.emod_lt_of_pos _ (by omega)⟩

theorem u64_wrap (a : Int) : IntKind.u64.wrap a = a % 18446744073709551616 := by
  simp only [IntKind.wrap, IntKind.bits, IntKind.signed]; simp

theorem pick_any (a n : Int) (w : World) (h1 : 1 ≤ n) (h2 : n ≤ 1000000) :
    Calls Tryd.prog 14 #[.int .i64 a, .int .i64 n] w fun e w' => e = .returned (.int .i64 (pickF a n)) ∧ w' = w := by
  have hw := u64_wrap a
  have hr := pickF_range a n h1
  have hp : a % 18446744073709551616 % n = pickF a n := rfl
  obtain ⟨u, hu, hu0, hu1⟩ : ∃ u, a % 18446744073709551616 = u ∧ 0 ≤ u ∧ u ≤ 18446744073709551615 := ⟨_, rfl, by omega, by omega⟩
  rw [hu] at hw hp
  obtain ⟨hr1, hr2⟩ := hr
  have hn : n ≠ 0 := by omega
  clear hu
  go_enter Tryd.func14, Tryd.ntmps14
  go_wp2
  go_ret
  exact ⟨rfl, rfl⟩

end Go.Proofs.YtapfkjdkpcgoiaaDoor
