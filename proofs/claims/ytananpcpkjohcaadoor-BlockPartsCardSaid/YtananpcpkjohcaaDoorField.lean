/- fielded, pick; what is written is read; the laws NumberBack, NumberOrder, NumberOne: their walks. -/
import Derived.Test.YtananpcpkjohcaaDoorPlainK
import Derived.Test.YtananpcpkjohcaaDoorReadL
import Derived.Stop.IfaceNil
namespace Go.Proofs.YtananpcpkjohcaaDoor
open Go.RowKit

def pickF (a n : Int) : Int := a % 18446744073709551616 % n
theorem pickF_range (a n : Int) (h : 1 ≤ n) : 0 ≤ pickF a n ∧ pickF a n < n := by
  unfold pickF; exact ⟨Int.emod_nonneg _ (by omega), Int.emod_lt_of_pos _ (by omega)⟩

theorem u64_wrap (a : Int) : IntKind.u64.wrap a = a % 18446744073709551616 := by
  simp only [IntKind.wrap, IntKind.bits, IntKind.signed]; simp

theorem pick_any (a n : Int) (w : World) (h1 : 1 ≤ n) (h2 : n ≤ 1000000) :
    Calls Tryd.prog 30 #[.int .i64 a, .int .i64 n] w fun e w' => e = .returned (.int .i64 (pickF a n)) ∧ w' = w := by
  have hw := u64_wrap a
  have hr := pickF_range a n h1
  have hp : a % 18446744073709551616 % n = pickF a n := rfl
  obtain ⟨u, hu, hu0, hu1⟩ : ∃ u, a % 18446744073709551616 = u ∧ 0 ≤ u ∧ u ≤ 18446744073709551615 := ⟨_, rfl, by omega, by omega⟩
  rw [hu] at hw hp
  obtain ⟨hr1, hr2⟩ := hr
  have hn : n ≠ 0 := by omega
  clear hu
  go_enter Tryd.func30, Tryd.ntmps30
  go_wp2
  go_ret
  exact ⟨rfl, rfl⟩

set_option maxRecDepth 100000 in
set_option maxHeartbeats 1000000 in
theorem fielded_true (w : World) :
    Calls Tryd.prog 29 #[] w fun e w' => e = .returned (.bool true) ∧ Below w.heap.size w w' := by
  have m4 : mostF 4 = 511 := by unfold mostF ipw; decide +kernel
  have m3 : mostF 3 = 63 := by unfold mostF ipw; decide +kernel
  have c1 : ∀ w, Calls Tryd.prog 24 #[.int .i64 8, .int .i64 4] w fun e w' => e = .returned (.tuple #[.string ⟨#[48, 49, 48, 0]⟩, .nilIface]) ∧ Below w.heap.size w w' := fun w => by
    have := octal_ok 8 4 w (by omega) (by omega) (by omega) (by rw [show mostF ((4 : Nat) : Int) = 511 from m4]; omega)
    rwa [show strOfNums (octNums 8 4) = ⟨#[48, 49, 48, 0]⟩ by decide +kernel] at this
  have c2 : ∀ w, Calls Tryd.prog 26 #[.int .i64 (-2), .int .i64 8] w fun e w' => e = .returned (.tuple #[.string ⟨#[255, 255, 255, 255, 255, 255, 255, 254]⟩, .nilIface]) ∧ Below w.heap.size w w' := fun w => by
    have := binary_ok (-2) 8 w (by omega) (by omega) (by omega) (by omega) (by omega)
    rwa [show strOfNums (binNums (-2) 8) = ⟨#[255, 255, 255, 255, 255, 255, 255, 254]⟩ by decide +kernel] at this
  have c3 : ∀ w, Calls Tryd.prog 21 #[.string ⟨#[32, 32, 48, 49, 55, 32, 0]⟩] w fun e w' => e = .returned (.tuple #[.int .i64 15, .nilIface]) ∧ Below w.heap.size w w' := fun w =>
    read_ok _ 15 (by decide +kernel) w (by decide)
  have c4 : ∀ w, Calls Tryd.prog 32 #[.int .i64 3] w fun e w' => e = .returned (.int .i64 63) ∧ w' = w := fun w => by
    have := most_any 3 w
    rwa [m3] at this
  have C1 := Lib.hid c1
  have C2 := Lib.hid c2
  have C3 := Lib.hid c3
  have C4 := Lib.hid c4
  clear c1 c2 c3 c4 m4 m3
  go_enter Tryd.func29, Tryd.ntmps29
  go_wp2_with (first
    | (go_at_call 24; refine (C1.out _).mono ?_; rintro x w1 ⟨rfl, hb1⟩)
    | (go_at_call 26; refine (C2.out _).mono ?_; rintro x w2 ⟨rfl, hb2⟩)
    | (go_at_call 21; refine (C3.out _).mono ?_; rintro x w3 ⟨rfl, hb3⟩)
    | (go_at_call 32; refine (C4.out _).mono ?_; rintro x w4 ⟨rfl, rfl⟩))
  go_ret
  exact ⟨rfl, (hb1.trans (hb2.mono hb1.size)).trans (hb3.mono (Nat.le_trans hb1.size hb2.size))⟩
end Go.Proofs.YtananpcpkjohcaaDoor
