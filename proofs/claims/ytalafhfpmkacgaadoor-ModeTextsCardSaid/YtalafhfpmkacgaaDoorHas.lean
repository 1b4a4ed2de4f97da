/- mode.has, the reference's bit: a bit of a whole number. -/
import Derived.Test.YtalafhfpmkacgaaDoorByt
namespace Go.Proofs.YtalafhfpmkacgaaDoor
open Go.RowKit Go.Joins
set_option linter.unusedVariables false
set_option linter.unusedSimpArgs false
set_option maxRecDepth 100000

theorem bitI_beq (m : Int) (k : Nat) : (m / 2 ^ k % 2 == 1) = bitI m k := by unfold bitI; rw [Bool.beq_eq_decide_eq]
theorem has_any (m : Int) (k : Nat) (hk : k ≤ 11) (w : World) :
    Calls Tryd.prog 32 #[.int .i64 m, .int .i64 (k : Int)] w fun e w' => e = .returned (.bool (bitI m k)) ∧ w' = w := by
  have h64 : min k 64 = k := by omega
  go_enter Tryd.func32, Tryd.ntmps32
  go_wp2
  go_ret
  refine ⟨?_, rfl⟩
  show Ending.returned (Value.bool (bits .and .i64 (m / 2 ^ k) 1 == 1)) = _
  rw [i64_and1, bitI_beq]
theorem pow_split (m : Int) (k : Nat) (hk : k ≤ 11) : m % 18446744073709551616 / 2 ^ k % 2 = m / 2 ^ k % 2 := by
  obtain rfl | rfl | rfl | rfl | rfl | rfl | rfl | rfl | rfl | rfl | rfl | rfl : k = 0 ∨ k = 1 ∨ k = 2 ∨ k = 3 ∨ k = 4 ∨ k = 5 ∨ k = 6 ∨ k = 7 ∨ k = 8 ∨ k = 9 ∨ k = 10 ∨ k = 11 := by omega
  all_goals omega
theorem bit_any (m : Int) (k : Nat) (hk : k ≤ 11) (w : World) :
    Calls Tryd.prog 33 #[.int .i64 m, .int .i64 (k : Int)] w fun e w' => e = .returned (.bool (bitI m k)) ∧ w' = w := by
  have h64 : min k 64 = k := by omega
  go_enter Tryd.func33, Tryd.ntmps33
  go_wp2
  go_ret
  refine ⟨?_, rfl⟩
  show Ending.returned (Value.bool ((IntKind.u64.wrap m / 2 ^ k).tmod 2 == 1)) = _
  have hp : (0 : Int) ≤ 2 ^ k := Int.le_of_lt (Int.pow_pos (by decide))
  rw [IntKind.wrap_u64, Int.tmod_eq_emod_of_nonneg (Int.ediv_nonneg (by omega) hp), pow_split m k hk, bitI_beq]
end Go.Proofs.YtalafhfpmkacgaaDoor
