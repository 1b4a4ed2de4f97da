/- The reference's NumberRead at octal digits; the law NumberReads' walk. -/
import Derived.Test.YtapfkjdkpcgoiaaDoorMk
import Derived.Test.YtapfkjdkpcgoiaaDoorRefRead
namespace Go.Proofs.YtapfkjdkpcgoiaaDoor
open Go.RowKit

theorem mkS_from (c : UInt8) (r : List UInt8) (w : World) : (Instr.slice 9 (.string (mkS (c :: r))) (some (.int .i64 1)) none none).run Tryd.prog w = .ok (.string (mkS r)) w := by
  rw [run_slice_string_from_if w 9 _ .i64 _ Tryd.underlying9, if_pos ⟨by omega, by rw [mkS_size]; simp only [List.length_cons]; omega⟩]
  have : (mkS (c :: r)).extract (1 : Int).toNat (mkS (c :: r)).size = mkS r := by
    rw [← mkS_self ((mkS (c :: r)).extract (1 : Int).toNat (mkS (c :: r)).size)]
    congr 1
    rw [mkS_size]
    simp [mkS, ByteArray.data_extract]
  rw [this]
theorem mkS_to (r : List UInt8) (c : UInt8) (w : World) (j : Int) (hj : j = (r.length : Int)) : (Instr.slice 9 (.string (mkS (r ++ [c]))) none (some (.int .i64 j)) none).run Tryd.prog w = .ok (.string (mkS r)) w := by
  subst hj
  rw [run_slice_string_to_if w 9 _ .i64 _ Tryd.underlying9, if_pos ⟨by omega, by rw [mkS_size, List.length_append]; simp only [List.length_cons, List.length_nil]; omega⟩]
  have : (mkS (r ++ [c])).extract 0 (r.length : Int).toNat = mkS r := by
    rw [← mkS_self ((mkS (r ++ [c])).extract 0 (r.length : Int).toNat)]
    congr 1
    simp [mkS, ByteArray.data_extract]
  rw [this]
theorem trimL_nil : trimL [] = [] := rfl
theorem trimL_stay (c : UInt8) (r : List UInt8) (h : c ≠ 32) : trimL (c :: r) = c :: r := by
  have : (c == 32) = false := by rw [beq_eq_false_iff_ne]; exact h
  simp [trimL, Lib.trimLeftB, List.dropWhile, this]
theorem trimL_go (c : UInt8) (r : List UInt8) (h : c = 32) : trimL (c :: r) = trimL r := by subst h; simp [trimL, Lib.trimLeftB, List.dropWhile]
theorem trimR_nil : trimR [] = [] := rfl
theorem trimR_stay (c : UInt8) (r : List UInt8) (h : c ≠ 32) (h0 : c ≠ 0) : trimR (r ++ [c]) = r ++ [c] := by
  simp [trimR, Lib.trimRightS, h, h0]
theorem trimR_go (c : UInt8) (r : List UInt8) (h : c = 32 ∨ c = 0) : trimR (r ++ [c]) = trimR r := by
  rcases h with rfl | rfl <;> simp [trimR, Lib.trimRightS]
theorem snoc_of (l : List UInt8) (h : l ≠ []) : ∃ r c, l = r ++ [c] := ⟨l.dropLast, l.getLast h, (List.dropLast_concat_getLast h).symm⟩

theorem mul8_low (n : Int) (h0 : 0 ≤ n) (h : n < 2305843009213693952) (w : World) :
    Calls Tryd.prog 65 #[.int .u64 n, .int .u64 8] w fun e w' => e = .returned (.tuple #[.int .u64 0, .int .u64 (n * 8)]) ∧ w' = w := by
  obtain ⟨n, rfl⟩ := Int.eq_ofNat_of_zero_le h0
  have := Tryd.bits_Mul64 n 8 (by omega) (by omega) w
  rw [show ((n * 8 / 18446744073709551616 : Nat) : Int) = 0 by omega, show ((n * 8 % 18446744073709551616 : Nat) : Int) = (n : Int) * 8 by omega] at this
  exact this
theorem mul8_high (n : Int) (h : 2305843009213693952 ≤ n) (h2 : n ≤ 9223372036854775807) (w : World) :
    ∃ a b : Int, 0 < a ∧ Calls Tryd.prog 65 #[.int .u64 n, .int .u64 8] w fun e w' => e = .returned (.tuple #[.int .u64 a, .int .u64 b]) ∧ w' = w := by
  obtain ⟨n, rfl⟩ := Int.eq_ofNat_of_zero_le (show 0 ≤ n by omega)
  exact ⟨_, _, by omega, Tryd.bits_Mul64 n 8 (by omega) (by omega) w⟩

theorem c_eq (c : UInt8) (n : Nat) (hn : n < 256) : c = UInt8.ofNat n ↔ (c.toNat : Int) = n := by
  constructor
  · rintro rfl
    rw [UInt8.toNat_ofNat']; omega
  · intro h
    apply UInt8.toNat_inj.1
    rw [UInt8.toNat_ofNat']; omega

end Go.Proofs.YtapfkjdkpcgoiaaDoor
