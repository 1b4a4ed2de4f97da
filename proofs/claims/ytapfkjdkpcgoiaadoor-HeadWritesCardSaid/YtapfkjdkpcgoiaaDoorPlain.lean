/- Plain mathematics of numeric fields: no program. Bytes as integers; the bytes of a number, most significant first. -/
import Derived.Laws.BytesArg
import Derived.IntWalk
import Derived.Laws.Concat
namespace Go.Proofs.YtapfkjdkpcgoiaaDoor

theorem strOfNums_append (x y : List Int) : strOfNums x ++ strOfNums y = strOfNums (x ++ y) := by
  unfold strOfNums
  rw [ByteArray.mk_append_mk, List.map_append]

/-- n / 256^k, behind a name. -/
def shn (n : Int) (k : Nat) : Int := n / 256 ^ k
theorem shn_zero (n : Int) : shn n 0 = n := by simp [shn]
theorem shn_succ (n : Int) (k : Nat) : shn n (k + 1) = shn n k / 256 := by
  unfold shn
  rw [Int.pow_succ, Int.ediv_ediv_of_nonneg (Int.pow_nonneg (by decide))]
theorem shn_le (n : Int) (h1 : -9223372036854775808 ≤ n) (h2 : n ≤ 9223372036854775807) (k : Nat) : -9223372036854775808 ≤ shn n k ∧ shn n k ≤ 9223372036854775807 := by
  induction k with
  | zero => rw [shn_zero]; exact ⟨h1, h2⟩
  | succ k ih => rw [shn_succ]; omega
theorem shn_neg (n : Int) (h : n < 0) (k : Nat) : shn n k < 0 := by
  induction k with
  | zero => rw [shn_zero]; exact h
  | succ k ih => rw [shn_succ]; omega
theorem shn_nonneg (n : Int) (h : 0 ≤ n) (k : Nat) : 0 ≤ shn n k := by
  induction k with
  | zero => rw [shn_zero]; exact h
  | succ k ih => rw [shn_succ]; omega

/-- the k low bytes of n, most significant first. -/
def beB (n : Int) : Nat → List Int
  | 0 => []
  | k + 1 => shn n k % 256 :: beB n k
theorem beB_length (n : Int) (k : Nat) : (beB n k).length = k := by
  induction k with
  | zero => rfl
  | succ k ih => simp [beB, ih]
theorem beB_range (n : Int) (k : Nat) : ∀ x ∈ beB n k, 0 ≤ x ∧ x ≤ 255 := by
  induction k with
  | zero => intro x hx; cases hx
  | succ k ih =>
    intro x hx
    rcases List.mem_cons.1 hx with rfl | h
    · omega
    · exact ih x h

/-- the first byte by the sign. -/
def markB (n : Int) : Int := if n < 0 then 255 else 128
def binNums (n : Int) (W : Nat) : List Int := markB n :: beB n (W - 1)
theorem binNums_length (n : Int) (W : Nat) (h : 1 ≤ W) : (binNums n W).length = W := by simp [binNums, beB_length]; omega

/-- What the row holds after k rounds. -/
def binRow (n : Int) (W k : Nat) : List Int := markB n :: (List.replicate (W - 1 - k) 0 ++ beB n k)
theorem binRow_length (n : Int) (W k : Nat) (hk : k ≤ W - 1) (h : 1 ≤ W) : (binRow n W k).length = W := by simp [binRow, beB_length]; omega
theorem binRow_start (n : Int) (W : Nat) (h : 1 ≤ W) : (List.replicate W (0 : Int)).set 0 (markB n) = binRow n W 0 := by
  obtain ⟨V, rfl⟩ : ∃ V, W = V + 1 := ⟨W - 1, by omega⟩
  simp [binRow, beB, List.replicate_succ]
theorem binRow_done (n : Int) (W : Nat) : binRow n W (W - 1) = binNums n W := by simp [binRow, binNums]
theorem binRow_step (n : Int) (W k : Nat) (hk : k < W - 1) : (binRow n W k).set (W - 1 - k) (shn n k % 256) = binRow n W (k + 1) := by
  obtain ⟨d, hd⟩ : ∃ d, W - 1 - k = d + 1 := ⟨W - 1 - k - 1, by omega⟩
  have hd2 : W - 1 - (k + 1) = d := by omega
  unfold binRow
  rw [hd, hd2, List.set_cons_succ, List.replicate_succ', List.append_assoc]
  rw [List.set_append_right _ _ (by simp)]
  simp [beB]

/-- the two's complement of 64 bits, shifted. -/
def uwn (n : Int) (k : Nat) : Int := shn (n % 18446744073709551616) k
theorem uwn_zero (n : Int) : uwn n 0 = n % 18446744073709551616 := shn_zero _
theorem uwn_succ (n : Int) (k : Nat) : uwn n (k + 1) = uwn n k / 256 := shn_succ _ _
theorem uwn_le (n : Int) (k : Nat) : 0 ≤ uwn n k ∧ uwn n k ≤ 18446744073709551615 := by
  induction k with
  | zero => rw [uwn_zero]; omega
  | succ k ih => rw [uwn_succ]; omega
theorem uwn_shn (n : Int) (k : Nat) (hk : k < 8) : uwn n k % 256 = shn n k % 256 := by
  have h : k = 0 ∨ k = 1 ∨ k = 2 ∨ k = 3 ∨ k = 4 ∨ k = 5 ∨ k = 6 ∨ k = 7 := by omega
  rcases h with rfl | rfl | rfl | rfl | rfl | rfl | rfl | rfl <;> simp only [uwn, shn_succ, shn_zero] <;> omega
theorem shn_big (n : Int) (h1 : -9223372036854775808 ≤ n) (h2 : n ≤ 9223372036854775807) (k : Nat) (hk : 8 ≤ k) : shn n k = if n < 0 then -1 else 0 := by
  induction k with
  | zero => omega
  | succ k ih =>
    rcases Nat.lt_or_ge k 8 with h | h
    · obtain rfl : k = 7 := by omega
      simp only [shn_succ, shn_zero]
      split <;> omega
    · rw [shn_succ, ih h]; split <;> rfl
end Go.Proofs.YtapfkjdkpcgoiaaDoor
