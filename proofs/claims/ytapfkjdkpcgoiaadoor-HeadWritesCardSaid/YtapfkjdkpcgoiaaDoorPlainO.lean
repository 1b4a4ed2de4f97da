/- Plain mathematics of octal fields: no program. -/
import Derived.Test.YtapfkjdkpcgoiaaDoorPlain
namespace Go.Proofs.YtapfkjdkpcgoiaaDoor

/-- n / 8^k, behind a name. -/
def octn (n : Int) (k : Nat) : Int := n / 8 ^ k
theorem octn_zero (n : Int) : octn n 0 = n := by simp [octn]
theorem octn_succ (n : Int) (k : Nat) : octn n (k + 1) = octn n k / 8 := by
  unfold octn
  rw [Int.pow_succ, Int.ediv_ediv_of_nonneg (Int.pow_nonneg (by decide))]
theorem octn_le (n : Int) (h1 : 0 ≤ n) (h2 : n ≤ 9223372036854775807) (k : Nat) : 0 ≤ octn n k ∧ octn n k ≤ 9223372036854775807 := by
  induction k with
  | zero => rw [octn_zero]; exact ⟨h1, h2⟩
  | succ k ih => rw [octn_succ]; omega
theorem octn_mono (n : Int) (k d : Nat) (h : octn n k = 0) : octn n (k + d) = 0 := by
  induction d with
  | zero => exact h
  | succ d ih => rw [← Nat.add_assoc, octn_succ, ih]; rfl

/-- the k low octal digits of n as bytes, most significant first. -/
def octB (n : Int) : Nat → List Int
  | 0 => []
  | k + 1 => (48 + octn n k % 8) :: octB n k
theorem octB_length (n : Int) (k : Nat) : (octB n k).length = k := by
  induction k with
  | zero => rfl
  | succ k ih => simp [octB, ih]
theorem octB_range (n : Int) (k : Nat) : ∀ x ∈ octB n k, 48 ≤ x ∧ x ≤ 55 := by
  induction k with
  | zero => intro x hx; cases hx
  | succ k ih =>
    intro x hx
    rcases List.mem_cons.1 hx with rfl | h
    · omega
    · exact ih x h
theorem octB_pad (n : Int) (k d : Nat) (h : octn n k = 0) : octB n (k + d) = List.replicate d 48 ++ octB n k := by
  induction d with
  | zero => rfl
  | succ d ih =>
    rw [← Nat.add_assoc, octB, octn_mono n k d h, ih, List.replicate_succ, List.cons_append]
    rfl

def octNums (n : Int) (W : Nat) : List Int := octB n (W - 1) ++ [0]
theorem octNums_length (n : Int) (W : Nat) (h : 1 ≤ W) : (octNums n W).length = W := by simp [octNums, octB_length]; omega
def octRow (n : Int) (W k : Nat) : List Int := List.replicate (W - 1 - k) 0 ++ (octB n k ++ [0])
theorem octRow_length (n : Int) (W k : Nat) (hk : k ≤ W - 1) (h : 1 ≤ W) : (octRow n W k).length = W := by simp [octRow, octB_length]; omega
theorem octRow_start (n : Int) (W : Nat) (h : 1 ≤ W) : List.replicate W (0 : Int) = octRow n W 0 := by
  obtain ⟨V, rfl⟩ : ∃ V, W = V + 1 := ⟨W - 1, by omega⟩
  simp [octRow, octB, List.replicate_succ']
theorem octRow_done (n : Int) (W : Nat) : octRow n W (W - 1) = octNums n W := by simp [octRow, octNums]
theorem octRow_step (n : Int) (W k : Nat) (hk : k < W - 1) : (octRow n W k).set (W - 2 - k) (48 + octn n k % 8) = octRow n W (k + 1) := by
  obtain ⟨d, hd⟩ : ∃ d, W - 1 - k = d + 1 := ⟨W - 1 - k - 1, by omega⟩
  have hd2 : W - 1 - (k + 1) = d := by omega
  have hd3 : W - 2 - k = d := by omega
  unfold octRow
  rw [hd, hd2, hd3, List.replicate_succ', List.append_assoc]
  rw [List.set_append_right _ _ (by simp)]
  simp [octB]

theorem octn_pow (n : Int) (h : 0 ≤ n) (k : Nat) : octn n k = 0 ↔ n < 8 ^ k := by
  have hp : (0 : Int) < 8 ^ k := Int.pow_pos (by decide)
  unfold octn
  constructor
  · intro h0
    have := Int.lt_ediv_add_one_mul_self n hp
    rw [h0] at this; omega
  · intro h0
    exact Int.ediv_eq_zero_of_lt h h0
theorem octn_big (n : Int) (h1 : 0 ≤ n) (h2 : n ≤ 9223372036854775807) (k : Nat) (hk : 21 ≤ k) : octn n k = 0 := by
  have h : octn n 21 = 0 := by
    rw [octn_pow n h1]
    have : (8 : Int) ^ 21 = 9223372036854775808 := by decide +kernel
    omega
  have := octn_mono n 21 (k - 21) h
  rwa [show 21 + (k - 21) = k by omega] at this
theorem octn_pos_small (n : Int) (h1 : 0 ≤ n) (h2 : n ≤ 9223372036854775807) (k : Nat) (hk : 0 < octn n k) : k ≤ 20 := by
  rcases Nat.lt_or_ge k 21 with h | h
  · omega
  · have := octn_big n h1 h2 k h; omega
end Go.Proofs.YtapfkjdkpcgoiaaDoor
