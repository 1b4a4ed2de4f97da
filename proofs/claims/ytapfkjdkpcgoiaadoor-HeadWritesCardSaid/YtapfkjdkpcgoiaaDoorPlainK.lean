/- Plain mathematics: what is written is read; the order of octal fields. No program. -/
import Derived.Test.YtapfkjdkpcgoiaaDoorPlainR
namespace Go.Proofs.YtapfkjdkpcgoiaaDoor

def u8 (n : Int) : UInt8 := UInt8.ofNat n.toNat
theorem u8_toNat (n : Int) (h1 : 0 ≤ n) (h2 : n ≤ 255) : ((u8 n).toNat : Int) = n := by
  unfold u8; rw [UInt8.toNat_ofNat']; omega
theorem strOf_list (x : List Int) : (strOfNums x).data.toList = x.map u8 := strOfNums_data x

theorem emod_mul' (n a b : Int) (ha : 0 ≤ a) : n % (a * b) = n % a + a * (n / a % b) := by
  rw [Int.emod_def, Int.emod_def n a, Int.emod_def (n / a) b, ← Int.ediv_ediv_of_nonneg ha, Int.mul_sub, Int.mul_assoc]
  omega
theorem octn_mod (n : Int) (k : Nat) : n % 8 ^ (k + 1) = octn n k % 8 * 8 ^ k + n % 8 ^ k := by
  have hp : (1 : Int) ≤ 8 ^ k := Int.pow_pos (by decide)
  unfold octn
  rw [Int.pow_succ, emod_mul' _ _ _ (by omega), Int.mul_comm]
  omega
theorem roF_octB (n : Int) : ∀ (k : Nat) (m : Int), 0 ≤ m → (m + 1) * 8 ^ k ≤ 1152921504606846976 → roF m ((octB n k).map u8) = (m * 8 ^ k + n % 8 ^ k, 0) := by
  intro k
  induction k with
  | zero => intro m h1 h2; simp [octB, roF, Int.emod_one]
  | succ k ih =>
    intro m h1 h2
    have hp : (1 : Int) ≤ 8 ^ k := Int.pow_pos (by decide)
    have hd : 0 ≤ octn n k % 8 ∧ octn n k % 8 ≤ 7 := by omega
    have hu : ((u8 (48 + octn n k % 8)).toNat : Int) = 48 + octn n k % 8 := u8_toNat _ (by omega) (by omega)
    have h8 : (8 : Int) ^ (k + 1) = 8 * 8 ^ k := by rw [Int.pow_succ, Int.mul_comm]
    have hm : m < 1152921504606846976 := by
      have h3 : (m + 1) * 8 ^ (k + 1) = (m + 1) * 8 * 8 ^ k := by rw [h8, Int.mul_assoc]
      have h4 : (m + 1) * 8 * 1 ≤ (m + 1) * 8 * 8 ^ k := Int.mul_le_mul_of_nonneg_left hp (by omega)
      omega
    rw [octB, List.map_cons, roF_go (by rw [hu]; omega) (by omega), hu]
    rw [show m * 8 + (48 + octn n k % 8 - 48) = m * 8 + octn n k % 8 by omega]
    have hle : (m * 8 + octn n k % 8 + 1) * 8 ^ k ≤ (m + 1) * 8 ^ (k + 1) := by
      rw [h8, ← Int.mul_assoc]
      exact Int.mul_le_mul_of_nonneg_right (by omega) (by omega)
    rw [ih _ (by omega) (by omega)]
    have hmod := octn_mod n k
    rw [hmod, h8, Int.add_mul, Int.mul_assoc, Int.add_assoc]

theorem rbF_beB (n : Int) (h1 : -9223372036854775808 ≤ n) (h2 : n ≤ 9223372036854775807) : ∀ k : Nat, rbF (shn n k) ((beB n k).map u8) = (n, 0) := by
  intro k
  induction k with
  | zero => rw [shn_zero]; rfl
  | succ k ih =>
    have hr := shn_le n h1 h2 k
    have hu : ((u8 (shn n k % 256)).toNat : Int) = shn n k % 256 := u8_toNat _ (by omega) (by omega)
    rw [beB, List.map_cons, shn_succ, rbF_go (by omega), hu]
    rw [show shn n k / 256 * 256 + shn n k % 256 = shn n k by omega]
    exact ih

theorem shn_top (n : Int) (W : Nat) (hW : 8 ≤ W) (h1 : -9223372036854775808 ≤ n) (h2 : n ≤ 9223372036854775807) (hr : W = 8 → -36028797018963968 ≤ n ∧ n ≤ 36028797018963967) : shn n (W - 1) = if n < 0 then -1 else 0 := by
  rcases Nat.lt_or_ge (W - 1) 8 with h | h
  · have : W = 8 := by omega
    subst this
    have := hr rfl
    simp only [shn_succ, shn_zero]
    split <;> omega
  · exact shn_big n h1 h2 _ h

theorem back_bin (n : Int) (W : Nat) (hW : 8 ≤ W) (h1 : -9223372036854775808 ≤ n) (h2 : n ≤ 9223372036854775807) (hr : W = 8 → -36028797018963968 ≤ n ∧ n ≤ 36028797018963967) : readF ((binNums n W).map u8) = (n, 0) := by
  have ht := shn_top n W hW h1 h2 hr
  have hm : ((u8 (markB n)).toNat : Int) = markB n := u8_toNat _ (by unfold markB; split <;> omega) (by unfold markB; split <;> omega)
  have hf : firstF (u8 (markB n)) = shn n (W - 1) := by
    unfold firstF
    rw [hm, ht]
    unfold markB
    by_cases hn : n < 0
    · rw [if_pos hn, if_pos rfl, if_pos hn]
    · rw [if_neg hn, if_neg (by omega), if_neg hn]; rfl
  unfold binNums
  rw [List.map_cons, readF_bin _ _ (by have : 128 ≤ markB n := by unfold markB; split <;> omega
                                       omega), hf]
  exact rbF_beB n h1 h2 _

/-- octal digits: neither blank nor zero byte. -/
theorem octU_mem (n : Int) (k : Nat) : ∀ c ∈ (octB n k).map u8, 48 ≤ c.toNat ∧ c.toNat ≤ 55 := by
  intro c hc
  obtain ⟨x, hx, rfl⟩ := List.mem_map.1 hc
  have := octB_range n k x hx
  have := u8_toNat x (by omega) (by omega)
  omega
theorem dropWhile_rep {p : UInt8 → Bool} (c : UInt8) (hc : p c = true) (q : Nat) (l : List UInt8) (hl : ∀ x, l.head? = some x → p x = false) : (List.replicate q c ++ l).dropWhile p = l := by
  induction q with
  | zero =>
    cases l with
    | nil => rfl
    | cons x r => simp [hl x rfl]
  | succ q ih => rw [List.replicate_succ, List.cons_append, List.dropWhile_cons_of_pos hc, ih]
theorem head_last (l : List UInt8) (P : UInt8 → Bool) (h : ∀ x ∈ l, P x = false) : ∀ x, l.reverse.head? = some x → P x = false := by
  intro x hx
  refine h x ?_
  have := List.mem_of_head? hx
  exact List.mem_reverse.1 this
theorem head_first (l : List UInt8) (P : UInt8 → Bool) (h : ∀ x ∈ l, P x = false) : ∀ x, l.head? = some x → P x = false := fun x hx => h x (List.mem_of_head? hx)

theorem trim_digits (n : Int) (k p q : Nat) (c : UInt8) (hc : c = 32 ∨ c = 0) : trimR (trimL (List.replicate p 32 ++ ((octB n k).map u8 ++ List.replicate q c))) = (octB n k).map u8 ∨ k = 0 := by
  rcases Nat.eq_zero_or_pos k with h | hk
  · exact .inr h
  refine .inl ?_
  have hm := octU_mem n k
  have hl : ((octB n k).map u8).length = k := by simp [octB_length]
  generalize (octB n k).map u8 = l at hm hl
  have e1 : trimL (List.replicate p 32 ++ (l ++ List.replicate q c)) = l ++ List.replicate q c := by
    unfold trimL Lib.trimLeftB
    refine dropWhile_rep 32 rfl p _ ?_
    intro x hx
    cases l with
    | nil => simp at hl; omega
    | cons y r =>
      simp at hx
      subst hx
      have := hm y (by simp)
      rw [beq_eq_false_iff_ne]
      rintro rfl
      simp at this
  rw [e1]
  unfold trimR Lib.trimRightS
  rw [List.reverse_append, List.reverse_replicate]
  rw [dropWhile_rep c (by rcases hc with rfl | rfl <;> rfl) q]
  · exact List.reverse_reverse l
  · refine head_last l _ fun x hx => ?_
    have := hm x hx
    have h1 : x ≠ 32 := by rintro rfl; simp at this
    have h2 : x ≠ 0 := by rintro rfl; simp at this
    simp [h1, h2]

theorem readF_digits (n : Int) (k p q : Nat) (c : UInt8) (hc : c = 32 ∨ c = 0) (h1 : 0 ≤ n) (h2 : n < 8 ^ k) (hk : 1 ≤ k) (hk2 : k ≤ 19) :
    readF (List.replicate p 32 ++ ((octB n k).map u8 ++ List.replicate q c)) = (n, 0) := by
  have ht := (trim_digits n k p q c hc).resolve_right (by omega)
  have hro : roF 0 ((octB n k).map u8) = (n, 0) := by
    have h8 : (8 : Int) ^ k ≤ 8 ^ 19 := by
      have := Nat.pow_le_pow_right (n := 8) (by decide) hk2
      exact_mod_cast this
    have h9 : (8 : Int) ^ 19 = 144115188075855872 := by decide +kernel
    rw [roF_octB n k 0 (by omega) (by omega), Int.emod_eq_of_lt h1 h2, Int.zero_mul, Int.zero_add]
  generalize hL : List.replicate p 32 ++ ((octB n k).map u8 ++ List.replicate q c) = L at ht ⊢
  cases L with
  | nil =>
    have := congrArg List.length hL
    simp [octB_length] at this
    omega
  | cons x r =>
    have hx : x.toNat < 128 := by
      have hmem : x ∈ List.replicate p 32 ++ ((octB n k).map u8 ++ List.replicate q c) := by rw [hL]; simp
      rcases List.mem_append.1 hmem with h | h
      · rw [(List.mem_replicate.1 h).2]; decide
      · rcases List.mem_append.1 h with h | h
        · have := octU_mem n k x h; omega
        · rw [(List.mem_replicate.1 h).2]; rcases hc with rfl | rfl <;> decide
    rw [readF_oct _ _ (by omega), ht, hro]

theorem back_oct (n : Int) (W : Nat) (hW1 : 2 ≤ W) (hW2 : W ≤ 20) (h1 : 0 ≤ n) (h2 : n < 8 ^ (W - 1)) : readF ((octNums n W).map u8) = (n, 0) := by
  have := readF_digits n (W - 1) 0 1 0 (.inr rfl) h1 h2 (by omega) (by omega)
  unfold octNums
  rw [List.map_append]
  exact this

/-- two fields of one width, in octal: as the numbers stand, so do they. -/
theorem bytesLess_self (t : List UInt8) : Op.bytesLess t t = false := by
  induction t with
  | nil => rfl
  | cons c r ih => simp [Op.bytesLess, ih]
theorem less_octB (a b : Int) (t : List UInt8) : ∀ k : Nat, Op.bytesLess ((octB a k).map u8 ++ t) ((octB b k).map u8 ++ t) = decide (a % 8 ^ k < b % 8 ^ k) := by
  intro k
  induction k with
  | zero => simp [octB, bytesLess_self, Int.emod_one]
  | succ k ih =>
    have hp : (1 : Int) ≤ 8 ^ k := Int.pow_pos (by decide)
    have hda : 0 ≤ octn a k % 8 ∧ octn a k % 8 ≤ 7 := by omega
    have hdb : 0 ≤ octn b k % 8 ∧ octn b k % 8 ≤ 7 := by omega
    have hua : ((u8 (48 + octn a k % 8)).toNat : Int) = 48 + octn a k % 8 := u8_toNat _ (by omega) (by omega)
    have hub : ((u8 (48 + octn b k % 8)).toNat : Int) = 48 + octn b k % 8 := u8_toNat _ (by omega) (by omega)
    have ha := Int.emod_nonneg a (show (8 : Int) ^ k ≠ 0 by omega)
    have ha2 := Int.emod_lt_of_pos a (show (0 : Int) < 8 ^ k by omega)
    have hb := Int.emod_nonneg b (show (8 : Int) ^ k ≠ 0 by omega)
    have hb2 := Int.emod_lt_of_pos b (show (0 : Int) < 8 ^ k by omega)
    rw [octn_mod a k, octn_mod b k, octB, octB, List.map_cons, List.map_cons, List.cons_append, List.cons_append, Op.bytesLess, ih]
    generalize octn a k % 8 = x at *
    generalize octn b k % 8 = y at *
    generalize (8 : Int) ^ k = P at *
    generalize a % P = u at *
    generalize b % P = v at *
    by_cases hxy : x = y
    · subst hxy
      have h1 : ¬ u8 (48 + x) < u8 (48 + x) := UInt8.lt_irrefl _
      simp [h1]
    · have hne : u8 (48 + x) ≠ u8 (48 + y) := fun e => hxy (by rw [e] at hua; omega)
      have hbq : (u8 (48 + x) == u8 (48 + y)) = false := by rw [beq_eq_false_iff_ne]; exact hne
      rw [hbq, Bool.false_and, Bool.or_false]
      rcases Int.lt_or_gt_of_ne hxy with h | h
      · have h1 : u8 (48 + x) < u8 (48 + y) := by rw [UInt8.lt_iff_toNat_lt]; omega
        have h2 : x * P + u < y * P + v := by
          have : (x + 1) * P ≤ y * P := Int.mul_le_mul_of_nonneg_right (by omega) (by omega)
          rw [Int.add_mul] at this; omega
        simp [h1, h2]
      · have h1 : ¬ u8 (48 + x) < u8 (48 + y) := by rw [UInt8.lt_iff_toNat_lt]; omega
        have h2 : ¬ x * P + u < y * P + v := by
          have : (y + 1) * P ≤ x * P := Int.mul_le_mul_of_nonneg_right (by omega) (by omega)
          rw [Int.add_mul] at this; omega
        simp [h1, h2]
theorem less_oct (a b : Int) (W : Nat) (ha : 0 ≤ a) (hb : 0 ≤ b) (ha2 : a < 8 ^ (W - 1)) (hb2 : b < 8 ^ (W - 1)) : Op.bytesLess (strOfNums (octNums a W)).toList (strOfNums (octNums b W)).toList = decide (a < b) := by
  rw [ByteArray.toList_eq, ByteArray.toList_eq, strOf_list, strOf_list]
  unfold octNums
  rw [List.map_append, List.map_append, less_octB, Int.emod_eq_of_lt ha ha2, Int.emod_eq_of_lt hb hb2]
end Go.Proofs.YtapfkjdkpcgoiaaDoor
