/- Plain mathematics: a sealed header is right; one byte bent; two bytes swapped; parts. No program. -/
import Derived.Test.YtapfkjdkpcgoiaaDoorPlainK
import Derived.Test.YtapfkjdkpcgoiaaDoorPlainB
namespace Go.Proofs.YtapfkjdkpcgoiaaDoor

/-- octal digits with blanks or zero bytes behind. -/
theorem trim_digitsT (n : Int) (k : Nat) (hk : 1 ≤ k) (T : List UInt8) (hT : ∀ c ∈ T, c = 32 ∨ c = 0) : trimR (trimL ((octB n k).map u8 ++ T)) = (octB n k).map u8 := by
  have hm := octU_mem n k
  have hl : ((octB n k).map u8).length = k := by simp [octB_length]
  generalize (octB n k).map u8 = l at hm hl
  have e1 : trimL (l ++ T) = l ++ T := by
    unfold trimL Lib.trimLeftB
    cases l with
    | nil => simp at hl; omega
    | cons y r =>
      rw [List.cons_append, List.dropWhile_cons_of_neg]
      have := hm y (by simp)
      intro h
      have h2 : y = 32 := by simpa using h
      subst h2
      simp at this
  rw [e1]
  unfold trimR Lib.trimRightS
  rw [List.reverse_append]
  have hT2 : ∀ (R : List UInt8), (∀ c ∈ R, c = 32 ∨ c = 0) → ∀ (X : List UInt8) (p : UInt8 → Bool), (∀ c, (c = 32 ∨ c = 0) → p c = true) → (∀ x, X.head? = some x → p x = false) → (R ++ X).dropWhile p = X := by
    intro R
    induction R with
    | nil =>
      intro _ X p _ hX
      cases X with
      | nil => rfl
      | cons x r => simp [hX x rfl]
    | cons c R ih =>
      intro hR X p hp hX
      rw [List.cons_append, List.dropWhile_cons_of_pos (hp c (hR c (by simp)))]
      exact ih (fun c hc => hR c (by simp [hc])) X p hp hX
  rw [hT2 T.reverse (fun c hc => hT c (List.mem_reverse.1 hc)) l.reverse]
  · exact List.reverse_reverse l
  · rintro c (rfl | rfl) <;> rfl
  · refine head_last l _ fun x hx => ?_
    have := hm x hx
    have h1 : x ≠ 32 := by rintro rfl; simp at this
    have h2 : x ≠ 0 := by rintro rfl; simp at this
    simp [h1, h2]

theorem readF_digitsT (n : Int) (k : Nat) (T : List UInt8) (hT : ∀ c ∈ T, c = 32 ∨ c = 0) (h1 : 0 ≤ n) (h2 : n < 8 ^ k) (hk : 1 ≤ k) (hk2 : k ≤ 19) :
    readF ((octB n k).map u8 ++ T) = (n, 0) := by
  have ht := trim_digitsT n k hk T hT
  have hro : roF 0 ((octB n k).map u8) = (n, 0) := by
    have h8 : (8 : Int) ^ k ≤ 8 ^ 19 := by
      have := Nat.pow_le_pow_right (n := 8) (by decide) hk2
      exact_mod_cast this
    have h9 : (8 : Int) ^ 19 = 144115188075855872 := by decide +kernel
    rw [roF_octB n k 0 (by omega) (by omega), Int.emod_eq_of_lt h1 h2, Int.zero_mul, Int.zero_add]
  generalize hL : (octB n k).map u8 ++ T = L at ht ⊢
  cases L with
  | nil =>
    have := congrArg List.length hL
    simp [octB_length] at this
    omega
  | cons x r =>
    have hx : x.toNat < 128 := by
      have hmem : x ∈ (octB n k).map u8 ++ T := by rw [hL]; simp
      rcases List.mem_append.1 hmem with h | h
      · have := octU_mem n k x h; omega
      · rcases hT x h with rfl | rfl <;> decide
    rw [readF_oct _ _ (by omega), ht, hro]

/-- the checksum's field. -/
def fieldL (l : List UInt8) : List UInt8 := (l.drop 148).take 8
/-- the sealed header. -/
def sealL (l : List UInt8) : List UInt8 := l.take 148 ++ (octNums (sumC false l 512) 7).map u8 ++ [32] ++ l.drop 156
/-- right: the field is one of the sums. -/
def rightL (l : List UInt8) : Prop := l.length = 512 ∧ (readF (fieldL l)).2 = 0 ∧ ((readF (fieldL l)).1 = sumC false l 512 ∨ (readF (fieldL l)).1 = sumC true l 512)

theorem sealL_length (l : List UInt8) (h : l.length = 512) : (sealL l).length = 512 := by
  simp [sealL, octNums_length, h]
theorem sealL_low (l : List UInt8) (h : l.length = 512) (k : Nat) (hk : k < 148) : (sealL l)[k]? = l[k]? := by
  unfold sealL
  rw [List.append_assoc, List.append_assoc, List.getElem?_append_left (by simp; omega), List.getElem?_take_of_lt hk]
theorem sealL_high (l : List UInt8) (h : l.length = 512) (k : Nat) (hk : 156 ≤ k) : (sealL l)[k]? = l[k]? := by
  unfold sealL
  rw [List.getElem?_append_right (by simp [octNums_length]; omega), List.getElem?_drop]
  congr 1
  simp [octNums_length]; omega
theorem bAt_congr (l m : List UInt8) (k : Nat) (h : l[k]? = m[k]?) : bAt l k = bAt m k := by
  unfold bAt; rw [List.getD_eq_getElem?_getD, List.getD_eq_getElem?_getD, h]
theorem sumC_congr (sg : Bool) (l m : List UInt8) (n : Nat) (h : ∀ k, k < n → ¬ (148 ≤ k ∧ k < 156) → bAt l k = bAt m k) : sumC sg l n = sumC sg m n := by
  induction n with
  | zero => rfl
  | succ n ih =>
    rw [sumC, sumC, ih fun k hk => h k (by omega)]
    split
    · rfl
    · next hn => rw [h n (by omega) hn]
theorem sumC_seal (sg : Bool) (l : List UInt8) (h : l.length = 512) : sumC sg (sealL l) 512 = sumC sg l 512 :=
  sumC_congr sg _ _ 512 fun k _ hn => bAt_congr _ _ _ (by
    rcases Nat.lt_or_ge k 148 with hk | hk
    · exact sealL_low l h k hk
    · exact sealL_high l h k (by omega))
theorem fieldL_seal (l : List UInt8) (h : l.length = 512) : fieldL (sealL l) = (octB (sumC false l 512) 6).map u8 ++ [0, 32] := by
  have e : sealL l = l.take 148 ++ (((octB (sumC false l 512) 6).map u8 ++ [0, 32]) ++ l.drop 156) := by
    unfold sealL octNums
    simp [u8]
  unfold fieldL
  rw [e, List.drop_left' (by simp; omega), List.take_left' (by simp [octB_length])]
theorem sumC_low (l : List UInt8) (n : Nat) : 0 ≤ sumC false l n := by
  induction n with
  | zero => simp [sumC]
  | succ n ih =>
    have hb := bAt_range l n
    rw [sumC, bv_u]
    split <;> omega
theorem readF_seal (l : List UInt8) (h : l.length = 512) : readF (fieldL (sealL l)) = (sumC false l 512, 0) := by
  rw [fieldL_seal l h]
  have h1 := sumC_low l 512
  have h2 := sumC_range false l 512
  have h8 : (8 : Int) ^ 6 = 262144 := by decide +kernel
  exact readF_digitsT _ 6 [0, 32] (by intro c hc; simp at hc; rcases hc with rfl | rfl <;> simp) h1 (by omega) (by omega) (by omega)
theorem rightL_seal (l : List UInt8) (h : l.length = 512) : rightL (sealL l) := by
  refine ⟨sealL_length l h, ?_, .inl ?_⟩
  · rw [readF_seal l h]
  · rw [readF_seal l h, sumC_seal false l h]

/-- one byte bent: what the sum is. -/
theorem bAt_set_ne (l : List UInt8) (i k : Nat) (c : UInt8) (h : k ≠ i) : bAt (l.set i c) k = bAt l k :=
  bAt_congr _ _ _ (by rw [List.getElem?_set_ne (by omega)])
theorem bAt_set_eq (l : List UInt8) (i : Nat) (c : UInt8) (h : i < l.length) : bAt (l.set i c) i = (c.toNat : Int) := by
  unfold bAt; rw [List.getD_eq_getElem?_getD, List.getElem?_set_self h]; rfl
theorem sumC_set (sg : Bool) (l : List UInt8) (i : Nat) (c : UInt8) (hi : i < l.length) (hn : ¬ (148 ≤ i ∧ i < 156)) (n : Nat) :
    sumC sg (l.set i c) n = if i < n then sumC sg l n + bv sg (c.toNat : Int) - bv sg (bAt l i) else sumC sg l n := by
  induction n with
  | zero => simp [sumC]
  | succ n ih =>
    rw [sumC, sumC, ih]
    by_cases h : i = n
    · subst h
      rw [if_neg hn, if_neg hn, if_neg (show ¬ i < i by omega), if_pos (show i < i + 1 by omega), bAt_set_eq l i c hi]; omega
    · rw [bAt_set_ne l i n c (by omega)]
      by_cases h2 : i < n
      · rw [if_pos h2, if_pos (show i < n + 1 by omega)]; omega
      · rw [if_neg h2, if_neg (show ¬ i < n + 1 by omega)]
/-- signed and unsigned differ by a multiple of 256. -/
theorem sumC_signed (l : List UInt8) (n : Nat) : ∃ K : Int, 0 ≤ K ∧ sumC true l n = sumC false l n - 256 * K := by
  induction n with
  | zero => exact ⟨0, by omega, rfl⟩
  | succ n ih =>
    obtain ⟨K, h1, h2⟩ := ih
    rw [sumC, sumC]
    split
    · exact ⟨K, h1, by omega⟩
    · by_cases hb : 128 ≤ bAt l n
      · exact ⟨K + 1, by omega, by rw [bv_u, bv_high _ hb]; omega⟩
      · exact ⟨K, h1, by rw [bv_u, bv_low _ _ (by omega)]; omega⟩
theorem fieldL_set (l : List UInt8) (i : Nat) (c : UInt8) (hn : ¬ (148 ≤ i ∧ i < 156)) : fieldL (l.set i c) = fieldL l := by
  unfold fieldL
  apply List.ext_getElem?
  intro k
  by_cases hk : k < 8
  · rw [List.getElem?_take_of_lt hk, List.getElem?_take_of_lt hk, List.getElem?_drop, List.getElem?_drop, List.getElem?_set_ne (by omega)]
  · rw [List.getElem?_eq_none (by rw [List.length_take]; omega), List.getElem?_eq_none (by rw [List.length_take]; omega)]
theorem set_same (l : List UInt8) (i : Nat) (c : UInt8) (hi : i < l.length) : l.set i c = l ↔ (c.toNat : Int) = bAt l i := by
  have hb : bAt l i = (l[i].toNat : Int) := by unfold bAt; rw [List.getD_eq_getElem?_getD, List.getElem?_eq_getElem hi]; rfl
  rw [hb]
  constructor
  · intro e
    have := congrArg (fun m => m[i]?) e
    simp only [List.getElem?_set_self hi, List.getElem?_eq_getElem hi] at this
    rw [Option.some.inj this]
  · intro e
    have : c = l[i] := UInt8.toNat_inj.1 (by omega)
    rw [this, List.set_getElem_self]
theorem rightL_bent (l : List UInt8) (h : l.length = 512) (i : Nat) (c : UInt8) (hi : i < 512) (hn : ¬ (148 ≤ i ∧ i < 156)) :
    rightL ((sealL l).set i c) ↔ (sealL l).set i c = sealL l := by
  have hs := sealL_length l h
  have hr := readF_seal l h
  have h3 := sumC_seal false l h
  generalize sealL l = m at hs hr h3
  rw [set_same m i c (by omega)]
  unfold rightL
  rw [fieldL_set m i c hn, hr, List.length_set]
  have hf := sumC_set false m i c (by omega) hn 512
  have ht := sumC_set true m i c (by omega) hn 512
  rw [if_pos hi] at hf ht
  obtain ⟨K, hK, hKe⟩ := sumC_signed (m.set i c) 512
  rw [bv_u, bv_u] at hf
  have hb := bAt_range m i
  have hc := c.toNat_lt
  constructor
  · rintro ⟨-, -, h5 | h5⟩
    · simp only at h5; omega
    · simp only at h5; omega
  · intro e
    exact ⟨hs, rfl, .inl (by simp only; omega)⟩
/-- two bytes swapped. -/
theorem rightL_swap (l : List UInt8) (h : l.length = 512) (a b : Nat) (ca cb : UInt8) (ha : a < 148) (hb1 : 156 ≤ b) (hb2 : b < 512) (hca : (sealL l)[a]? = some ca) (hcb : (sealL l)[b]? = some cb) :
    rightL (((sealL l).set a cb).set b ca) := by
  have hs := sealL_length l h
  have hr := readF_seal l h
  have h3 := sumC_seal false l h
  generalize sealL l = m at hs hr h3 hca hcb
  unfold rightL
  rw [fieldL_set _ b ca (by omega), fieldL_set _ a cb (by omega), hr, List.length_set, List.length_set]
  refine ⟨hs, rfl, .inl ?_⟩
  have e1 := sumC_set false m a cb (by omega) (by omega) 512
  have e2 := sumC_set false (m.set a cb) b ca (by simp; omega) (by omega) 512
  rw [if_pos (by omega), bv_u, bv_u] at e1 e2
  rw [bAt_set_ne m a b cb (by omega)] at e2
  have ea : bAt m a = (ca.toNat : Int) := by unfold bAt; rw [List.getD_eq_getElem?_getD, hca]; rfl
  have eb : bAt m b = (cb.toNat : Int) := by unfold bAt; rw [List.getD_eq_getElem?_getD, hcb]; rfl
  simp only
  omega
/-- parts. -/
theorem sumC_parts (sg : Bool) (l a b : List UInt8) (n : Nat) (h : ∀ k, k < n → (bAt a k = 0 ∧ bAt b k = bAt l k) ∨ (bAt a k = bAt l k ∧ bAt b k = 0)) :
    sumC sg a n + sumC sg b n = sumC sg l n + 32 * ((min (n - 148) 8 : Nat) : Int) := by
  induction n with
  | zero => simp [sumC]
  | succ n ih =>
    have := ih fun k hk => h k (by omega)
    have hz : bv sg 0 = 0 := by unfold bv; split <;> omega
    rw [sumC, sumC, sumC]
    split
    · omega
    · rcases h n (by omega) with ⟨e1, e2⟩ | ⟨e1, e2⟩ <;> rw [e1, e2, hz] <;> omega

/-- 512 letters a. -/
theorem sumC_rep (sg : Bool) (n : Nat) (hn : n ≤ 512) : sumC sg (List.replicate 512 97) n = 97 * (n : Int) - 65 * ((min (n - 148) 8 : Nat) : Int) := by
  induction n with
  | zero => simp [sumC]
  | succ n ih =>
    have hb : bAt (List.replicate 512 97) n = 97 := by
      unfold bAt; rw [List.getD_eq_getElem?_getD, List.getElem?_replicate, if_pos (by omega)]; rfl
    rw [sumC, ih (by omega), hb, bv_low _ _ (by omega)]
    split <;> omega
theorem field_rep : fieldL (List.replicate 512 97) = List.replicate 8 97 := by
  unfold fieldL; rw [List.drop_replicate, List.take_replicate]; rfl
theorem right_rep : ¬ rightL (List.replicate 512 97) := by
  rintro ⟨-, h, -⟩
  rw [field_rep] at h
  revert h
  decide +kernel
end Go.Proofs.YtapfkjdkpcgoiaaDoor
