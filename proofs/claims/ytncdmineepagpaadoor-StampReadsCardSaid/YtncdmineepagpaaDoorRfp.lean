/- The reference's reading of a time, in pieces. No program. -/
import Derived.Test.YtncdmineepagpaaDoorBak
namespace Go.Proofs.YtncdmineepagpaaDoor

/-- The scan: where the point is; none: a byte that does not belong. -/
def scanF : Int → Int → List UInt8 → Option Int
  | _, pt, [] => some pt
  | i, pt, c :: r => if c = 46 ∧ pt < 0 then scanF (i + 1) i r else if dig c then scanF (i + 1) pt r else none
theorem scan_dig : ∀ (r : List UInt8) (i pt : Int), 0 ≤ pt → scanF i pt r = if r.all dig then some pt else none
  | [], _, _, _ => rfl
  | c :: r, i, pt, h => by
    rw [scanF, if_neg (by omega)]
    cases hc : dig c with
    | true => simp [scan_dig r (i + 1) pt h, hc]
    | false => simp [hc]
theorem scan_any : ∀ (r : List UInt8) (i : Int), 0 ≤ i → scanF i (-1) r = if (wholeOf r).all dig && (fracOf r).all dig then some (if pointOf r then i + (wholeOf r).length else -1) else none
  | [], _, _ => rfl
  | c :: r, i, h => by
    by_cases hc : c = 46
    · subst hc
      rw [scanF, if_pos ⟨rfl, by omega⟩, scan_dig r (i + 1) i h]
      have e1 : wholeOf (46 :: r) = [] := by simp [wholeOf]
      have e2 : fracOf (46 :: r) = r := by simp [fracOf]
      have e3 : pointOf (46 :: r) = true := by simp [pointOf]
      rw [e1, e2, e3]
      simp
    · rw [scanF, if_neg (fun hh => hc hh.1)]
      have e1 : wholeOf (c :: r) = c :: wholeOf r := by simp [wholeOf, hc]
      have e2 : fracOf (c :: r) = fracOf r := by simp [fracOf, hc]
      have e3 : pointOf (c :: r) = pointOf r := by
        unfold pointOf
        rw [List.contains_cons]
        have : ((46 : UInt8) == c) = false := by simpa using fun h => hc h.symm
        rw [this, Bool.false_or]
      rw [e1, e2, e3]
      cases hd : dig c with
      | true =>
        rw [if_pos rfl, scan_any r (i + 1) (by omega)]
        simp only [List.all_cons, hd, Bool.true_and, List.length_cons]
        congr 2
        split
        · push_cast; omega
        · rfl
      | false => simp [hd]
theorem scan_step (i pt : Int) (c : UInt8) (r : List UInt8) : scanF i pt (c :: r) = if c = 46 ∧ pt < 0 then scanF (i + 1) i r else if dig c then scanF (i + 1) pt r else none := rfl
theorem frac_nil (u : List UInt8) (h : pointOf u = false) : wholeOf u = u ∧ fracOf u = [] := by
  have hm : ∀ c ∈ u, (c != 46) = true := by
    intro c hc
    unfold pointOf at h
    rw [List.contains_eq_mem, decide_eq_false_iff_not] at h
    simp only [bne_iff_ne, ne_eq]
    rintro rfl
    exact h hc
  have hd : u.dropWhile (· != 46) = [] := (drop_nil u).2 (List.all_eq_true.2 hm)
  unfold wholeOf fracOf
  rw [hd]
  refine ⟨?_, rfl⟩
  have := List.takeWhile_append_dropWhile (p := (· != 46)) (l := u)
  rw [hd, List.append_nil] at this
  exact this

/-! ### The number of seconds -/
theorem atoi_dig (l : List UInt8) (h : l.all dig = true) (hn : l ≠ []) : Lib.atoi l = some (valD l) := by
  have key : ∀ (l : List UInt8) (acc : Nat), l.all dig = true → ∃ m : Nat, Lib.decFrom acc l = some m ∧ l.foldl (fun n c => 10 * n + ((c.toNat : Int) - 48)) (acc : Int) = (m : Int) := by
    intro l
    induction l with
    | nil => exact fun acc _ => ⟨acc, rfl, rfl⟩
    | cons c l ih =>
      intro acc h
      simp only [List.all_cons, Bool.and_eq_true] at h
      have hc := (dig_iff c).1 h.1
      obtain ⟨m, h1, h2⟩ := ih (acc * 10 + (c.toNat - 48)) h.2
      refine ⟨m, ?_, ?_⟩
      · rw [Lib.decFrom, Lib.digitVal, if_pos hc]; exact h1
      · rw [List.foldl_cons, ← h2]; congr 1; omega
  cases l with
  | nil => exact absurd rfl hn
  | cons c r =>
    obtain ⟨m, h1, h2⟩ := key (c :: r) 0 h
    have hc := (dig_iff c).1 (List.all_eq_true.1 h c (by simp))
    have n1 : (c == 45) = false := by simp only [beq_eq_false_iff_ne]; rintro rfl; revert hc; decide
    have n2 : (c == 43) = false := by simp only [beq_eq_false_iff_ne]; rintro rfl; revert hc; decide
    rw [Lib.atoi, n1, n2]
    simp only [Bool.false_eq_true, if_false, Lib.decNat, List.isEmpty_cons, h1, Option.map_some]
    exact congrArg some h2.symm
def dropsTo (A W : List UInt8) : Prop := W ≠ [] ∧ W.all dig = true ∧ Lib.trimLeftB W 48 = Lib.trimLeftB A 48 ∧ W.length ≤ A.length
theorem drops_step (A : List UInt8) (r : List UInt8) (h : dropsTo A (48 :: r)) (hr : r ≠ []) : dropsTo A r := by
  obtain ⟨_, h2, h3, h4⟩ := h
  simp only [List.all_cons, Bool.and_eq_true] at h2
  refine ⟨hr, h2.2, ?_, ?_⟩
  · rw [← h3]; simp [Lib.trimLeftB]
  · simp at h4; omega
theorem drops_end (A : List UInt8) (c : UInt8) (r : List UInt8) (h : dropsTo A (c :: r)) (hc : c ≠ 48 ∨ r = []) :
    (decide (15 < (c :: r).length) = decide (15 < (Lib.trimLeftB A 48).length)) ∧ valD (c :: r) = valD (Lib.trimLeftB A 48) := by
  obtain ⟨_, h2, h3, h4⟩ := h
  refine ⟨?_, by rw [← h3, valD_zeros]⟩
  rw [← h3]
  by_cases h48 : c = 48
  · rcases hc with hc | rfl
    · exact absurd h48 hc
    · subst h48; rfl
  · have : Lib.trimLeftB (c :: r) 48 = c :: r := by simp [Lib.trimLeftB, h48]
    rw [this]

/-! ### The nanoseconds -/
def dOf (p : List UInt8) (k : Nat) : Int := match p[k]? with | some c => (c.toNat : Int) - 48 | none => 0
def nanoK (p : List UInt8) : Nat → Int
  | 0 => 0
  | k + 1 => if k < 9 then nanoK p k * 10 + dOf p k else nanoK p k
def restK (p : List UInt8) : Nat → Bool
  | 0 => false
  | k + 1 => if k < 9 then restK p k else restK p k || decide (0 < dOf p k)
theorem dOf_some (p : List UInt8) (k : Nat) (c : UInt8) (h : p[k]? = some c) : dOf p k = (c.toNat : Int) - 48 := by simp [dOf, h]
theorem dOf_none (p : List UInt8) (k : Nat) (h : p.length ≤ k) : dOf p k = 0 := by simp [dOf, List.getElem?_eq_none h]
theorem dOf_range (p : List UInt8) (hp : p.all dig = true) (k : Nat) : 0 ≤ dOf p k ∧ dOf p k ≤ 9 := by
  unfold dOf
  cases h : p[k]? with
  | none => simp
  | some c =>
    have := (dig_iff c).1 (List.all_eq_true.1 hp c (List.mem_of_getElem? h))
    simp only
    omega
theorem nanoK_range (p : List UInt8) (hp : p.all dig = true) : ∀ k, k ≤ 9 → 0 ≤ nanoK p k ∧ nanoK p k < ((10 ^ k : Nat) : Int)
  | 0, _ => by simp [nanoK]
  | k + 1, h => by
    obtain ⟨h1, h2⟩ := nanoK_range p hp k (by omega)
    have hd := dOf_range p hp k
    rw [nanoK, if_pos (by omega)]
    have e : ((10 ^ (k + 1) : Nat) : Int) = ((10 ^ k : Nat) : Int) * 10 := by rw [Nat.pow_succ]; push_cast; rfl
    rw [e]
    omega
theorem nanoK_take (p : List UInt8) : ∀ k, k ≤ 9 → k ≤ p.length → nanoK p k = valD (p.take k)
  | 0, _, _ => by simp [nanoK, valD]
  | k + 1, h1, h2 => by
    obtain ⟨c, hc⟩ : ∃ c, p[k]? = some c := ⟨_, List.getElem?_eq_getElem (by omega)⟩
    rw [nanoK, if_pos (by omega), nanoK_take p k (by omega) (by omega), valD_take p k c hc, dOf_some p k c hc]
    omega
theorem nanoK_pad (p : List UInt8) (h9 : p.length ≤ 9) : ∀ j, p.length + j ≤ 9 → nanoK p (p.length + j) = valD p * ((10 ^ j : Nat) : Int)
  | 0, _ => by rw [Nat.add_zero, nanoK_take p _ h9 (Nat.le_refl _), List.take_length]; simp
  | j + 1, h => by
    rw [← Nat.add_assoc, nanoK, if_pos (by omega), nanoK_pad p h9 j (by omega), dOf_none p _ (by omega), Int.add_zero, Nat.pow_succ]
    push_cast
    rw [Int.mul_assoc]
theorem nanoK_rest (p : List UInt8) : ∀ j, nanoK p (9 + j) = nanoK p 9
  | 0 => rfl
  | j + 1 => by rw [← Nat.add_assoc, nanoK, if_neg (by omega), nanoK_rest p j]
theorem nano_end (p : List UInt8) (K : Nat) (h : 9 ≤ K) : nanoK p K = nanoD p := by
  obtain ⟨j, rfl⟩ : ∃ j, K = 9 + j := ⟨K - 9, by omega⟩
  rw [nanoK_rest]
  unfold nanoD
  by_cases h9 : p.length ≤ 9
  · have := nanoK_pad p h9 (9 - p.length) (by omega)
    rw [show p.length + (9 - p.length) = 9 by omega] at this
    rw [this, List.take_of_length_le h9]
  · rw [nanoK_take p 9 (by omega) (by omega), show 9 - p.length = 0 by omega]
    simp
theorem rest_any (p : List UInt8) : ∀ j, restK p (9 + j) = ((p.drop 9).take j).any (fun c => decide (48 < c.toNat))
  | 0 => by simp [restK]
  | j + 1 => by
    rw [← Nat.add_assoc, restK, if_neg (by omega), rest_any p j, List.take_add_one, List.any_append, List.getElem?_drop]
    congr 1
    cases h : p[9 + j]? with
    | none => simp [dOf, h]
    | some c =>
      rw [dOf_some p _ c h]
      simp
      omega
theorem rest_end (p : List UInt8) (hp : p.all dig = true) (K : Nat) (h9 : 9 ≤ K) (hK : p.length ≤ K) : restK p K = moreD p := by
  obtain ⟨j, rfl⟩ : ∃ j, K = 9 + j := ⟨K - 9, by omega⟩
  rw [rest_any, List.take_of_length_le (by rw [List.length_drop]; omega)]
  unfold moreD
  have hq : (p.drop 9).all dig = true := List.all_eq_true.2 fun c hc => List.all_eq_true.1 hp c (List.mem_of_mem_drop hc)
  generalize p.drop 9 = q at hq
  have key : (q.any fun c => decide (48 < c.toNat)) = !(q.all (· == 48)) := by
    induction q with
    | nil => rfl
    | cons c q ih =>
      simp only [List.all_cons, Bool.and_eq_true] at hq
      rw [List.any_cons, List.all_cons, ih hq.2, Bool.not_and]
      congr 1
      have hc := (dig_iff c).1 hq.1
      by_cases h48 : c = 48
      · subst h48; decide
      · have : c.toNat ≠ 48 := fun h => h48 (UInt8.toNat_inj.1 h)
        rw [show (c == 48) = false by simpa using h48]
        exact decide_eq_true (by omega)
  rw [key]
  congr 1
  have h := drop_nil (p := (· == 48)) q
  unfold Lib.trimLeftB
  rw [Bool.eq_iff_iff, decide_eq_true_iff, h]
end Go.Proofs.YtncdmineepagpaaDoor
