/- Records one behind the other, read back: a text begins with the record of at most one pair; what is read of a text. -/
import Derived.Test.YtheiamidochooaaDoorRecs
namespace Go.Proofs.YtheiamidochooaaDoor
open Go.RowKit Go.Joins

theorem dec_inj : ∀ (a b : Nat), Lib.decDigits a = Lib.decDigits b → a = b := by
  intro a
  induction a using Nat.strongRecOn with
  | ind a ih =>
    intro b h
    by_cases ha : a < 10
    · by_cases hb : b < 10
      · rw [dec_small a ha, dec_small b hb] at h
        have := congrArg UInt8.toNat (List.cons.inj h).1
        simp only [UInt8.toNat_ofNat'] at this
        omega
      · rw [dec_small a ha, dec_step b hb] at h
        have := congrArg List.length h
        simp at this
        have := dec_pos (b / 10)
        simp_all
    · by_cases hb : b < 10
      · rw [dec_small b hb, dec_step a ha] at h
        have := congrArg List.length h
        simp at this
        have := dec_pos (a / 10)
        simp_all
      · rw [dec_step a ha, dec_step b hb] at h
        obtain ⟨h1, h2⟩ := List.append_inj' h rfl
        have h3 := ih (a / 10) (by omega) (b / 10) h1
        have h4 := congrArg UInt8.toNat (List.cons.inj h2).1
        simp only [UInt8.toNat_ofNat'] at h4
        omega
theorem dec_no (c : UInt8) (hc : c.toNat < 48 ∨ 57 < c.toNat) (n : Nat) : ∀ x ∈ Lib.decDigits n, (x != c) = true := fun x hx => by
  have := dec_range n x hx
  simp only [bne_iff_ne, ne_eq]
  rintro rfl
  omega
theorem takeWhile_stop (p : UInt8 → Bool) (c : UInt8) (hc : p c = false) : ∀ (a b : List UInt8), (∀ x ∈ a, p x = true) → (a ++ c :: b).takeWhile p = a ∧ (a ++ c :: b).dropWhile p = c :: b
  | [], b, _ => by simp [hc]
  | x :: a, b, h => by
    obtain ⟨h1, h2⟩ := takeWhile_stop p c hc a b fun y hy => h y (List.mem_cons_of_mem _ hy)
    simp [h x (List.mem_cons_self ..), h1, h2]
theorem key_no (k v : List UInt8) (h : rightP k v = true) : ∀ x ∈ k, (x != 61) = true := fun x hx => by
  have h2 := (rightP_true k v h).2.1
  rw [hasBad_eq, Bool.or_eq_false_iff] at h2
  simp only [bne_iff_ne, ne_eq]
  rintro rfl
  have := List.contains_iff_mem.2 hx
  rw [h2.1] at this
  cases this

/-- The text begins with the record of this pair. -/
def Begins (u k v : List UInt8) : Prop := rightP k v = true ∧ recL k v <+: u
/-- The text begins with some record. -/
def Nx (u : List UInt8) : Prop := ∃ k v, Begins u k v
theorem begins_head (u k v : List UInt8) (h : Begins u k v) : u.takeWhile (· != 32) = Lib.decDigits (lenOf (k.length + v.length + 3)) := by
  obtain ⟨r, hr⟩ := h.2
  rw [← hr]
  unfold recL restL
  rw [List.append_assoc, List.cons_append]
  exact (takeWhile_stop _ 32 rfl _ _ (dec_no 32 (by decide) _)).1
theorem begins_one (u k v k' v' : List UInt8) (h : Begins u k v) (h' : Begins u k' v') : k = k' ∧ v = v' := by
  have e1 := dec_inj _ _ ((begins_head u k v h).symm.trans (begins_head u k' v' h'))
  have l1 := recL_length k v (rightP_true k v h.1).2.2
  have l2 := recL_length k' v' (rightP_true k' v' h'.1).2.2
  have e2 : recL k v = recL k' v' := (List.prefix_of_prefix_length_le h.2 h'.2 (by omega)).eq_of_length (by omega)
  unfold recL at e2
  rw [e1] at e2
  have e3 := List.append_cancel_left e2
  unfold restL at e3
  have e4 := (List.cons.inj e3).2
  have t1 := takeWhile_stop (· != 61) 61 rfl k (v ++ [10]) (key_no k v h.1)
  have t2 := takeWhile_stop (· != 61) 61 rfl k' (v' ++ [10]) (key_no k' v' h'.1)
  rw [e4] at t1
  have hk : k = k' := t1.1.symm.trans t2.1
  have e5 := t1.2.symm.trans t2.2
  exact ⟨hk, List.append_cancel_right (List.cons.inj e5).2⟩
theorem recL_pos (k v : List UInt8) : 1 ≤ (recL k v).length := by
  unfold recL; rw [List.length_append, restL_length]; omega

/-- What is read of a text: these records, and behind them nothing (bad = false) or no record (bad = true). -/
def ReadIs (s : List UInt8) (M : List (List UInt8 × List UInt8)) (bad : Bool) : Prop :=
  (∀ p ∈ M, rightP p.1 p.2 = true) ∧ recsL M <+: s ∧ (bad = false → recsL M = s) ∧ (bad = true → (recsL M).length < s.length ∧ ¬ Nx (s.drop (recsL M).length))
theorem recsL_cons (p : List UInt8 × List UInt8) (M : List (List UInt8 × List UInt8)) : recsL (p :: M) = recL p.1 p.2 ++ recsL M := by
  unfold recsL; rw [List.flatMap_cons]
theorem read_is : ∀ (n : Nat) (s : List UInt8), s.length ≤ n → ∃ M bad, ReadIs s M bad := by
  intro n
  induction n with
  | zero =>
    intro s hs
    obtain rfl : s = [] := List.length_eq_zero_iff.1 (by omega)
    exact ⟨[], false, fun p hp => by simp at hp, List.prefix_refl _, fun _ => rfl, fun h => by cases h⟩
  | succ n ih =>
    intro s hs
    by_cases hN : Nx s
    · obtain ⟨k, v, hr, r, rfl⟩ := hN
      have hp := recL_pos k v
      obtain ⟨M, bad, h1, h2, h3, h4⟩ := ih r (by rw [List.length_append] at hs; omega)
      refine ⟨(k, v) :: M, bad, fun p hp => ?_, ?_, fun hb => ?_, fun hb => ?_⟩
      · rcases List.mem_cons.1 hp with rfl | hp
        · exact hr
        · exact h1 p hp
      · rw [recsL_cons]; exact (List.prefix_append_right_inj _).2 h2
      · rw [recsL_cons, h3 hb]
      · obtain ⟨h5, h6⟩ := h4 hb
        rw [recsL_cons, List.length_append, List.length_append]
        refine ⟨by show (recL k v).length + _ < _; omega, ?_⟩
        show ¬ Nx (((recL k v) ++ r).drop ((recL k v).length + (recsL M).length))
        rw [← List.drop_drop, List.drop_left]
        exact h6
    · cases s with
      | nil => exact ⟨[], false, fun p hp => by simp at hp, List.prefix_refl _, fun _ => rfl, fun h => by cases h⟩
      | cons c s => exact ⟨[], true, fun p hp => by simp at hp, List.nil_prefix, fun h => by (cases h), fun _ => ⟨by simp [recsL], by simpa [recsL] using hN⟩⟩

/-- Where the i-th record begins. -/
def offL (M : List (List UInt8 × List UInt8)) (i : Nat) : Nat := (recsL (M.take i)).length
theorem offL_succ (M : List (List UInt8 × List UInt8)) (i : Nat) (p : List UInt8 × List UInt8) (h : M[i]? = some p) : offL M (i + 1) = offL M i + (recL p.1 p.2).length := by
  unfold offL; rw [recsL_take M i p h, List.length_append]
theorem read_at (s : List UInt8) (M : List (List UInt8 × List UInt8)) (bad : Bool) (h : ReadIs s M bad) (i : Nat) (p : List UInt8 × List UInt8) (hp : M[i]? = some p) : Begins (s.drop (offL M i)) p.1 p.2 ∧ offL M i < s.length := by
  obtain ⟨h1, h2, _⟩ := h
  have hM : M = M.take i ++ p :: M.drop (i + 1) := by
    obtain ⟨hi, hpe⟩ := List.getElem?_eq_some_iff.1 hp
    rw [← hpe, ← List.drop_eq_getElem_cons hi, List.take_append_drop]
  have hR : recsL M = recsL (M.take i) ++ (recL p.1 p.2 ++ recsL (M.drop (i + 1))) := by
    rw [← recsL_cons]
    conv => lhs; rw [hM]
    unfold recsL; rw [List.flatMap_append]
  obtain ⟨r, hr⟩ := h2
  rw [hR] at hr
  have hpos := recL_pos p.1 p.2
  refine ⟨⟨h1 p (List.mem_of_getElem? hp), ⟨recsL (M.drop (i + 1)) ++ r, ?_⟩⟩, ?_⟩
  · unfold offL
    rw [← hr, List.append_assoc, List.drop_left, List.append_assoc]
  · unfold offL
    rw [← hr]
    simp only [List.length_append]
    omega
theorem offL_all (M : List (List UInt8 × List UInt8)) : offL M M.length = (recsL M).length := by unfold offL; rw [List.take_length]
theorem offL_zero (M : List (List UInt8 × List UInt8)) : offL M 0 = 0 := rfl
end Go.Proofs.YtheiamidochooaaDoor
