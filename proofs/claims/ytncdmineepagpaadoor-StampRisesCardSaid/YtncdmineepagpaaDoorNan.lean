/- strings.Cut at a point; nanoseconds; negate: what each returns. -/
import Derived.Test.YtncdmineepagpaaDoorDig
namespace Go.Proofs.YtncdmineepagpaaDoor
open Go.RowKit Go.Joins

def wholeOf (u : List UInt8) : List UInt8 := u.takeWhile (· != 46)
def fracOf (u : List UInt8) : List UInt8 := (u.dropWhile (· != 46)).drop 1
def pointOf (u : List UInt8) : Bool := u.contains 46

theorem index_no : ∀ (u : List UInt8), u.contains 46 = false → Lib.indexByte u 46 = -1
  | [], _ => rfl
  | b :: u, h => by
    rw [List.contains_cons, Bool.or_eq_false_iff] at h
    have hb : (b == 46) = false := by rw [Bool.beq_comm]; exact h.1
    rw [Lib.indexByte, hb, index_no u h.2]; rfl
theorem index_yes : ∀ (u : List UInt8), u.contains 46 = true → Lib.indexByte u 46 = ((wholeOf u).length : Int) ∧ u = wholeOf u ++ 46 :: fracOf u
  | [], h => by cases h
  | b :: u, h => by
    by_cases hb : b = 46
    · subst hb
      exact ⟨rfl, rfl⟩
    · have hb' : (b == 46) = false := by simpa using hb
      rw [List.contains_cons, show (46 == b) = false by rw [Bool.beq_comm]; exact hb', Bool.false_or] at h
      obtain ⟨i1, i2⟩ := index_yes u h
      have e1 : wholeOf (b :: u) = b :: wholeOf u := by simp [wholeOf, hb]
      have e2 : fracOf (b :: u) = fracOf u := by simp [fracOf, hb]
      rw [e1, e2, Lib.indexByte, hb', i1]
      refine ⟨?_, by rw [List.cons_append, ← i2]⟩
      rw [if_neg (by simp), if_neg (by simp)]
      rfl
theorem whole_no : ∀ (u : List UInt8), u.contains 46 = false → wholeOf u = u ∧ fracOf u = []
  | [], _ => ⟨rfl, rfl⟩
  | b :: u, h => by
    rw [List.contains_cons, Bool.or_eq_false_iff] at h
    have hb : ¬ b = 46 := by intro e; subst e; simp at h
    obtain ⟨i1, i2⟩ := whole_no u h.2
    exact ⟨by simp [wholeOf, hb]; exact i1, by simp [fracOf, hb]; simpa [fracOf] using i2⟩

theorem indexLite (u : List UInt8) (w : World) :
    Calls Tryd.prog 79 #[.string (mkS u), .string { data := #[46] }] w fun e w' => e = .returned (.int .i64 (Lib.indexByte u 46)) ∧ w' = w := by
  have h := Tryd.stringslite_Index_one (mkS u) 46 w
  rwa [mkS_list] at h

theorem cutLite (u : List UInt8) (w : World) (hl : u.length ≤ 1000) :
    Calls Tryd.prog 61 #[.string (mkS u), .string { data := #[46] }] w fun e w' => e = .returned (.tuple #[.string (mkS (wholeOf u)), .string (mkS (fracOf u)), .bool (pointOf u)]) ∧ ∃ n, w' = w.drewN n := by
  have hI := Lib.hid (fun w => indexLite u w)
  cases hp : u.contains 46
  · rw [index_no u hp] at hI
    obtain ⟨e1, e2⟩ := whole_no u hp
    have e3 : pointOf u = false := hp
    rw [e1, e2, e3]
    clear e1 e2 e3 hp
    go_enter Tryd.func61, Tryd.ntmps61
    go_wp2_with (go_at_call 79; refine (hI.out _).mono ?_; rintro e w' ⟨rfl, hw⟩; replace hw := hw.symm; subst hw)
    refine bodyPost_ret (results_tmp3 rfl _ _ _) rfl ?_
    exact ⟨rfl, 0, rfl⟩
  · obtain ⟨i1, i2⟩ := index_yes u hp
    rw [i1] at hI
    have e3 : pointOf u = true := hp
    rw [e3]
    have hlen : (wholeOf u).length + 1 + (fracOf u).length = u.length := by
      have := congrArg List.length i2
      simp at this; omega
    have t1 : u.take (wholeOf u).length = wholeOf u := by
      have := congrArg (List.take (wholeOf u).length) i2
      rwa [List.take_left'] at this; rfl
    have t2 : u.drop ((wholeOf u).length + 1) = fracOf u := by
      have := congrArg (List.drop ((wholeOf u).length + 1)) i2
      rw [this, ← List.drop_drop, List.drop_left']
      · rfl
      · rfl
    have s1 := fun w => mkS_upto u (wholeOf u).length (by omega) w
    have s2 := fun w => mkS_onward u ((wholeOf u).length + 1) (by omega) w
    rw [t1] at s1
    rw [t2] at s2
    clear i1 i2 e3 hp t1 t2
    generalize hk : (wholeOf u).length = k at *
    generalize wholeOf u = a at *
    generalize fracOf u = b at *
    have hk1 : k + 1 ≤ 1000 := by omega
    simp only [Int.natCast_add, Int.natCast_one] at s2
    clear hk hlen hl
    go_enter Tryd.func61, Tryd.ntmps61
    go_wp2_with (go_at_call 79; refine (hI.out _).mono ?_; rintro e w' ⟨rfl, hw⟩; replace hw := hw.symm; subst hw)
    go_quiet (fail)
    go_wp2
    refine bodyPost_ret (results_tmp3 rfl _ _ _) rfl ?_
    exact ⟨rfl, nq, rfl⟩

theorem cutDot_any (u : List UInt8) (w : World) (hl : u.length ≤ 1000) :
    Calls Tryd.prog 25 #[.string (mkS u), .string { data := #[46] }] w fun e w' => e = .returned (.tuple #[.string (mkS (wholeOf u)), .string (mkS (fracOf u)), .bool (pointOf u)]) ∧ ∃ n, w' = w.drewN n := by
  have hC := Lib.hid (cutLite u w hl)
  go_enter Tryd.func25, Tryd.ntmps25
  go_wp2_with (go_at_call 61; refine hC.out.mono ?_; rintro e w' ⟨rfl, n, rfl⟩)
  refine bodyPost_ret (results_tmp3 rfl _ _ _) rfl ?_
  exact ⟨rfl, n, rfl⟩

theorem cutPrefix_any (l : List UInt8) (w : World) :
    Calls Tryd.prog 36 #[.string (mkS l), .string { data := #[45] }] w fun e w' => e = .returned (.tuple #[.string (mkS (Lib.trimPrefix l [45])), .bool (Lib.hasPrefix l [45])]) ∧ w' = w := by
  have h := Tryd.strings_CutPrefix (mkS l) (mkS [45]) w
  rwa [mkS_list, mkS_list] at h

/-- Nanoseconds of a fraction's digits, and whether there is more. -/
def nanoD (b : List UInt8) : Int := valD (b.take 9) * ((10 ^ (9 - b.length) : Nat) : Int)
def moreD (b : List UInt8) : Bool := !decide (Lib.trimLeftB (b.drop 9) 48 = [])

theorem nano_step (V : Int) (m k : Nat) (h0 : 0 ≤ V) (h1 : V < ((10 ^ m : Nat) : Int)) (hk : k + m ≤ 9) : 0 ≤ V * ((10 ^ k : Nat) : Int) ∧ V * ((10 ^ k : Nat) : Int) < 1000000000 := by
  have hp : (0 : Int) < ((10 ^ k : Nat) : Int) := by exact_mod_cast Nat.pow_pos (by decide)
  refine ⟨Int.mul_nonneg h0 (by omega), ?_⟩
  have h2 : V * ((10 ^ k : Nat) : Int) < ((10 ^ m : Nat) : Int) * ((10 ^ k : Nat) : Int) := Int.mul_lt_mul_of_pos_right h1 hp
  have h3 : ((10 ^ m : Nat) : Int) * ((10 ^ k : Nat) : Int) = ((10 ^ (m + k) : Nat) : Int) := by rw [Nat.pow_add]; push_cast; rfl
  have h4 := pow10_le (show m + k ≤ 9 by omega)
  have h5 : (10 : Nat) ^ 9 = 1000000000 := by decide
  omega

theorem nanoD_range (b : List UInt8) (ha : b.all dig = true) : 0 ≤ nanoD b ∧ nanoD b < 1000000000 := by
  have h2 : (b.take 9).all dig = true := List.all_eq_true.2 fun c hc => (List.all_eq_true.1 ha) c (List.mem_of_mem_take hc)
  obtain ⟨v1, v2⟩ := valD_lt _ (b.take 9) rfl h2
  exact nano_step _ _ _ v1 v2 (by rw [List.length_take]; omega)

set_option maxHeartbeats 1000000 in
theorem nanoseconds_any (b : List UInt8) (w : World) (hl : b.length ≤ 1000) (ha : b.all dig = true) :
    Calls Tryd.prog 40 #[.string (mkS b)] w fun e w' => e = .returned (.tuple #[.int .i64 (nanoD b), .bool (moreD b)]) ∧ w' = w := by
  have hsz := mkS_size b
  have h2 : (b.take 9).all dig = true := List.all_eq_true.2 fun c hc => (List.all_eq_true.1 ha) c (List.mem_of_mem_take hc)
  obtain ⟨v1, v2⟩ := valD_lt _ (b.take 9) rfl h2
  have hv := fun w => value_any (b.take 9) w (by rw [List.length_take]; omega) h2
  have ht := fun w => trimLeft0 (b.drop 9) w
  have he := mkS_emp_any (Lib.trimLeftB (b.drop 9) 48)
  have hmore : moreD b = !decide (Lib.trimLeftB (b.drop 9) 48 = []) := rfl
  rw [hmore]
  have hstep : ∀ k : Nat, k ≤ 9 - b.length → 0 ≤ valD (b.take 9) * ((10 ^ k : Nat) : Int) ∧ valD (b.take 9) * ((10 ^ k : Nat) : Int) < 1000000000 := fun k hk => nano_step _ _ k v1 v2 (by rw [List.length_take]; omega)
  have hnext : ∀ k : Nat, valD (b.take 9) * ((10 ^ k : Nat) : Int) * 10 = valD (b.take 9) * ((10 ^ (k + 1) : Nat) : Int) := fun k => by rw [Nat.pow_succ]; push_cast; rw [Int.mul_assoc]
  have hnano : nanoD b = valD (b.take 9) * ((10 ^ (9 - b.length) : Nat) : Int) := rfl
  have s1 : ∀ w, (Instr.slice 9 (.string (mkS b)) none (some (.int .i64 (min (b.length : Int) 9))) none).run Tryd.prog w = .ok (.string (mkS (b.take 9))) w := fun w => by
    have h := mkS_upto b (min b.length 9) (by omega) w
    rwa [show ((min b.length 9 : Nat) : Int) = min (b.length : Int) 9 by omega, show b.take (min b.length 9) = b.take 9 by rcases Nat.le_total b.length 9 with h | h; rw [Nat.min_eq_left h, List.take_length, List.take_of_length_le h]; rw [Nat.min_eq_right h]] at h
  have s2 : ∀ w, (Instr.slice 9 (.string (mkS b)) (some (.int .i64 (min (b.length : Int) 9))) none none).run Tryd.prog w = .ok (.string (mkS (b.drop 9))) w := fun w => by
    have h := mkS_onward b (min b.length 9) (by omega) w
    rwa [show ((min b.length 9 : Nat) : Int) = min (b.length : Int) 9 by omega, show b.drop (min b.length 9) = b.drop 9 by rcases Nat.le_total b.length 9 with h | h; rw [Nat.min_eq_left h, List.drop_length, List.drop_eq_nil_of_le h]; rw [Nat.min_eq_right h]] at h
  rw [hnano]
  clear hmore hnano v1 v2 h2 ha
  generalize Lib.trimLeftB (b.drop 9) 48 = T at ht he ⊢
  generalize b.drop 9 = D at ht s2
  generalize b.take 9 = H at hv s1 hstep hnext ⊢
  generalize valD H = V at hv hstep hnext ⊢
  have HV := Lib.hid hv
  have HT := Lib.hid ht
  have HS := Lib.hid hstep
  have HN := Lib.hid hnext
  clear hv ht hstep hnext
  go_enter Tryd.func40, Tryd.ntmps40
  go_wp2_with (go_at_call 39; refine (HV.out _).mono ?_; rintro e w' ⟨rfl, hw⟩; replace hw := hw.symm; subst hw)
  go_loop [5, 15] (fun n i => ∃ k : Nat, k ≤ 9 - b.length ∧ i = .int .i64 k ∧ n = .int .i64 (V * ((10 ^ k : Nat) : Int))) (fun _ i => 9 - (intOf i).toNat)
  case atStart => exact ⟨0, Nat.zero_le _, rfl, by simp⟩
  case round =>
    obtain ⟨k, hk, rfl, rfl⟩ := hrel
    by_cases hlt : k < 9 - b.length
    · have hlt' : (k : Int) < 9 - min (b.length : Int) 9 := by omega
      have hv := HS.out k hk
      have hn := HN.out k
      generalize V * ((10 ^ k : Nat) : Int) = v at hv hn ⊢
      have Hn := Lib.hid hn
      clear hn
      go_wp2
      go_round
      case rel => exact ⟨k + 1, by omega, by go_num, by rw [Hn.out]⟩
      case measure => simp [intOf]; omega
    · obtain rfl : k = 9 - b.length := by omega
      have hlt' : decide (((9 - b.length : Nat) : Int) < 9 - min (b.length : Int) 9) = false := by simp; omega
      go_wp2_with (go_at_call 38; refine (HT.out _).mono ?_; rintro e w' ⟨rfl, hw⟩; replace hw := hw.symm; subst hw)
      go_ret2
      exact ⟨rfl, rfl⟩
end Go.Proofs.YtncdmineepagpaaDoor
