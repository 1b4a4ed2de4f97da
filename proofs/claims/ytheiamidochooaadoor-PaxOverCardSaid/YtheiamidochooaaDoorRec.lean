/- One record: pax.ahead, pax.Record and the reference's Record. -/
import Derived.Test.YtheiamidochooaaDoorPr
import Derived.Test.YtheiamidochooaaDoorPow
namespace Go.Proofs.YtheiamidochooaaDoor
open Go.RowKit Go.Joins

theorem itoa_mk (n : Int) (h0 : -9223372036854775808 ≤ n) (h1 : n ≤ 9223372036854775807) (w : World) (hp : PowLaid w) :
    Calls Tryd.prog 44 #[.int .i64 n] w fun e w' => e = .returned (.string (mkS (Lib.itoa n))) ∧ Below w.heap.size w w' :=
  (Tryd.strconv_Itoa n h0 h1 w hp).mono fun e w' ⟨he, k, os, hw⟩ => ⟨he, hw ▸ ⟨rfl, rfl, rfl, by simp [Sort.grow], fun k hk => by simp [Sort.grow, World.drewN, Array.getElem?_append, hk]⟩⟩
theorem itoa_dec (n : Nat) (h : n ≤ 1000000) (w : World) (hp : PowLaid w) :
    Calls Tryd.prog 44 #[.int .i64 (n : Int)] w fun e w' => e = .returned (.string (mkS (Lib.decDigits n))) ∧ Below w.heap.size w w' := by
  have h := itoa_mk (n : Int) (by omega) (by omega) w hp
  rwa [itoa_nat _ (by omega), Int.toNat_natCast] at h

theorem dec_len1 (n : Nat) (h : n < 10) : (Lib.decDigits n).length = 1 := by rw [dec_small n h]; rfl
theorem dec_len2 (n : Nat) (h0 : 10 ≤ n) (h : n < 100) : (Lib.decDigits n).length = 2 := by
  rw [dec_step n (by omega), List.length_append, dec_len1 _ (by omega)]; rfl
theorem dec_len3 (n : Nat) (h0 : 100 ≤ n) (h : n < 1000) : (Lib.decDigits n).length = 3 := by
  rw [dec_step n (by omega), List.length_append, dec_len2 _ (by omega) (by omega)]; rfl
/-- The length of a record whose rest behind the digits is r bytes. -/
def lenOf (r : Nat) : Nat := if r ≤ 8 then r + 1 else if r ≤ 97 then r + 2 else r + 3
theorem lenOf_fits (r : Nat) (h : r ≤ 900) : (Lib.decDigits (lenOf r)).length + r = lenOf r := by
  unfold lenOf
  split
  · rw [dec_len1 _ (by omega)]; omega
  · split
    · rw [dec_len2 _ (by omega) (by omega)]; omega
    · rw [dec_len3 _ (by omega) (by omega)]; omega
theorem lenOf_least (r n : Nat) (h : r ≤ 900) (h1 : n < lenOf r) : (Lib.decDigits n).length + r ≠ n := by
  unfold lenOf at h1
  by_cases h10 : n < 10
  · rw [dec_len1 n h10]; split at h1 <;> (try split at h1) <;> omega
  · by_cases h100 : n < 100
    · rw [dec_len2 n (by omega) h100]; split at h1 <;> (try split at h1) <;> omega
    · rw [dec_len3 n (by omega) (by split at h1 <;> (try split at h1) <;> omega)]; split at h1 <;> (try split at h1) <;> omega
theorem lenOf_bound (r : Nat) : lenOf r ≤ r + 3 ∧ r < lenOf r := by unfold lenOf; split <;> (try split) <;> omega

/-- A record's bytes. -/
def restL (k v : List UInt8) : List UInt8 := 32 :: (k ++ 61 :: (v ++ [10]))
theorem restL_length (k v : List UInt8) : (restL k v).length = k.length + v.length + 3 := by simp [restL]; omega
def recL (k v : List UInt8) : List UInt8 := Lib.decDigits (lenOf (k.length + v.length + 3)) ++ restL k v
theorem recL_length (k v : List UInt8) (h : k.length + v.length ≤ 200) : (recL k v).length = lenOf (k.length + v.length + 3) := by
  unfold recL
  rw [List.length_append, restL_length]
  exact lenOf_fits _ (by omega)

set_option maxHeartbeats 1000000 in
theorem ahead_any (r : Nat) (hr : r ≤ 900) (w : World) (hp : PowLaid w) :
    Calls Tryd.prog 45 #[.int .i64 (r : Int)] w fun e w' => e = .returned (.string (mkS (Lib.decDigits (lenOf r)))) ∧ Below w.heap.size w w' := by
  have I1 : ∀ w, PowLaid w → Calls Tryd.prog 44 #[.int .i64 ((r : Int) + 1)] w fun e w' => e = .returned (.string (mkS (Lib.decDigits (r + 1)))) ∧ Below w.heap.size w w' := fun w hp => itoa_dec (r + 1) (by omega) w hp
  have I2 : ∀ w, PowLaid w → Calls Tryd.prog 44 #[.int .i64 ((r : Int) + 2)] w fun e w' => e = .returned (.string (mkS (Lib.decDigits (r + 2)))) ∧ Below w.heap.size w w' := fun w hp => itoa_dec (r + 2) (by omega) w hp
  have I3 : ∀ w, PowLaid w → Calls Tryd.prog 44 #[.int .i64 ((r : Int) + 3)] w fun e w' => e = .returned (.string (mkS (Lib.decDigits (r + 3)))) ∧ Below w.heap.size w w' := fun w hp => itoa_dec (r + 3) (by omega) w hp
  have HP := Lib.hid (show ∀ w1, Below w.heap.size w w1 → PowLaid w1 from fun w1 h => hp.below h)
  have H1 := Lib.hid I1
  have H2 := Lib.hid I2
  have H3 := Lib.hid I3
  clear I1 I2 I3 hp
  unfold lenOf
  by_cases h8 : r ≤ 8
  · rw [if_pos h8]
    have s1 := mkS_size (Lib.decDigits (r + 1))
    rw [dec_len1 _ (by omega)] at s1
    generalize Lib.decDigits (r + 1) = D1 at *
    go_enter Tryd.func45, Tryd.ntmps45
    go_wp2
    refine wp_loop_rounds 1 ?_
    rw [rounds_succ]
    go_wp2_with (go_at_call 44; with_reducible refine (H1.out _ (HP.out _ (Below.refl _ _))).mono ?_; rintro e w1 ⟨rfl, hb1⟩)
    go_ret
    exact ⟨rfl, hb1⟩
  · rw [if_neg h8]
    have s1 := mkS_size (Lib.decDigits (r + 1))
    have s2 := mkS_size (Lib.decDigits (r + 2))
    have s3 := mkS_size (Lib.decDigits (r + 3))
    by_cases h97 : r ≤ 97
    · rw [if_pos h97]
      have t1 : (Lib.decDigits (r + 1)).length ≠ 1 := by
        by_cases h : r + 1 < 100
        · rw [dec_len2 _ (by omega) h]; omega
        · rw [dec_len3 _ (by omega) (by omega)]; omega
      have t2 : ¬ ((Lib.decDigits (r + 1)).length : Int) = 1 := by omega
      rw [dec_len2 (r + 2) (by omega) (by omega)] at s2
      clear t1 s3 H3
      generalize Lib.decDigits (r + 1) = D1 at *
      generalize Lib.decDigits (r + 2) = D2 at *
      go_enter Tryd.func45, Tryd.ntmps45
      go_wp2
      refine wp_loop_rounds 2 ?_
      rw [rounds_succ]
      go_wp2_with (go_at_call 44; with_reducible refine (H1.out _ (HP.out _ (Below.refl _ _))).mono ?_; rintro e w1 ⟨rfl, hb1⟩)
      rw [rounds_succ]
      go_wp2_with (go_at_call 44; with_reducible refine (H2.out _ (HP.out _ hb1)).mono ?_; rintro e w2 ⟨rfl, hb2⟩)
      go_ret
      exact ⟨rfl, hb1.trans (hb2.mono hb1.size)⟩
    · rw [if_neg h97]
      have t1 : (Lib.decDigits (r + 1)).length ≠ 1 := by
        by_cases h : r + 1 < 100
        · rw [dec_len2 _ (by omega) h]; omega
        · rw [dec_len3 _ (by omega) (by omega)]; omega
      have t2 : ¬ ((Lib.decDigits (r + 1)).length : Int) = 1 := by omega
      clear t1
      rw [dec_len3 (r + 2) (by omega) (by omega)] at s2
      rw [dec_len3 (r + 3) (by omega) (by omega)] at s3
      generalize Lib.decDigits (r + 1) = D1 at *
      generalize Lib.decDigits (r + 2) = D2 at *
      generalize Lib.decDigits (r + 3) = D3 at *
      go_enter Tryd.func45, Tryd.ntmps45
      go_wp2
      refine wp_loop_rounds 3 ?_
      rw [rounds_succ]
      go_wp2_with (go_at_call 44; with_reducible refine (H1.out _ (HP.out _ (Below.refl _ _))).mono ?_; rintro e w1 ⟨rfl, hb1⟩)
      rw [rounds_succ]
      go_wp2_with (go_at_call 44; with_reducible refine (H2.out _ (HP.out _ hb1)).mono ?_; rintro e w2 ⟨rfl, hb2⟩)
      have hb12 := hb1.trans (hb2.mono hb1.size)
      rw [rounds_succ]
      go_wp2_with (go_at_call 44; with_reducible refine (H3.out _ (HP.out _ hb12)).mono ?_; rintro e w3 ⟨rfl, hb3⟩)
      go_ret
      exact ⟨rfl, hb12.trans (hb3.mono hb12.size)⟩

theorem record_bad (k v : List UInt8) (hk : k.length ≤ 100000) (hv : v.length ≤ 100000) (h : rightP k v = false) (w : World) :
    Calls Tryd.prog 16 #[prV k v] w fun e w' => e = .returned (.tuple #[.string (mkS []), .iface 23 (.int .i64 1)]) ∧ Below w.heap.size w w' := by
  have R := Lib.hid (fun w => right_any k v hk hv w)
  rw [h] at R
  clear h
  have hb0 := below_alloc1 w (.cells #[.string (mkS k), .string (mkS v)] 36)
  go_enter Tryd.func16, Tryd.ntmps16
  go_wp2_with (go_at_call 41; with_reducible refine (R.out _).mono ?_; rintro e w1 ⟨rfl, hb1⟩)
  go_ret2
  exact ⟨rfl, hb0.trans (hb1.mono hb0.size)⟩

set_option maxHeartbeats 1000000 in
theorem record_ok (k v : List UInt8) (h : rightP k v = true) (w : World) (hp : PowLaid w) :
    Calls Tryd.prog 16 #[prV k v] w fun e w' => e = .returned (.tuple #[.string (mkS (recL k v)), .nilIface]) ∧ Below w.heap.size w w' := by
  obtain ⟨_, _, hl⟩ := rightP_true k v h
  have R := Lib.hid (fun w => right_any k v (by omega) (by omega) w)
  rw [h] at R
  have hb0 := below_alloc1 w (.cells #[.string (mkS k), .string (mkS v)] 36)
  have hz : w.heap.size < (w.alloc (.cells #[.string (mkS k), .string (mkS v)] 36)).heap.size := by simp
  have hc1 : (w.alloc (.cells #[.string (mkS k), .string (mkS v)] 36)).cell? ⟨w.heap.size, 0, none⟩ = some (.string (mkS k)) := by simp
  have hc2 : (w.alloc (.cells #[.string (mkS k), .string (mkS v)] 36)).cell? ⟨w.heap.size, 1, none⟩ = some (.string (mkS v)) := by simp
  have Z := Lib.hid (show ∀ w', Below (w.alloc (.cells #[.string (mkS k), .string (mkS v)] 36)).heap.size (w.alloc (.cells #[.string (mkS k), .string (mkS v)] 36)) w' → w'.cell? ⟨w.heap.size, 0, none⟩ = some (.string (mkS k)) ∧ w'.cell? ⟨w.heap.size, 1, none⟩ = some (.string (mkS v)) ∧ Below w.heap.size w w' from fun w' h => ⟨(h.cell (p := ⟨w.heap.size, 0, none⟩) hz).trans hc1, (h.cell (p := ⟨w.heap.size, 1, none⟩) hz).trans hc2, hb0.trans (h.mono hb0.size)⟩)
  have HA := Lib.hid (show ∀ w1, Below w.heap.size w w1 → Calls Tryd.prog 45 #[.int .i64 ((k.length + v.length + 3 : Nat) : Int)] w1 fun e w' => e = .returned (.string (mkS (Lib.decDigits (lenOf (k.length + v.length + 3))))) ∧ Below w1.heap.size w1 w' from fun w1 h1 => ahead_any _ (by omega) w1 (hp.below h1))
  have x1 : ∀ w, (Op.stringOp .add { data := #[32] } (mkS k)).run Tryd.prog w = .ok (.string (mkS (32 :: k))) w := fun w => mkS_cat [32] k (by simp; omega) w
  have x2 : ∀ w, (Op.stringOp .add (mkS (32 :: k)) { data := #[61] }).run Tryd.prog w = .ok (.string (mkS (32 :: k ++ [61]))) w := fun w => mkS_cat (32 :: k) [61] (by simp; omega) w
  have x3 : ∀ w, (Op.stringOp .add (mkS (32 :: k ++ [61])) (mkS v)).run Tryd.prog w = .ok (.string (mkS (32 :: k ++ [61] ++ v))) w := fun w => mkS_cat (32 :: k ++ [61]) v (by simp; omega) w
  have x4 : ∀ w, (Op.stringOp .add (mkS (32 :: k ++ [61] ++ v)) { data := #[10] }).run Tryd.prog w = .ok (.string (mkS (restL k v))) w := fun w => by
    have h := mkS_cat (32 :: k ++ [61] ++ v) [10] (by simp; omega) w
    rwa [show 32 :: k ++ [61] ++ v ++ [10] = restL k v by simp [restL]] at h
  have x5 : ∀ w, (Op.stringOp .add (mkS (Lib.decDigits (lenOf (k.length + v.length + 3)))) (mkS (restL k v))).run Tryd.prog w = .ok (.string (mkS (recL k v))) w := fun w => mkS_cat _ _ (by
    have h1 := lenOf_fits (k.length + v.length + 3) (by omega)
    have h2 := lenOf_bound (k.length + v.length + 3)
    rw [restL_length]; omega) w
  have sz : ((mkS (restL k v)).size : Int) = ((k.length + v.length + 3 : Nat) : Int) := by rw [mkS_size, restL_length]
  clear hc1 hc2 hz h hp
  generalize k.length + v.length + 3 = r at *
  generalize recL k v = T at *
  generalize restL k v = B at *
  generalize Lib.decDigits (lenOf r) = D at *
  generalize 32 :: k ++ [61] ++ v = X3 at *
  generalize 32 :: k ++ [61] = X2 at *
  generalize 32 :: k = X1 at *
  clear hl
  go_enter Tryd.func16, Tryd.ntmps16
  go_wp2_with (first
    | (go_at_call 41; with_reducible refine (R.out _).mono ?_; rintro e w1 ⟨rfl, hb1⟩; obtain ⟨z1, z2, z3⟩ := Z.out _ hb1)
    | (go_at_call 45; with_reducible refine (HA.out _ z3).mono ?_; rintro e w2 ⟨rfl, hb2⟩))
  go_ret2
  exact ⟨rfl, z3.trans (hb2.mono z3.size)⟩
end Go.Proofs.YtheiamidochooaaDoor
