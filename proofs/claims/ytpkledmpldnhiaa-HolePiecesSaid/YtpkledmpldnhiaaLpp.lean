/- The law HolePieces: its walk. -/
import Derived.Test.YtpkledmpldnhiaaHol
import Derived.Test.YtpkledmpldnhiaaPik
import Derived.ChangeMaps
import Derived.SizedLaws
namespace Go.Proofs.Ytpkledmpldnhiaa
open Go.RowKit Go.Joins
set_option linter.unusedVariables false

theorem fits_of_right {n : Int} (hn : n ≤ 9223372036854775807) : ∀ (l : List Pc) (e : Int), -1 ≤ e → rightF n e l = true → Fits l
  | [], e, _, _ => fun p hp => by cases hp
  | q :: l, e, he, h => fun p hp => by
    rw [rightF_cons] at h
    rcases List.mem_cons.1 hp with rfl | hp
    · exact ⟨⟨by omega, by omega⟩, ⟨by omega, by omega⟩⟩
    · exact fits_of_right hn l _ (by omega) h.2.2.2 p hp
/-- Find hands back two things, whatever they are. -/
theorem find_gen (s : List UInt8) (k : Nat) (hs : s.length ≤ 1000) (hk : 0 < k) (hk2 : k ≤ 9223372036854775807) (w : World) :
    Calls Try.prog 16 #[.string (mkS s), .int .i64 k] w fun e w' => (∃ v u, e = .returned (.tuple #[v, u])) ∧ Below w.heap.size w w' :=
  (find_any s k hs hk hk2 w).mono fun e w' ⟨h, hb⟩ => ⟨by
    rcases h with ⟨_, ad, cap, h, _⟩ | ⟨_, h⟩
    · exact ⟨_, _, h⟩
    · exact ⟨_, _, h⟩, hb⟩
theorem find_over (s : List UInt8) (k : Nat) (hs : s.length ≤ 1000) (hk : 0 < k) (hk2 : k ≤ 9223372036854775807) (h20 : 20 < (findF s k).length) (w : World) :
    Calls Try.prog 16 #[.string (mkS s), .int .i64 k] w fun e w' => e = .returned (.tuple #[.slice none 0 0, .iface 41 (.int .i64 4)]) ∧ Below w.heap.size w w' :=
  (find_any s k hs hk hk2 w).mono fun e w' ⟨h, hb⟩ => ⟨by
    rcases h with ⟨h, _⟩ | ⟨_, h⟩
    · omega
    · exact h, hb⟩
theorem find_ok (s : List UInt8) (k : Nat) (hs : s.length ≤ 1000) (hk : 0 < k) (hk2 : k ≤ 9223372036854775807) (h20 : (findF s k).length ≤ 20) (w : World) :
    Calls Try.prog 16 #[.string (mkS s), .int .i64 k] w fun e w' => (∃ ad cap, e = .returned (.tuple #[.slice ad (findF s k).length cap, .nilIface]) ∧ PiecesAt w' ad (findF s k)) ∧ Below w.heap.size w w' :=
  (find_any s k hs hk hk2 w).mono fun e w' ⟨h, hb⟩ => ⟨by
    rcases h with ⟨_, h⟩ | ⟨h, _⟩
    · exact h
    · omega, hb⟩
/-- Size of what was found. -/
theorem size_found (s : List UInt8) (k : Nat) (hs : s.length ≤ 1000) (h20 : (findF s k).length ≤ 20) (ad : Option Addr) (cap : Nat) (w : World) (hM : PiecesAt w ad (findF s k)) :
    Calls Try.prog 8 #[.slice ad (findF s k).length cap] w fun e w' => e = .returned (.int .i64 (sumL (findF s k))) ∧ Below w.heap.size w w' := by
  have hr := findF_right s k
  have h := sizeA_any ad cap (findF s k) (by unfold maxLen; omega) (fits_of_right (by omega) _ (-1) (by omega) hr) w hM
  rw [sizeF_zero (by omega) hr] at h
  exact h

set_option maxHeartbeats 4000000 in
theorem holePieces_walk (a0 : ByteArray) (z0 : a0.size ≤ reachBytes) (a1 : ByteArray) (z1 : a1.size ≤ reachBytes) (a2 : Int) (w2 : (Lit.int .i64 a2).wf = true) (w : World) :
    Calls Try.prog 5 #[.string a0, .string a1, .int .i64 a2] w fun e w' => e = .returned (.bool true) ∧ Below w.heap.size w w' := by
  have hr := reachBytes_lt
  have HO := Lib.hid (fun w => holed_true w)
  obtain ⟨s, rfl⟩ : ∃ s, a0 = mkS s := ⟨_, (mkS_self a0).symm⟩
  obtain ⟨t, rfl⟩ : ∃ t, a1 = mkS t := ⟨_, (mkS_self a1).symm⟩
  have hs := mkS_size s
  have ht := mkS_size t
  rw [hs] at z0
  rw [ht] at z1
  by_cases h6 : (600 : Int) < (s.length : Int) + (t.length : Int)
  · go_enter Try.func5, Try.ntmps5
    go_wp2_with (go_at_call 10; with_reducible refine (HO.out _).mono ?_; rintro e w1 ⟨rfl, hb1⟩; have B1 := Lib.hid hb1; clear hb1)
    go_ret
    exact ⟨rfl, B1.out⟩
  obtain ⟨j, hj, PJ⟩ := pick_nat a2 20 (by omega) (by omega)
  have PJ := Lib.hid (show ∀ w, Calls Try.prog 13 #[.int .i64 a2, .int .i64 20] w fun e w' => e = .returned (.int .i64 (j : Int)) ∧ w' = w from PJ)
  obtain ⟨k, hk⟩ : ∃ k : Nat, 1 + j = k := ⟨_, rfl⟩
  have hk1 : (1 : Int) + (j : Int) = (k : Int) := by omega
  have hk0 : 0 < k := by omega
  have hk2 : k ≤ 20 := by omega
  have hkz : ((k : Int) == 0) = false := by simp; omega
  clear w2 hk
  have hm1 : s.length / k * k ≤ s.length := Nat.div_mul_le_self _ _
  have hdiv : ∃ q : Nat, (s.length : Int) / (k : Int) = (q : Int) ∧ s.length / k = q := ⟨s.length / k, by rw [Int.natCast_ediv], rfl⟩
  obtain ⟨q, hq1, hq2⟩ := hdiv
  rw [hq2] at hm1
  have hmul : (q : Int) * (k : Int) = ((q * k : Nat) : Int) := by rw [Int.natCast_mul]
  have hqb : q ≤ 600 := by have := Nat.div_le_self s.length k; omega
  have hS : (s.take (q * k)).length = q * k := by rw [List.length_take]; omega
  have HJ := Lib.hid (findF_join (s.take (q * k)) t k q hk0 hS)
  have hup := mkS_upto s (q * k) hm1
  generalize s.take (q * k) = A at hS hup HJ
  generalize q * k = m at hm1 hmul hS hup
  have hcat := mkS_cat A t (by omega)
  have hAl : A.length ≤ 600 := by omega
  have hmb : m ≤ 600 := by omega
  have hAt : (A ++ t).length ≤ 600 := by rw [List.length_append]; omega
  clear hq2 z0 z1
  by_cases hA : 20 < (findF A k).length
  · have FA := Lib.hid (fun w => find_over A k (by omega) hk0 (by omega) hA w)
    have FB := Lib.hid (fun w => find_gen t k (by omega) hk0 (by omega) w)
    have FC := Lib.hid (fun w => find_gen (A ++ t) k (by omega) hk0 (by omega) w)
    generalize mkS (A ++ t) = X at *
    generalize mkS A = Y at *
    generalize mkS t = Z at *
    go_enter Try.func5, Try.ntmps5
    go_wp2_with (first
      | (go_at_call 10; with_reducible refine (HO.out _).mono ?_; rintro e w1 ⟨rfl, hb1⟩; have B1 := Lib.hid hb1; clear hb1)
      | (go_at_call 13; with_reducible refine (PJ.out _).mono ?_; rintro e w' ⟨rfl, hw⟩; replace hw := hw.symm; subst hw)
      | (go_at_call 16; with_reducible refine (FA.out _).mono ?_; rintro e w2 ⟨rfl, hb2⟩; have B2 := Lib.hid (B1.out.trans (hb2.mono B1.out.size)); have C2 := Lib.hid hb2; clear hb2)
      | (go_at_call 16; with_reducible refine (FB.out _).mono ?_; rintro e w3 ⟨⟨vb, ub, rfl⟩, hb3⟩; have B3 := Lib.hid (B2.out.trans (hb3.mono B2.out.size)); have C3 := Lib.hid hb3; clear hb3)
      | (go_at_call 16; with_reducible refine (FC.out _).mono ?_; rintro e w4 ⟨⟨vc, uc, rfl⟩, hb4⟩; have B4 := Lib.hid (B3.out.trans (hb4.mono B3.out.size)); have C4 := Lib.hid hb4; clear hb4))
    go_ret
    exact ⟨rfl, B4.out⟩
  by_cases hB : 20 < (findF t k).length
  · replace hA : (findF A k).length ≤ 20 := by omega
    have FA := Lib.hid (fun w => find_ok A k (by omega) hk0 (by omega) hA w)
    have FB := Lib.hid (fun w => find_over t k (by omega) hk0 (by omega) hB w)
    have FC := Lib.hid (fun w => find_gen (A ++ t) k (by omega) hk0 (by omega) w)
    generalize mkS (A ++ t) = X at *
    generalize mkS A = Y at *
    generalize mkS t = Z at *
    go_enter Try.func5, Try.ntmps5
    go_wp2_with (first
      | (go_at_call 10; with_reducible refine (HO.out _).mono ?_; rintro e w1 ⟨rfl, hb1⟩; have B1 := Lib.hid hb1; clear hb1)
      | (go_at_call 13; with_reducible refine (PJ.out _).mono ?_; rintro e w' ⟨rfl, hw⟩; replace hw := hw.symm; subst hw)
      | (go_at_call 16; with_reducible refine (FA.out _).mono ?_; rintro e w2 ⟨⟨ad1, cp1, rfl, p1⟩, hb2⟩; have B2 := Lib.hid (B1.out.trans (hb2.mono B1.out.size)); have C2 := Lib.hid hb2; clear hb2)
      | (go_at_call 16; with_reducible refine (FB.out _).mono ?_; rintro e w3 ⟨rfl, hb3⟩; have B3 := Lib.hid (B2.out.trans (hb3.mono B2.out.size)); have C3 := Lib.hid hb3; clear hb3)
      | (go_at_call 16; with_reducible refine (FC.out _).mono ?_; rintro e w4 ⟨⟨vc, uc, rfl⟩, hb4⟩; have B4 := Lib.hid (B3.out.trans (hb4.mono B3.out.size)); have C4 := Lib.hid hb4; clear hb4))
    go_ret
    exact ⟨rfl, B4.out⟩
  by_cases hC : 20 < (findF (A ++ t) k).length
  · replace hA : (findF A k).length ≤ 20 := by omega
    replace hB : (findF t k).length ≤ 20 := by omega
    have FA := Lib.hid (fun w => find_ok A k (by omega) hk0 (by omega) hA w)
    have FB := Lib.hid (fun w => find_ok t k (by omega) hk0 (by omega) hB w)
    have FC := Lib.hid (fun w => find_over (A ++ t) k (by omega) hk0 (by omega) hC w)
    generalize mkS (A ++ t) = X at *
    generalize mkS A = Y at *
    generalize mkS t = Z at *
    go_enter Try.func5, Try.ntmps5
    go_wp2_with (first
      | (go_at_call 10; with_reducible refine (HO.out _).mono ?_; rintro e w1 ⟨rfl, hb1⟩; have B1 := Lib.hid hb1; clear hb1)
      | (go_at_call 13; with_reducible refine (PJ.out _).mono ?_; rintro e w' ⟨rfl, hw⟩; replace hw := hw.symm; subst hw)
      | (go_at_call 16; with_reducible refine (FA.out _).mono ?_; rintro e w2 ⟨⟨ad1, cp1, rfl, p1⟩, hb2⟩; have B2 := Lib.hid (B1.out.trans (hb2.mono B1.out.size)); have C2 := Lib.hid hb2; clear hb2)
      | (go_at_call 16; with_reducible refine (FB.out _).mono ?_; rintro e w3 ⟨⟨ad2, cp2, rfl, p2⟩, hb3⟩; have B3 := Lib.hid (B2.out.trans (hb3.mono B2.out.size)); have C3 := Lib.hid hb3; clear hb3)
      | (go_at_call 16; with_reducible refine (FC.out _).mono ?_; rintro e w4 ⟨rfl, hb4⟩; have B4 := Lib.hid (B3.out.trans (hb4.mono B3.out.size)); have C4 := Lib.hid hb4; clear hb4))
    go_ret
    exact ⟨rfl, B4.out⟩
  replace hA : (findF A k).length ≤ 20 := by omega
  replace hB : (findF t k).length ≤ 20 := by omega
  replace hC : (findF (A ++ t) k).length ≤ 20 := by omega
  have FA := Lib.hid (fun w => find_ok A k (by omega) hk0 (by omega) hA w)
  have FB := Lib.hid (fun w => find_ok t k (by omega) hk0 (by omega) hB w)
  have FC := Lib.hid (fun w => find_ok (A ++ t) k (by omega) hk0 (by omega) hC w)
  have SA := Lib.hid (fun ad cap w h => size_found A k (by omega) hA ad cap w h)
  have SB := Lib.hid (fun ad cap w h => size_found t k (by omega) hB ad cap w h)
  have SC := Lib.hid (fun ad cap w h => size_found (A ++ t) k (by omega) hC ad cap w h)
  obtain ⟨J1, J2, J3⟩ := HJ.out
  have b1 := (sumL_bound (size := A.length) _ (-1) (findF_right A k))
  have b2 := (sumL_bound (size := t.length) _ (-1) (findF_right t k))
  have s1 : 0 ≤ sumL (findF A k) ∧ sumL (findF A k) ≤ 600 := ⟨b1.1, by rcases b1.2 with h | h; (rw [h]; simp [sumL]); omega⟩
  have s2 : 0 ≤ sumL (findF t k) ∧ sumL (findF t k) ≤ 600 := ⟨b2.1, by rcases b2.2 with h | h; (rw [h]; simp [sumL]); omega⟩
  have J4 := J1.symm
  clear HJ J1 b1 b2
  generalize sumL (findF A k) = zA at SA s1 J4
  generalize sumL (findF t k) = zB at SB s2 J4
  generalize sumL (findF (A ++ t) k) = zC at SC J4
  generalize hLA : findF A k = LA at SA FA J2 J3 hA
  generalize hLB : findF t k = LB at SB FB J2 J3 hB
  generalize hLC : findF (A ++ t) k = LC at SC FC J2 J3 hC
  clear hLA hLB hLC
  have l1 : (LC.length : Int) ≤ (LA.length : Int) + (LB.length : Int) := by omega
  have l2 : (LA.length : Int) + (LB.length : Int) - 1 ≤ (LC.length : Int) := by omega
  generalize mkS (A ++ t) = X at *
  generalize mkS A = Y at *
  generalize mkS t = Z at *
  go_enter Try.func5, Try.ntmps5
  go_wp2_with (first
    | (go_at_call 10; with_reducible refine (HO.out _).mono ?_; rintro e w1 ⟨rfl, hb1⟩; have B1 := Lib.hid hb1; clear hb1)
    | (go_at_call 13; with_reducible refine (PJ.out _).mono ?_; rintro e w' ⟨rfl, hw⟩; replace hw := hw.symm; subst hw)
    | (go_at_call 16; with_reducible refine (FA.out _).mono ?_; rintro e w2 ⟨⟨ad1, cp1, rfl, p1⟩, hb2⟩; have B2 := Lib.hid (B1.out.trans (hb2.mono B1.out.size)); have C2 := Lib.hid hb2; clear hb2)
    | (go_at_call 16; with_reducible refine (FB.out _).mono ?_; rintro e w3 ⟨⟨ad2, cp2, rfl, p2⟩, hb3⟩; have B3 := Lib.hid (B2.out.trans (hb3.mono B2.out.size)); have C3 := Lib.hid hb3; clear hb3)
    | (go_at_call 16; with_reducible refine (FC.out _).mono ?_; rintro e w4 ⟨⟨ad3, cp3, rfl, p3⟩, hb4⟩; have B4 := Lib.hid (B3.out.trans (hb4.mono B3.out.size)); have C4 := Lib.hid hb4; clear hb4)
    | (go_at_call 8; with_reducible refine (SA.out _ _ _ ((p1.below C3.out).below C4.out)).mono ?_; rintro e w5 ⟨rfl, hb5⟩; have B5 := Lib.hid (B4.out.trans (hb5.mono B4.out.size)); have C5 := Lib.hid hb5; clear hb5)
    | (go_at_call 8; with_reducible refine (SB.out _ _ _ ((p2.below C4.out).below C5.out)).mono ?_; rintro e w6 ⟨rfl, hb6⟩; have B6 := Lib.hid (B5.out.trans (hb6.mono B5.out.size)); have C6 := Lib.hid hb6; clear hb6)
    | (go_at_call 8; with_reducible refine (SC.out _ _ _ ((p3.below C5.out).below C6.out)).mono ?_; rintro e w7 ⟨rfl, hb7⟩; have B7 := Lib.hid (B6.out.trans (hb7.mono B6.out.size)); clear hb7))
  go_ret
  exact ⟨by first | rfl | simp, B7.out⟩
end Go.Proofs.Ytpkledmpldnhiaa
