/- The law HoleBack: its walk. -/
import Derived.Test.YtpkledmpldnhiaaDoorLhf
import Derived.Test.YtpkledmpldnhiaaDoorHol
import Derived.Test.YtpkledmpldnhiaaDoorTak
import Derived.Test.YtpkledmpldnhiaaDoorPik
namespace Go.Proofs.YtpkledmpldnhiaaDoor
open Go.RowKit Go.Joins
set_option linter.unusedVariables false

theorem fits_of_right {n : Int} (hn : n ≤ 9223372036854775807) : ∀ (l : List Pc) (e : Int), -1 ≤ e → rightF n e l = true → Fits l
  | [], e, _, _ => fun p hp => by cases hp
  | q :: l, e, he, h => fun p hp => by
    rw [rightF_cons] at h
    rcases List.mem_cons.1 hp with rfl | hp
    · exact ⟨⟨by omega, by omega⟩, ⟨by omega, by omega⟩⟩
    · exact fits_of_right hn l _ (by omega) h.2.2.2 p hp
/-- A piece that was found: its bytes aren't all zero, it begins with a block. -/
theorem found_at (s : List UInt8) (k : Nat) (hk : 0 < k) (i : Nat) (p : Pc) (hp : (findF s k)[i]? = some p) :
    ∃ a c : Nat, p.1 = (a : Int) ∧ p.2 = (c : Int) ∧ a + c ≤ s.length ∧ a % k = 0 ∧ ((s.drop a).take c).any (· != 0) = true := by
  have hr := rightF_at hp (findF_right s k)
  obtain ⟨⟨b, hb⟩, x, hx1, hx2, v, hv, hv0⟩ := findF_good s k hk p (List.mem_of_getElem? hp)
  refine ⟨p.1.toNat, p.2.toNat, by omega, by omega, by omega, by rw [hb, Int.toNat_natCast]; exact Nat.mul_mod_left _ _, ?_⟩
  rw [List.any_eq_true]
  refine ⟨v, ?_, by simpa using hv0⟩
  apply List.mem_of_getElem? (i := x - p.1.toNat)
  rw [List.getElem?_take, if_pos (by omega), List.getElem?_drop, show p.1.toNat + (x - p.1.toNat) = x by omega, hv]

set_option maxHeartbeats 4000000 in
theorem holeBack_walk (a0 : ByteArray) (z0 : a0.size ≤ reachBytes) (a1 : Int) (w1 : (Lit.int .i64 a1).wf = true) (w : World) (hE : ErrLaid w) :
    Calls Tryd.prog 6 #[.string a0, .int .i64 a1] w fun e w' => e = .returned (.bool true) ∧ Below w.heap.size w w' := by
  have HE := Lib.hid hE
  have HO := Lib.hid (fun w => holed_true w)
  obtain ⟨s, rfl⟩ : ∃ s, a0 = mkS s := ⟨_, (mkS_self a0).symm⟩
  have hs := mkS_size s
  clear w1 hE z0
  by_cases h6 : (600 : Int) < (s.length : Int)
  · go_enter Tryd.func6, Tryd.ntmps6
    go_wp2_with (go_at_call 15; with_reducible refine (HO.out _).mono ?_; rintro e w1 ⟨rfl, hb1⟩; have B1 := Lib.hid hb1; clear hb1)
    go_ret
    exact ⟨rfl, B1.out⟩
  obtain ⟨j, hj, PJ⟩ := pick_nat a1 40 (by omega) (by omega)
  have PJ := Lib.hid (show ∀ w, Calls Tryd.prog 16 #[.int .i64 a1, .int .i64 40] w fun e w' => e = .returned (.int .i64 (j : Int)) ∧ w' = w from PJ)
  obtain ⟨k, hk⟩ : ∃ k : Nat, 1 + j = k := ⟨_, rfl⟩
  have hk1 : (1 : Int) + (j : Int) = (k : Int) := by omega
  have hk0 : 0 < k := by omega
  have hk2 : k ≤ 40 := by omega
  clear hk
  by_cases h20 : 20 < (findF s k).length
  · have F := Lib.hid (fun w => find_over s k (by omega) (by omega) (by omega) h20 w)
    clear h20
    generalize mkS s = S at *
    go_enter Tryd.func6, Tryd.ntmps6
    go_wp2_with (first
      | (go_at_call 15; with_reducible refine (HO.out _).mono ?_; rintro e w1 ⟨rfl, hb1⟩; have B1 := Lib.hid hb1; clear hb1)
      | (go_at_call 16; with_reducible refine (PJ.out _).mono ?_; rintro e w' ⟨rfl, hw⟩; replace hw := hw.symm; subst hw)
      | (go_at_call 8; with_reducible refine (F.out _).mono ?_; rintro e w2 ⟨rfl, hb2⟩; have B2 := Lib.hid (B1.out.trans (hb2.mono B1.out.size)); clear hb2)
      | (go_at_call 17; with_reducible refine (tell_err 4 _ (HE.out.below B2.out)).mono ?_; rintro e w3 ⟨rfl, hb3⟩; have B3 := Lib.hid (B2.out.trans (hb3.mono B2.out.size)); clear hb3))
    go_ret
    exact ⟨by first | rfl | simp, B3.out⟩
  have hle : (findF s k).length ≤ 20 := by omega
  have hrt := findF_right s k
  have hR : mapRight (findF s k) s.length = true := mapRight_true (by omega) hle hrt
  have hFt : Fits (findF s k) := fits_of_right (by omega) _ (-1) (by omega) hrt
  have hml : (findF s k).length ≤ maxLen := by unfold maxLen; omega
  have hsz : ((takeL s (findF s k)).length : Int) = sizeF 0 (findF s k) := by rw [sizeF_zero (by omega) hrt]; exact takeL_length _ (-1) (by omega) hrt
  have htl : (takeL s (findF s k)).length ≤ s.length := by have := takeL_le hrt 20; rwa [List.take_of_length_le hle] at this
  have F := Lib.hid (fun w => find_ok s k (by omega) (by omega) (by omega) hle w)
  have T := Lib.hid (fun ad cap W h => take_ok s ad cap (findF s k) (by omega) hml hFt hR W h)
  have U := Lib.hid (fun ad cap W h => put_ok (takeL s (findF s k)) ad cap (findF s k) s.length (by omega) hml hFt hR hsz (by omega) W h)
  rw [findF_back s k hk0] at U
  have G := Lib.hid (fun ad cap W h => rightA_any ad cap (findF s k) s.length (by omega) hml hFt W h)
  rw [hR] at G
  have Z := Lib.hid (fun ad cap W h => sizeA_any ad cap (findF s k) hml hFt W h)
  rw [← hsz] at Z
  have HP := Lib.hid (found_at s k hk0)
  have hds := mkS_size (takeL s (findF s k))
  clear hR hFt hsz h20
  generalize (takeL s (findF s k)).length = dn at *
  generalize mkS (takeL s (findF s k)) = D at *
  generalize findF s k = L at *
  go_enter Tryd.func6, Tryd.ntmps6
  go_wp2_with (first
      | (go_at_call 15; with_reducible refine (HO.out _).mono ?_; rintro e w1 ⟨rfl, hb1⟩; have B1 := Lib.hid hb1; clear hb1)
      | (go_at_call 16; with_reducible refine (PJ.out _).mono ?_; rintro e w' ⟨rfl, hw⟩; replace hw := hw.symm; subst hw)
      | (go_at_call 8; with_reducible refine (F.out _).mono ?_; rintro e w2 ⟨⟨ad, cap, rfl, hp2⟩, hb2⟩; have B2 := Lib.hid (B1.out.trans (hb2.mono B1.out.size)); have P2 := Lib.hid hp2; clear hb2 hp2)
      | (go_at_call 12; with_reducible refine (T.out _ _ _ P2.out).mono ?_; rintro e w3 ⟨rfl, hb3⟩; have B3 := Lib.hid (B2.out.trans (hb3.mono B2.out.size)); have P3 := Lib.hid (P2.out.below hb3); clear hb3)
      | (go_at_call 14; with_reducible refine (U.out _ _ _ P3.out).mono ?_; rintro e w4 ⟨rfl, hb4⟩; have B4 := Lib.hid (B3.out.trans (hb4.mono B3.out.size)); have P4 := Lib.hid (P3.out.below hb4); clear hb4)
      | (go_at_call 18; with_reducible refine (G.out _ _ _ P4.out).mono ?_; rintro e w5 ⟨rfl, hb5⟩; have B5 := Lib.hid (B4.out.trans (hb5.mono B4.out.size)); have P5 := Lib.hid (P4.out.below hb5); clear hb5)
      | (go_at_call 19; with_reducible refine (Z.out _ _ _ P5.out).mono ?_; rintro e w6 ⟨rfl, hb6⟩; have B6 := Lib.hid (B5.out.trans (hb6.mono B5.out.size)); have P6 := Lib.hid (P5.out.below hb6); clear hb6))
  go_loopg [73] L.length (fun g s73 wr => ∃ i : Nat, i ≤ L.length ∧ L.length - i ≤ g ∧ s73 = .int .i64 i ∧ Aside (Below w6.heap.size w6 wr))
  case atStart => exact ⟨0, by omega, by omega, rfl, (show Aside _ from Below.refl _ _)⟩
  case round =>
    obtain ⟨i, hi, hg, rfl, A⟩ := hrel
    by_cases hil : i < L.length
    · obtain ⟨p, hp⟩ : ∃ p, L[i]? = some p := ⟨_, List.getElem?_eq_getElem hil⟩
      obtain ⟨b, off, hAd, _, c1, c2⟩ := (P6.out.below A.out) i p hp
      subst hAd
      obtain ⟨a, c, ha, hc, hac, hmod0, hany⟩ := HP.out i p hp
      rw [ha] at c1
      rw [hc] at c2
      have hmid : ∀ W, (Instr.slice 9 (.string (mkS s)) (some (.int .i64 (a : Int))) (some (.int .i64 ((a : Int) + (c : Int)))) none).run Tryd.prog W = .ok (.string (mkS ((s.drop a).take c))) W := fun W => by
        have h := mkS_mid s a (a + c) (by omega) hac W
        rw [show a + c - a = c by omega] at h
        exact h
      obtain ⟨T9, hT9, TR⟩ := trimZ_any ((s.drop a).take c) (by rw [List.length_take]; omega)
      have hTe : T9 ≠ [] := fun h => by rw [hT9.1 h] at hany; cases hany
      have hemp := mkS_emp T9 hTe
      have TR := Lib.hid TR
      have hmod : (a : Int) % (k : Int) = 0 := by
        have h := congrArg (fun n : Nat => (n : Int)) hmod0
        simpa using h
      have AB := Lib.hid (A.out.alloc A.out.size (.cells #[.int .i64 (a : Int), .int .i64 (c : Int)] 47))
      have k0 : (wr.alloc (.cells #[.int .i64 (a : Int), .int .i64 (c : Int)] 47)).cell? ⟨wr.heap.size, 0, none⟩ = some (.int .i64 (a : Int)) := by simp
      have K0 := Lib.hid k0
      clear A hp ha hc hT9 hany hTe hmod0 k0
      generalize mkS ((s.drop a).take c) = Y at *
      generalize mkS T9 = X at *
      go_wp2_with (go_at_call 20; with_reducible refine (TR.out _).mono ?_; rintro e w7 ⟨rfl, hb7⟩; have k1 := (hb7.cell (p := ⟨wr.heap.size, 0, none⟩) (by simp)).trans K0.out; have B7 := Lib.hid (AB.out.trans (hb7.mono AB.out.size)); clear hb7)
      go_roundg (L.length - (i + 1))
      case measure => omega
      case rel => exact ⟨i + 1, by omega, by omega, by first | rfl | simp, (show Aside _ from B7.out)⟩
    · go_wp2
      go_ret
      exact ⟨rfl, B6.out.trans (A.out.mono B6.out.size)⟩
end Go.Proofs.YtpkledmpldnhiaaDoor
