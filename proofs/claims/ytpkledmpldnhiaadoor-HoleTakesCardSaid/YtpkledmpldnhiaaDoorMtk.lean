/- The reference's MapTake. -/
import Derived.Test.YtpkledmpldnhiaaDoorTak
import Derived.Test.YtpkledmpldnhiaaDoorRgB
namespace Go.Proofs.YtpkledmpldnhiaaDoor
open Go.RowKit Go.Joins
set_option linter.unusedVariables false

set_option maxHeartbeats 2000000 in
theorem mtake_bad (s : List UInt8) (ad : Option Addr) (cap : Nat) (l : List Pc) (hs : s.length ≤ 100000) (hl : l.length ≤ maxLen) (hF : Fits l) (h : mapRight l s.length = false) (w : World) (hM : PiecesAt w ad l) :
    Calls Tryd.prog 11 #[.string (mkS s), .slice ad l.length cap] w fun e w' => e = .returned (.tuple #[.string (mkS []), .int .i64 1]) ∧ Below w.heap.size w w' := by
  have hz := mkS_size s
  have R := Lib.hid (fun w' hb => rightB_any ad cap l s.length (by omega) hl hF w' (hM.below hb))
  rw [h] at R
  clear hM hF h
  go_enter Tryd.func11, Tryd.ntmps11
  go_wp2_with (go_at_call 22; with_reducible refine (R.out _ (Below.refl _ _)).mono ?_; rintro e w1 ⟨rfl, hb1⟩; have B1 := Lib.hid hb1; clear hb1)
  go_ret2
  exact ⟨rfl, B1.out⟩

set_option maxHeartbeats 2000000 in
theorem mtake_ok (s : List UInt8) (ad : Option Addr) (cap : Nat) (l : List Pc) (hs : s.length ≤ 100000) (hl : l.length ≤ maxLen) (hF : Fits l) (h : mapRight l s.length = true) (w : World) (hM : PiecesAt w ad l) :
    Calls Tryd.prog 11 #[.string (mkS s), .slice ad l.length cap] w fun e w' => e = .returned (.tuple #[.string (mkS (takeL s l)), .int .i64 0]) ∧ Below w.heap.size w w' := by
  have hz := mkS_size s
  have R := Lib.hid (fun w' hb => rightB_any ad cap l s.length (by omega) hl hF w' (hM.below hb))
  obtain ⟨_, h20, hrt⟩ := mapRight_inv h
  rw [h] at R
  have HM := Lib.hid (fun W' hb => PiecesAt.below (W' := W') hM hb)
  have HRT := Lib.hid hrt
  clear hM hF h hrt
  go_enter Tryd.func11, Tryd.ntmps11
  go_wp2_with (go_at_call 22; with_reducible refine (R.out _ (Below.refl _ _)).mono ?_; rintro e w1 ⟨rfl, hb1⟩; have B1 := Lib.hid hb1; clear hb1)
  go_loopg [6, 16] l.length (fun g s6 s17 wr => ∃ i : Nat, i ≤ l.length ∧ l.length - i ≤ g ∧ s6 = .string (mkS (takeL s (l.take i))) ∧ s17 = .int .i64 i ∧ Aside (Below w.heap.size w wr))
  case atStart => exact ⟨0, by omega, by omega, rfl, rfl, (show Aside _ from B1.out)⟩
  case round =>
    obtain ⟨i, hi, hg, rfl, rfl, A⟩ := hrel
    by_cases hil : i < l.length
    · obtain ⟨p, hp⟩ : ∃ p, l[i]? = some p := ⟨_, List.getElem?_eq_getElem hil⟩
      obtain ⟨b, off, hAd, _, c1, c2⟩ := HM.out wr A.out i p hp
      subst hAd
      have hpa := rightF_at hp HRT.out
      obtain ⟨a, ha⟩ : ∃ a : Nat, p.1 = (a : Int) := ⟨p.1.toNat, by omega⟩
      obtain ⟨c, hc⟩ : ∃ c : Nat, p.2 = (c : Int) := ⟨p.2.toNat, by omega⟩
      have hn1 : a + c ≤ s.length := by omega
      rw [ha] at c1
      rw [hc] at c2
      have hcut : cutP s p = (s.drop a).take c := by unfold cutP; rw [ha, hc]; rfl
      have hs1 := mkS_onward s a (by omega)
      have hs2 := mkS_upto (s.drop a) c (by rw [List.length_drop]; omega)
      rw [← hcut] at hs2
      have h1 := takeL_le HRT.out i
      have h2 : (cutP s p).length ≤ s.length := by unfold cutP; rw [List.length_take, List.length_drop]; omega
      have hcat := mkS_cat (takeL s (l.take i)) (cutP s p) (by omega)
      rw [← takeL_take s hp] at hcat
      have AB := Lib.hid (A.out.alloc A.out.size (.cells #[.int .i64 (a : Int), .int .i64 (c : Int)] 47))
      clear A hp ha hc hpa hcut h1 h2
      generalize cutP s p = Q at *
      generalize mkS (takeL s (l.take i)) = X at *
      generalize mkS (s.drop a) = Y at *
      go_wp2
      go_quiet (fail)
      go_wp2
      go_roundg (l.length - (i + 1))
      case measure => omega
      case rel => exact ⟨i + 1, by omega, by omega, rfl, by first | rfl | simp, (show Aside _ from AB.out.trans ((below_draws _ _ _).mono AB.out.size))⟩
    · obtain rfl : i = l.length := by omega
      go_wp2
      go_ret2
      exact ⟨by rw [List.take_length]; rfl, A.out⟩
end Go.Proofs.YtpkledmpldnhiaaDoor
