/- The law HoleTakes: its walk. -/
import Derived.Test.YtpkledmpldnhiaaDoorMtk
import Derived.Test.YtpkledmpldnhiaaDoorTell
import Derived.ChangeMaps
namespace Go.Proofs.YtpkledmpldnhiaaDoor
open Go.RowKit Go.Joins
set_option linter.unusedVariables false

set_option maxHeartbeats 4000000 in
theorem holeTakes_walk (a0 : ByteArray) (z0 : a0.size ≤ reachBytes) (ad1 : Option Addr) (c1 : Nat) (l1 : List Pc) (z1 : l1.length ≤ maxLen) (u1 : Fits l1) (w : World) (hM1 : PiecesAt w ad1 l1) (hE : ErrLaid w) :
    Calls Tryd.prog 4 #[.string a0, .slice ad1 l1.length c1] w fun e w' => e = .returned (.bool true) ∧ Below w.heap.size w w' := by
  have hr := reachBytes_lt
  have HE := Lib.hid hE
  obtain ⟨s, rfl⟩ : ∃ s, a0 = mkS s := ⟨_, (mkS_self a0).symm⟩
  have hs := mkS_size s
  rw [hs] at z0
  have HM := Lib.hid (fun W' hb => PiecesAt.below (W' := W') hM1 hb)
  have hZ := z1
  unfold maxLen at z1
  clear hE hM1
  by_cases h6 : (600 : Int) < (s.length : Int)
  · clear u1 HM
    go_enter Tryd.func4, Tryd.ntmps4
    go_wp2
    go_ret
    exact ⟨rfl, Below.refl _ _⟩
  by_cases h7 : (30 : Int) < (l1.length : Int)
  · clear u1 HM
    go_enter Tryd.func4, Tryd.ntmps4
    go_wp2
    go_ret
    exact ⟨rfl, Below.refl _ _⟩
  cases hR : mapRight l1 s.length with
  | false =>
    have FA := Lib.hid (fun W h => mtake_bad s ad1 c1 l1 (by omega) hZ u1 hR W h)
    have FB := Lib.hid (fun W h => take_bad s ad1 c1 l1 (by omega) hZ u1 hR W h)
    clear u1 hR
    generalize mkS s = S at *
    generalize mkS [] = E at *
    go_enter Tryd.func4, Tryd.ntmps4
    go_wp2_with (first
      | (go_at_call 11; with_reducible refine (FA.out _ (HM.out _ (Below.refl _ _))).mono ?_; rintro e w1 ⟨rfl, hb1⟩; have B1 := Lib.hid hb1; clear hb1)
      | (go_at_call 12; with_reducible refine (FB.out _ (HM.out _ B1.out)).mono ?_; rintro e w2 ⟨rfl, hb2⟩; have B2 := Lib.hid (B1.out.trans (hb2.mono B1.out.size)); clear hb2)
      | (go_at_call 9; with_reducible refine (bare_err 1 _ (HE.out.below B2.out)).mono ?_; rintro e w3 ⟨rfl, hb3⟩; have B3 := Lib.hid (B2.out.trans (hb3.mono B2.out.size)); clear hb3))
    go_ret
    exact ⟨by first | rfl | simp, B3.out⟩
  | true =>
    have FA := Lib.hid (fun W h => mtake_ok s ad1 c1 l1 (by omega) hZ u1 hR W h)
    have FB := Lib.hid (fun W h => take_ok s ad1 c1 l1 (by omega) hZ u1 hR W h)
    clear u1 hR
    generalize mkS (takeL s l1) = T at *
    generalize mkS s = S at *
    go_enter Tryd.func4, Tryd.ntmps4
    go_wp2_with (first
      | (go_at_call 11; with_reducible refine (FA.out _ (HM.out _ (Below.refl _ _))).mono ?_; rintro e w1 ⟨rfl, hb1⟩; have B1 := Lib.hid hb1; clear hb1)
      | (go_at_call 12; with_reducible refine (FB.out _ (HM.out _ B1.out)).mono ?_; rintro e w2 ⟨rfl, hb2⟩; have B2 := Lib.hid (B1.out.trans (hb2.mono B1.out.size)); clear hb2)
      | (go_at_call 9; with_reducible refine (bare_nil _).mono ?_; rintro e w' ⟨rfl, hw⟩; replace hw := hw.symm; subst hw))
    go_ret
    exact ⟨by first | rfl | simp, B2.out⟩
end Go.Proofs.YtpkledmpldnhiaaDoor
