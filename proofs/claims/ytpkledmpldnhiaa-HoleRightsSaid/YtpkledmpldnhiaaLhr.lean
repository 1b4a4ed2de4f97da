/- The law HoleRights: its walk. -/
import Derived.Test.YtpkledmpldnhiaaRgB
namespace Go.Proofs.Ytpkledmpldnhiaa
open Go.RowKit Go.Joins
set_option linter.unusedVariables false

set_option maxHeartbeats 2000000 in
theorem holeRights_walk (ad0 : Option Addr) (c0 : Nat) (a0 : List Pc) (z0 : a0.length ≤ maxLen) (u0 : Fits a0) (a1 : Int) (w1 : (Lit.int .i64 a1).wf = true) (w : World) (hM0 : PiecesAt w ad0 a0) :
    Calls Try.prog 3 #[.slice ad0 a0.length c0, .int .i64 a1] w fun e w' => e = .returned (.bool true) ∧ Below w.heap.size w w' := by
  have hs := bounds_i64 w1
  have RA := Lib.hid (fun w' hb => rightA_any ad0 c0 a0 a1 hs z0 u0 w' (hM0.below hb))
  have RB := Lib.hid (fun w' hb => rightB_any ad0 c0 a0 a1 hs z0 u0 w' (hM0.below hb))
  have SA := Lib.hid (fun w' hb => sizeA_any ad0 c0 a0 z0 u0 w' (hM0.below hb))
  have SB := Lib.hid (fun w' hb => sizeB_any ad0 c0 a0 z0 u0 w' (hM0.below hb))
  clear hM0 u0 w1
  unfold maxLen at z0
  generalize mapRight a0 a1 = r at RA RB
  generalize sizeF 0 a0 = z at SA SB
  by_cases h30 : (30 : Int) < (a0.length : Int)
  · go_enter Try.func3, Try.ntmps3
    go_wp2
    go_ret
    exact ⟨rfl, Below.refl _ _⟩
  · go_enter Try.func3, Try.ntmps3
    go_wp2_with (first
      | (go_at_call 6; with_reducible refine (RA.out _ (Below.refl _ _)).mono ?_; rintro e w1 ⟨rfl, hb1⟩; have B1 := Lib.hid hb1; clear hb1)
      | (go_at_call 7; with_reducible refine (RB.out _ B1.out).mono ?_; rintro e w2 ⟨rfl, hb2⟩; have B2 := Lib.hid (B1.out.trans (hb2.mono B1.out.size)); clear hb2)
      | (go_at_call 8; with_reducible refine (SA.out _ B2.out).mono ?_; rintro e w3 ⟨rfl, hb3⟩; have B3 := Lib.hid (B2.out.trans (hb3.mono B2.out.size)); clear hb3)
      | (go_at_call 9; with_reducible refine (SB.out _ B3.out).mono ?_; rintro e w4 ⟨rfl, hb4⟩; have B4 := Lib.hid (B3.out.trans (hb4.mono B3.out.size)); clear hb4))
    go_ret
    exact ⟨by first | rfl | simp, B4.out⟩
end Go.Proofs.Ytpkledmpldnhiaa
