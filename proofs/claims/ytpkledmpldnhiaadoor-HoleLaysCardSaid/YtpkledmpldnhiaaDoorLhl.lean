/- The law HoleLays: its walk. -/
import Derived.Test.YtpkledmpldnhiaaDoorMpt
import Derived.Test.YtpkledmpldnhiaaDoorPut
import Derived.Test.YtpkledmpldnhiaaDoorTell
import Derived.ChangeMaps
namespace Go.Proofs.YtpkledmpldnhiaaDoor
open Go.RowKit Go.Joins
set_option linter.unusedVariables false

set_option maxHeartbeats 4000000 in
theorem holeLays_walk (a0 : ByteArray) (z0 : a0.size ≤ reachBytes) (ad1 : Option Addr) (c1 : Nat) (l1 : List Pc) (z1 : l1.length ≤ maxLen) (u1 : Fits l1) (a2 : Int) (w2 : (Lit.int .i64 a2).wf = true) (w : World) (hM1 : PiecesAt w ad1 l1) (hE : ErrLaid w) :
    Calls Tryd.prog 5 #[.string a0, .slice ad1 l1.length c1, .int .i64 a2] w fun e w' => e = .returned (.bool true) ∧ Below w.heap.size w w' := by
  have hr := reachBytes_lt
  have hsz := bounds_i64 w2
  have HE := Lib.hid hE
  obtain ⟨d, rfl⟩ : ∃ s, a0 = mkS s := ⟨_, (mkS_self a0).symm⟩
  have hs := mkS_size d
  rw [hs] at z0
  have HM := Lib.hid (fun W' hb => PiecesAt.below (W' := W') hM1 hb)
  have hZ := z1
  unfold maxLen at z1
  clear hE hM1 w2
  by_cases h6 : (600 : Int) < (d.length : Int)
  · clear u1 HM
    go_enter Tryd.func5, Tryd.ntmps5
    go_wp2
    go_ret
    exact ⟨rfl, Below.refl _ _⟩
  by_cases h7 : (30 : Int) < (l1.length : Int)
  · clear u1 HM
    go_enter Tryd.func5, Tryd.ntmps5
    go_wp2
    go_ret
    exact ⟨rfl, Below.refl _ _⟩
  have hd2 : d.length ≤ 1000000 := by omega
  have hd3 : d.length ≤ 100000 := by omega
  by_cases hbad : mapRight l1 a2 = false ∨ ¬ (d.length : Int) = sizeF 0 l1
  · have FA := Lib.hid (fun W h => mput_bad d ad1 c1 l1 a2 hd2 hsz hZ u1 hbad W h)
    have FB := Lib.hid (fun W h => put_bad d ad1 c1 l1 a2 hd2 hsz hZ u1 hbad W h)
    clear u1 hbad
    generalize mkS d = S at *
    generalize mkS [] = E at *
    go_enter Tryd.func5, Tryd.ntmps5
    go_wp2_with (first
      | (go_at_call 13; with_reducible refine (FA.out _ (HM.out _ (Below.refl _ _))).mono ?_; rintro e w1 ⟨rfl, hb1⟩; have B1 := Lib.hid hb1; clear hb1)
      | (go_at_call 14; with_reducible refine (FB.out _ (HM.out _ B1.out)).mono ?_; rintro e w2 ⟨rfl, hb2⟩; have B2 := Lib.hid (B1.out.trans (hb2.mono B1.out.size)); clear hb2)
      | (go_at_call 9; with_reducible refine (bare_err 1 _ (HE.out.below B2.out)).mono ?_; rintro e w3 ⟨rfl, hb3⟩; have B3 := Lib.hid (B2.out.trans (hb3.mono B2.out.size)); clear hb3))
    go_ret
    exact ⟨by first | rfl | simp, B3.out⟩
  have hR : mapRight l1 a2 = true := by
    cases h : mapRight l1 a2 with
    | true => rfl
    | false => exact absurd (Or.inl h) hbad
  have hS : (d.length : Int) = sizeF 0 l1 := Classical.byContradiction fun h => hbad (Or.inr h)
  clear hbad
  by_cases h8 : 4000 < a2
  · have FA := Lib.hid (fun W h => mput_long d ad1 c1 l1 a2 hd2 hsz hZ u1 hR hS h8 W h)
    have FB := Lib.hid (fun W h => put_long d ad1 c1 l1 a2 hd2 hsz hZ u1 hR hS h8 W h)
    clear u1 hR hS
    generalize mkS d = S at *
    generalize mkS [] = E at *
    go_enter Tryd.func5, Tryd.ntmps5
    go_wp2_with (first
      | (go_at_call 13; with_reducible refine (FA.out _ (HM.out _ (Below.refl _ _))).mono ?_; rintro e w1 ⟨rfl, hb1⟩; have B1 := Lib.hid hb1; clear hb1)
      | (go_at_call 14; with_reducible refine (FB.out _ (HM.out _ B1.out)).mono ?_; rintro e w2 ⟨rfl, hb2⟩; have B2 := Lib.hid (B1.out.trans (hb2.mono B1.out.size)); clear hb2)
      | (go_at_call 9; with_reducible refine (bare_err 4 _ (HE.out.below B2.out)).mono ?_; rintro e w3 ⟨rfl, hb3⟩; have B3 := Lib.hid (B2.out.trans (hb3.mono B2.out.size)); clear hb3))
    go_ret
    exact ⟨by first | rfl | simp, B3.out⟩
  · obtain ⟨h9, _, _⟩ := mapRight_inv hR
    obtain ⟨n, rfl⟩ : ∃ n : Nat, a2 = (n : Int) := ⟨a2.toNat, by omega⟩
    have FA := Lib.hid (fun W h => mput_ok d ad1 c1 l1 n hd3 hZ u1 hR hS (by omega) W h)
    have FB := Lib.hid (fun W h => put_ok d ad1 c1 l1 n hd2 hZ u1 hR hS (by omega) W h)
    clear u1 hR hS
    generalize mkS (putL d l1 n) = T at *
    generalize mkS d = S at *
    go_enter Tryd.func5, Tryd.ntmps5
    go_wp2_with (first
      | (go_at_call 13; with_reducible refine (FA.out _ (HM.out _ (Below.refl _ _))).mono ?_; rintro e w1 ⟨rfl, hb1⟩; have B1 := Lib.hid hb1; clear hb1)
      | (go_at_call 14; with_reducible refine (FB.out _ (HM.out _ B1.out)).mono ?_; rintro e w2 ⟨rfl, hb2⟩; have B2 := Lib.hid (B1.out.trans (hb2.mono B1.out.size)); clear hb2)
      | (go_at_call 9; with_reducible refine (bare_nil _).mono ?_; rintro e w' ⟨rfl, hw⟩; replace hw := hw.symm; subst hw))
    go_ret
    exact ⟨by first | rfl | simp, B2.out⟩
end Go.Proofs.YtpkledmpldnhiaaDoor
