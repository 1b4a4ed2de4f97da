/- The law HoleFinds: its walk. -/
import Derived.Test.YtpkledmpldnhiaaDoorMfi
import Derived.Test.YtpkledmpldnhiaaDoorSmp
import Derived.Test.YtpkledmpldnhiaaDoorTell
import Derived.ChangeMaps
import Derived.SizedLaws
namespace Go.Proofs.YtpkledmpldnhiaaDoor
open Go.RowKit Go.Joins
set_option linter.unusedVariables false

theorem piecesAt_none (W : World) : PiecesAt W none [] := fun i p h => by simp at h
theorem mfind_over (s : List UInt8) (k : Nat) (hs : s.length ≤ 1000) (hk : 0 < k) (hk2 : k ≤ 9223372036854775807) (h20 : 20 < (findF s k).length) (w : World) :
    Calls Tryd.prog 7 #[.string (mkS s), .int .i64 k] w fun e w' => e = .returned (.tuple #[.slice none 0 0, .int .i64 4]) ∧ Below w.heap.size w w' :=
  (mfind_any s k hs hk hk2 w).mono fun e w' ⟨h, hb⟩ => ⟨by
    rcases h with ⟨h, _⟩ | ⟨_, h⟩
    · omega
    · exact h, hb⟩
theorem mfind_ok (s : List UInt8) (k : Nat) (hs : s.length ≤ 1000) (hk : 0 < k) (hk2 : k ≤ 9223372036854775807) (h20 : (findF s k).length ≤ 20) (w : World) :
    Calls Tryd.prog 7 #[.string (mkS s), .int .i64 k] w fun e w' => (∃ ad cap, e = .returned (.tuple #[.slice ad (findF s k).length cap, .int .i64 0]) ∧ PiecesAt w' ad (findF s k)) ∧ Below w.heap.size w w' :=
  (mfind_any s k hs hk hk2 w).mono fun e w' ⟨h, hb⟩ => ⟨by
    rcases h with ⟨_, h⟩ | ⟨h, _⟩
    · exact h
    · omega, hb⟩
theorem find_over (s : List UInt8) (k : Nat) (hs : s.length ≤ 1000) (hk : 0 < k) (hk2 : k ≤ 9223372036854775807) (h20 : 20 < (findF s k).length) (w : World) :
    Calls Tryd.prog 8 #[.string (mkS s), .int .i64 k] w fun e w' => e = .returned (.tuple #[.slice none 0 0, .iface 23 (.int .i64 4)]) ∧ Below w.heap.size w w' :=
  (find_any s k hs hk hk2 w).mono fun e w' ⟨h, hb⟩ => ⟨by
    rcases h with ⟨h, _⟩ | ⟨_, h⟩
    · omega
    · exact h, hb⟩
theorem find_ok (s : List UInt8) (k : Nat) (hs : s.length ≤ 1000) (hk : 0 < k) (hk2 : k ≤ 9223372036854775807) (h20 : (findF s k).length ≤ 20) (w : World) :
    Calls Tryd.prog 8 #[.string (mkS s), .int .i64 k] w fun e w' => (∃ ad cap, e = .returned (.tuple #[.slice ad (findF s k).length cap, .nilIface]) ∧ PiecesAt w' ad (findF s k)) ∧ Below w.heap.size w w' :=
  (find_any s k hs hk hk2 w).mono fun e w' ⟨h, hb⟩ => ⟨by
    rcases h with ⟨_, h⟩ | ⟨h, _⟩
    · exact h
    · omega, hb⟩

set_option maxHeartbeats 4000000 in
theorem holeFinds_walk (a0 : ByteArray) (z0 : a0.size ≤ reachBytes) (a1 : Int) (w1 : (Lit.int .i64 a1).wf = true) (w : World) (hE : ErrLaid w) :
    Calls Tryd.prog 3 #[.string a0, .int .i64 a1] w fun e w' => e = .returned (.bool true) ∧ Below w.heap.size w w' := by
  have hb := bounds_i64 w1
  have HE := Lib.hid hE
  obtain ⟨s, rfl⟩ : ∃ s, a0 = mkS s := ⟨_, (mkS_self a0).symm⟩
  have hs := mkS_size s
  clear w1 hE z0
  by_cases h6 : (600 : Int) < (s.length : Int)
  · go_enter Tryd.func3, Tryd.ntmps3
    go_wp2
    go_ret
    exact ⟨rfl, Below.refl _ _⟩
  by_cases hk : a1 < 1
  · have FA := Lib.hid (fun w => mfind_bad s a1 hk w)
    have FB := Lib.hid (fun w => find_bad s a1 hk w)
    have SM := Lib.hid (show ∀ W, Calls Tryd.prog 10 #[.slice none 0 0, .slice none 0 0] W fun e w' => e = .returned (.bool true) ∧ Below W.heap.size W w' from fun W => same_map none none 0 0 [] (by simp) W (piecesAt_none W) (piecesAt_none W))
    generalize mkS s = S at *
    go_enter Tryd.func3, Tryd.ntmps3
    go_wp2_with (first
      | (go_at_call 7; with_reducible refine (FA.out _).mono ?_; rintro e w' ⟨rfl, hw⟩; replace hw := hw.symm; subst hw)
      | (go_at_call 8; with_reducible refine (FB.out _).mono ?_; rintro e w' ⟨rfl, hw⟩; replace hw := hw.symm; subst hw)
      | (go_at_call 9; with_reducible refine (bare_err 1 _ HE.out).mono ?_; rintro e w3 ⟨rfl, hb3⟩; have B3 := Lib.hid hb3; clear hb3)
      | (go_at_call 10; with_reducible refine (SM.out _).mono ?_; rintro e w4 ⟨rfl, hb4⟩; have B4 := Lib.hid (B3.out.trans (hb4.mono B3.out.size)); clear hb4))
    go_ret
    exact ⟨by first | rfl | simp, B4.out⟩
  obtain ⟨k, rfl⟩ : ∃ k : Nat, a1 = (k : Int) := ⟨a1.toNat, by omega⟩
  by_cases h20 : 20 < (findF s k).length
  · have FA := Lib.hid (fun w => mfind_over s k (by omega) (by omega) (by omega) h20 w)
    have FB := Lib.hid (fun w => find_over s k (by omega) (by omega) (by omega) h20 w)
    have SM := Lib.hid (show ∀ W, Calls Tryd.prog 10 #[.slice none 0 0, .slice none 0 0] W fun e w' => e = .returned (.bool true) ∧ Below W.heap.size W w' from fun W => same_map none none 0 0 [] (by simp) W (piecesAt_none W) (piecesAt_none W))
    clear h20
    generalize mkS s = S at *
    go_enter Tryd.func3, Tryd.ntmps3
    go_wp2_with (first
      | (go_at_call 7; with_reducible refine (FA.out _).mono ?_; rintro e w1 ⟨rfl, hb1⟩; have B1 := Lib.hid hb1; clear hb1)
      | (go_at_call 8; with_reducible refine (FB.out _).mono ?_; rintro e w2 ⟨rfl, hb2⟩; have B2 := Lib.hid (B1.out.trans (hb2.mono B1.out.size)); clear hb2)
      | (go_at_call 9; with_reducible refine (bare_err 4 _ (HE.out.below B2.out)).mono ?_; rintro e w3 ⟨rfl, hb3⟩; have B3 := Lib.hid (B2.out.trans (hb3.mono B2.out.size)); clear hb3)
      | (go_at_call 10; with_reducible refine (SM.out _).mono ?_; rintro e w4 ⟨rfl, hb4⟩; have B4 := Lib.hid (B3.out.trans (hb4.mono B3.out.size)); clear hb4))
    go_ret
    exact ⟨by first | rfl | simp, B4.out⟩
  · have hle : (findF s k).length ≤ 20 := by omega
    have FA := Lib.hid (fun w => mfind_ok s k (by omega) (by omega) (by omega) hle w)
    have FB := Lib.hid (fun w => find_ok s k (by omega) (by omega) (by omega) hle w)
    have SM := Lib.hid (fun a1 a2 c1 c2 W h1 h2 => same_map a1 a2 c1 c2 (findF s k) (by omega) W h1 h2)
    clear h20
    generalize mkS s = S at *
    generalize findF s k = L at *
    go_enter Tryd.func3, Tryd.ntmps3
    go_wp2_with (first
      | (go_at_call 7; with_reducible refine (FA.out _).mono ?_; rintro e w1 ⟨⟨ad1, cp1, rfl, hp1⟩, hb1⟩; have B1 := Lib.hid hb1; have P1 := Lib.hid hp1; clear hb1 hp1)
      | (go_at_call 8; with_reducible refine (FB.out _).mono ?_; rintro e w2 ⟨⟨ad2, cp2, rfl, hp2⟩, hb2⟩; have B2 := Lib.hid (B1.out.trans (hb2.mono B1.out.size)); have P2 := Lib.hid (And.intro (P1.out.below hb2) hp2); clear hb2 hp2)
      | (go_at_call 9; with_reducible refine (bare_nil _).mono ?_; rintro e w' ⟨rfl, hw⟩; replace hw := hw.symm; subst hw)
      | (go_at_call 10; with_reducible refine (SM.out _ _ _ _ _ P2.out.2 P2.out.1).mono ?_; rintro e w4 ⟨rfl, hb4⟩; have B4 := Lib.hid (B2.out.trans (hb4.mono B2.out.size)); clear hb4))
    go_ret
    exact ⟨by first | rfl | simp, B4.out⟩
end Go.Proofs.YtpkledmpldnhiaaDoor
