/- The law NumberOctal's walk: true at every number and width. -/
import Derived.Test.YtananpcpkjohcaaDoorOctR
import Derived.Test.YtananpcpkjohcaaDoorTell
import Derived.OpenShut
namespace Go.Proofs.YtananpcpkjohcaaDoor
open Go.RowKit

theorem mostF_range (W : Int) : 0 ≤ mostF W ∧ mostF W ≤ 144115188075855871 := by
  unfold mostF
  split
  · have := pow8_le W (by omega); omega
  · omega

set_option maxHeartbeats 1000000 in
theorem numberOctal_walk (a0 : Int) (w0 : (Lit.int .i64 a0).wf = true) (a1 : Int) (_w1 : (Lit.int .i64 a1).wf = true) (w : World) (hg : ErrLaid w) :
    Calls Tryd.prog 4 #[.int .i64 a0, .int .i64 a1] w fun e w' => e = .returned (.bool true) ∧ Below w.heap.size w w' := by
  obtain ⟨hn1, hn2⟩ := bounds_i64 w0
  by_cases h1 : a1 < 2 ∨ 20 < a1
  · have H1 := Lib.hid h1
    clear h1
    go_enter Tryd.func4, Tryd.ntmps4
    go_wp2_with (first
      | (go_at_call 23; refine (refOctal_arg _ _ _ H1.out).mono ?_; rintro e w' ⟨rfl, rfl⟩)
      | (go_at_call 24; refine (octal_arg _ _ _ H1.out).mono ?_; rintro e w' ⟨rfl, rfl⟩)
      | (go_at_call 22; refine (bare_err _ _ hg).mono ?_; rintro e w' ⟨rfl, hb⟩))
    go_ret
    exact ⟨rfl, hb⟩
  · obtain ⟨W, rfl⟩ := Int.eq_ofNat_of_zero_le (show 0 ≤ a1 by omega)
    have hW1 : 2 ≤ W := by omega
    have hW2 : W ≤ 20 := by omega
    clear h1
    rcases Int.lt_or_le a0 0 with hneg | hn
    · go_enter Tryd.func4, Tryd.ntmps4
      go_wp2_with (first
        | (go_at_call 23; refine (refOctal_neg _ _ _ (by omega) (by omega) hneg).mono ?_; rintro e w' ⟨rfl, rfl⟩)
        | (go_at_call 24; refine (octal_range _ _ _ (by omega) (by omega) (.inl hneg)).mono ?_; rintro e w' ⟨rfl, rfl⟩)
        | (go_at_call 22; refine (bare_err _ _ hg).mono ?_; rintro e w' ⟨rfl, hb⟩))
      go_ret
      exact ⟨rfl, hb⟩
    · rcases Int.lt_or_le (mostF W) a0 with hm | hm
      · go_enter Tryd.func4, Tryd.ntmps4
        go_wp2_with (first
          | (go_at_call 23; refine (refOctal_range _ W _ hW1 hW2 hn hn2 hm).mono ?_; rintro e w' ⟨rfl, rfl⟩)
          | (go_at_call 24; refine (octal_range _ _ _ (by omega) (by omega) (.inr hm)).mono ?_; rintro e w' ⟨rfl, rfl⟩)
          | (go_at_call 22; refine (bare_err _ _ hg).mono ?_; rintro e w' ⟨rfl, hb⟩))
        go_ret
        exact ⟨rfl, hb⟩
      · go_enter Tryd.func4, Tryd.ntmps4
        go_wp2_with (first
          | (go_at_call 23; refine (refOctal_ok _ W _ hW1 hW2 hn hn2 hm).mono ?_; rintro e w' ⟨rfl, hb1⟩)
          | (go_at_call 24; refine (octal_ok _ W _ hW1 hW2 hn hm).mono ?_; rintro e w' ⟨rfl, hb2⟩)
          | (go_at_call 22; refine (bare_nil _).mono ?_; rintro e w' ⟨rfl, rfl⟩))
        go_ret
        exact ⟨rfl, hb1.trans (hb2.mono hb1.size)⟩
end Go.Proofs.YtananpcpkjohcaaDoor
