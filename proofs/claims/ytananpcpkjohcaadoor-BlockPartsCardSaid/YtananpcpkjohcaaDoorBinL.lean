/- The law NumberBinary's walk: true at every number and width. -/
import Derived.Test.YtananpcpkjohcaaDoorBinR
import Derived.Test.YtananpcpkjohcaaDoorTell
import Derived.OpenShut
namespace Go.Proofs.YtananpcpkjohcaaDoor
open Go.RowKit

set_option maxHeartbeats 1000000 in
theorem numberBinary_walk (a0 : Int) (w0 : (Lit.int .i64 a0).wf = true) (a1 : Int) (_w1 : (Lit.int .i64 a1).wf = true) (w : World) (hg : ErrLaid w) :
    Calls Tryd.prog 5 #[.int .i64 a0, .int .i64 a1] w fun e w' => e = .returned (.bool true) ∧ Below w.heap.size w w' := by
  have hb := bounds_i64 w0
  by_cases h1 : a1 < 8 ∨ 20 < a1
  · have H1 := Lib.hid h1
    clear h1
    go_enter Tryd.func5, Tryd.ntmps5
    go_wp2_with (first
      | (go_at_call 25; refine (refBinary_arg _ _ _ H1.out).mono ?_; rintro e w' ⟨rfl, rfl⟩)
      | (go_at_call 26; refine (binary_arg _ _ _ H1.out).mono ?_; rintro e w' ⟨rfl, rfl⟩)
      | (go_at_call 22; refine (bare_err _ _ hg).mono ?_; rintro e w' ⟨rfl, hb⟩))
    go_ret
    exact ⟨rfl, hb⟩
  · obtain ⟨W, rfl⟩ := Int.eq_ofNat_of_zero_le (show 0 ≤ a1 by omega)
    by_cases h2 : W = 8 ∧ (a0 < -36028797018963968 ∨ 36028797018963967 < a0)
    · obtain ⟨rfl, h2⟩ := h2
      have H2 := Lib.hid h2
      clear h1 h2
      go_enter Tryd.func5, Tryd.ntmps5
      go_wp2_with (first
        | (go_at_call 25; refine (refBinary_range _ _ H2.out).mono ?_; rintro e w' ⟨rfl, rfl⟩)
        | (go_at_call 26; refine (binary_range _ _ H2.out).mono ?_; rintro e w' ⟨rfl, rfl⟩)
        | (go_at_call 22; refine (bare_err _ _ hg).mono ?_; rintro e w' ⟨rfl, hb⟩))
      go_ret
      exact ⟨rfl, hb⟩
    · have hr : W = 8 → -36028797018963968 ≤ a0 ∧ a0 ≤ 36028797018963967 := fun h => by omega
      have Hr := Lib.hid hr
      have hW1 : 8 ≤ W := by omega
      have hW2 : W ≤ 20 := by omega
      obtain ⟨hn1, hn2⟩ := hb
      clear hr h1 h2
      go_enter Tryd.func5, Tryd.ntmps5
      go_wp2_with (first
        | (go_at_call 25; refine (refBinary_ok _ W _ hW1 hW2 hn1 hn2 Hr.out).mono ?_; rintro e w' ⟨rfl, hb1⟩)
        | (go_at_call 26; refine (binary_ok _ W _ hW1 hW2 hn1 hn2 Hr.out).mono ?_; rintro e w' ⟨rfl, hb2⟩)
        | (go_at_call 22; refine (bare_nil _).mono ?_; rintro e w' ⟨rfl, rfl⟩))
      go_ret
      exact ⟨rfl, hb1.trans (hb2.mono hb1.size)⟩
end Go.Proofs.YtananpcpkjohcaaDoor
