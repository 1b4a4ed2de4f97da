/- The keep's wayed: names, as they are said. -/
import Derived.Test.YtlgfdlfijfcfbaaDoorAwp
import Derived.Test.YtlgfdlfijfcfbaaDoorUp
namespace Go.Proofs.YtlgfdlfijfcfbaaDoor
open Go.RowKit Go.Joins
set_option linter.unusedVariables false

theorem way1 : cleanL [97, 47, 47, 98, 47, 46, 47, 46, 46, 47, 99, 47] = ([97, 47, 99], true) := by decide +kernel
theorem way2 : cleanL [97, 47, 46, 46, 47, 46, 46, 47, 98] = ([98], false) := by decide +kernel
theorem way3 : upL [120, 47, 121, 47, 122] = ([120, 47, 121], [122]) := upL_slash [120, 47, 121] [122] (by decide)
theorem way4 : rightB [97, 47, 98, 47, 99] = true := by decide +kernel
theorem way5 : rightB [97, 47, 100] = true := by decide +kernel
theorem way6 : awayL [97, 47, 98, 47, 99] [97, 47, 100] = [46, 46, 47, 100] := by decide +kernel
theorem way7 : rightB [97, 47, 98] = true := by decide +kernel
theorem way8 : rightB [97, 47, 46, 46, 47, 98] = false := by decide +kernel

set_option maxHeartbeats 2000000 in
theorem wayed_any (w : World) : Calls Tryd.prog 26 #[] w fun e w' => e = .returned (.bool true) ∧ Below w.heap.size w w' := by
  have C1 := Lib.hid (show ∀ w, Calls Tryd.prog 16 #[.string ⟨#[97, 47, 47, 98, 47, 46, 47, 46, 46, 47, 99, 47]⟩] w fun e w' => e = .returned (txB ([97, 47, 99], true)) ∧ Below w.heap.size w w' from fun w => by have := clean_any [97, 47, 47, 98, 47, 46, 47, 46, 46, 47, 99, 47] (by simp) w; rwa [way1] at this)
  have C2 := Lib.hid (show ∀ w, Calls Tryd.prog 16 #[.string ⟨#[97, 47, 46, 46, 47, 46, 46, 47, 98]⟩] w fun e w' => e = .returned (txB ([98], false)) ∧ Below w.heap.size w w' from fun w => by have := clean_any [97, 47, 46, 46, 47, 46, 46, 47, 98] (by simp) w; rwa [way2] at this)
  have U := Lib.hid (show ∀ w, Calls Tryd.prog 40 #[.string ⟨#[120, 47, 121, 47, 122]⟩] w fun e w' => e = .returned (twoV [120, 47, 121] [122]) ∧ Below w.heap.size w w' from fun w => by have := up_any [120, 47, 121, 47, 122] (by simp) w; rwa [way3] at this)
  have A := Lib.hid (show ∀ w, Calls Tryd.prog 24 #[.string ⟨#[97, 47, 98, 47, 99]⟩, .string ⟨#[97, 47, 100]⟩] w fun e w' => e = .returned (.string (mkS [46, 46, 47, 100])) ∧ Below w.heap.size w w' from fun w => by have := away_any [97, 47, 98, 47, 99] [97, 47, 100] way4 way5 w; rwa [way6] at this)
  have R1 := Lib.hid (show ∀ w, Calls Tryd.prog 17 #[.string ⟨#[97, 47, 98]⟩] w fun e w' => e = .returned (.bool true) ∧ Below w.heap.size w w' from fun w => by have := right_any [97, 47, 98] w; rwa [way7] at this)
  have R2 := Lib.hid (show ∀ w, Calls Tryd.prog 17 #[.string ⟨#[97, 47, 46, 46, 47, 98]⟩] w fun e w' => e = .returned (.bool false) ∧ Below w.heap.size w w' from fun w => by have := right_any [97, 47, 46, 46, 47, 98] w; rwa [way8] at this)
  have l1 : (⟨#[97, 47, 99]⟩ : ByteArray) = mkS [97, 47, 99] := rfl
  have l2 : (⟨#[120, 47, 121]⟩ : ByteArray) = mkS [120, 47, 121] := rfl
  have l3 : (⟨#[122]⟩ : ByteArray) = mkS [122] := rfl
  have l4 : (⟨#[46, 46, 47, 100]⟩ : ByteArray) = mkS [46, 46, 47, 100] := rfl
  go_enter Tryd.func26, Tryd.ntmps26
  go_wp2_with fail
  go_at_call 16
  refine (C1.out _).mono ?_
  rintro e w1 ⟨rfl, h1⟩
  go_wp2_with fail
  go_at_call 16
  refine (C2.out _).mono ?_
  rintro e w2 ⟨rfl, h2⟩
  go_wp2_with fail
  go_at_call 40
  refine (U.out _).mono ?_
  rintro e w3 ⟨rfl, h3⟩
  go_wp2_with fail
  go_at_call 24
  refine (A.out _).mono ?_
  rintro e w4 ⟨rfl, h4⟩
  go_wp2_with fail
  go_at_call 17
  refine (R1.out _).mono ?_
  rintro e w5 ⟨rfl, h5⟩
  go_wp2_with fail
  go_at_call 17
  refine (R2.out _).mono ?_
  rintro e w6 ⟨rfl, h6⟩
  go_wp2
  go_ret
  exact ⟨by simp, h1.trans ((h2.trans ((h3.trans ((h4.trans ((h5.trans (h6.mono h5.size)).mono h4.size)).mono h3.size)).mono h2.size)).mono h1.size)⟩
end Go.Proofs.YtlgfdlfijfcfbaaDoor
