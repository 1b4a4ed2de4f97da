/- The keeps' laws PathAway, PathOnce: walks. -/
import Derived.Test.YtlgfdlfijfcfbaaDoorWay
import Derived.Test.YtlgfdlfijfcfbaaDoorToP
import Derived.SizedLaws
namespace Go.Proofs.YtlgfdlfijfcfbaaDoor
open Go.RowKit Go.Joins
set_option linter.unusedVariables false

theorem awayL_le (a b : List UInt8) (ha : rightB a = true) (hb : rightB b = true) : (awayL a b).length ≤ 1000 := by
  obtain ⟨-, a2, -, -, -, -, -, a8⟩ := right_facts a ha
  obtain ⟨-, b2, -, -, -, -, -, b8⟩ := right_facts b hb
  have hw := wt_parts b
  unfold awayL awayP
  rw [List.length_append, upsL_length]
  have h1 := joinS_wt ((partsL b).drop (commL (min (partsL a).length (partsL b).length - 1) (partsL a) (partsL b)))
  have h2 := wt_drop (commL (min (partsL a).length (partsL b).length - 1) (partsL a) (partsL b)) (partsL b)
  omega

set_option maxHeartbeats 2000000 in
theorem pathAway_walk (a : ByteArray) (za : a.size ≤ reachBytes) (b : ByteArray) (zb : b.size ≤ reachBytes) (w : World) :
    Calls Tryd.prog 10 #[.string a, .string b] w fun e w' => e = .returned (.bool true) ∧ Below w.heap.size w w' := by
  obtain ⟨x, rfl⟩ : ∃ k, a = mkS k := ⟨_, (mkS_self a).symm⟩
  obtain ⟨y, rfl⟩ : ∃ k, b = mkS k := ⟨_, (mkS_self b).symm⟩
  have W := Lib.hid (fun w => wayed_any w)
  have R1 := Lib.hid (fun w => right_any x w)
  have R2 := Lib.hid (fun w => right_any y w)
  by_cases r1 : rightB x = true
  · rw [r1] at R1
    by_cases r2 : rightB y = true
    · rw [r2] at R2
      have l1 := (right_facts x r1).2.1
      have l2 := (right_facts y r2).2.1
      have l3 := awayL_le x y r1 r2
      have A := Lib.hid (fun w => away_any x y r1 r2 w)
      have T1 := Lib.hid (fun w => to_any x (awayL x y) (by omega) (by omega) w)
      have T2 := Lib.hid (fun w => to_any x (47 :: y) (by omega) (by simp; omega) w)
      rw [to_away x y r1 r2] at T1
      rw [to_abs x y r2] at T2
      generalize awayL x y = z at *
      have c1 := fun w => mkS_cat [47] y (by simp; omega) w
      rw [show [47] ++ y = 47 :: y from rfl] at c1
      have hlit : (⟨#[47]⟩ : ByteArray) = mkS [47] := rfl
      have e0 : ((mkS y).toList == (mkS y).toList) = true := by simp
      clear r1 r2 l3
      go_enter Tryd.func10, Tryd.ntmps10
      go_wp2_with (first
        | (go_at_call 26; with_reducible refine (W.out _).mono ?_; rintro e w1 ⟨rfl, h1⟩)
        | (go_at_call 17; with_reducible refine (R1.out _).mono ?_; rintro e w2 ⟨rfl, h2⟩)
        | (go_at_call 17; with_reducible refine (R2.out _).mono ?_; rintro e w3 ⟨rfl, h3⟩)
        | (go_at_call 24; with_reducible refine (A.out _).mono ?_; rintro e w4 ⟨rfl, h4⟩)
        | (go_at_call 23; with_reducible refine (T1.out _).mono ?_; rintro e w5 ⟨rfl, h5⟩)
        | (go_at_call 23; with_reducible refine (T2.out _).mono ?_; rintro e w6 ⟨rfl, h6⟩))
      go_ret
      exact ⟨by simp, h1.trans ((h2.trans ((h3.trans ((h4.trans ((h5.trans (h6.mono h5.size)).mono h4.size)).mono h3.size)).mono h2.size)).mono h1.size)⟩
    · rw [show rightB y = false by simpa using r2] at R2
      clear r1 r2
      go_enter Tryd.func10, Tryd.ntmps10
      go_wp2_with (first
        | (go_at_call 26; with_reducible refine (W.out _).mono ?_; rintro e w1 ⟨rfl, h1⟩)
        | (go_at_call 17; with_reducible refine (R1.out _).mono ?_; rintro e w2 ⟨rfl, h2⟩)
        | (go_at_call 17; with_reducible refine (R2.out _).mono ?_; rintro e w3 ⟨rfl, h3⟩))
      go_ret
      exact ⟨rfl, h1.trans ((h2.trans (h3.mono h2.size)).mono h1.size)⟩
  · rw [show rightB x = false by simpa using r1] at R1
    clear r1
    go_enter Tryd.func10, Tryd.ntmps10
    go_wp2_with (first
      | (go_at_call 26; with_reducible refine (W.out _).mono ?_; rintro e w1 ⟨rfl, h1⟩)
      | (go_at_call 17; with_reducible refine (R1.out _).mono ?_; rintro e w2 ⟨rfl, h2⟩))
    go_ret
    exact ⟨rfl, h1.trans (h2.mono h1.size)⟩
end Go.Proofs.YtlgfdlfijfcfbaaDoor
