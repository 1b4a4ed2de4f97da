/- The keeps' law PathOrder: its walk, put together. -/
import Derived.Test.YtlgfdlfijfcfbaaDoorPor
import Derived.Test.YtlgfdlfijfcfbaaDoorCmp
import Derived.Test.YtlgfdlfijfcfbaaDoorEqs
import Derived.SizedLaws
namespace Go.Proofs.YtlgfdlfijfcfbaaDoor
open Go.RowKit Go.Joins
set_option linter.unusedVariables false

set_option maxHeartbeats 2000000 in
theorem por_long (x y z : List UInt8) (h : 200 < x.length ∨ (x.length ≤ 200 ∧ 200 < y.length) ∨ (x.length ≤ 200 ∧ y.length ≤ 200 ∧ 200 < z.length)) (w : World) :
    Calls Tryd.prog 11 #[.string (mkS x), .string (mkS y), .string (mkS z)] w fun e w' => e = .returned (.bool true) ∧ Below w.heap.size w w' := by
  have s1 := mkS_size x
  have s2 := mkS_size y
  have s3 := mkS_size z
  have W := Lib.hid (fun w => wayed_any w)
  rcases h with h | ⟨h1, h⟩ | ⟨h1, h2, h⟩
  · have hx' : decide ((200 : Int) < (x.length : Int)) = true := decide_eq_true (by omega)
    go_enter Tryd.func11, Tryd.ntmps11
    go_wp2_with (go_at_call 26; with_reducible refine (W.out _).mono ?_; rintro e wn ⟨rfl, hn⟩)
    go_ret
    exact ⟨by simp, hn⟩
  · have hx' : decide ((200 : Int) < (x.length : Int)) = false := decide_eq_false (by omega)
    have hy' : decide ((200 : Int) < (y.length : Int)) = true := decide_eq_true (by omega)
    go_enter Tryd.func11, Tryd.ntmps11
    go_wp2_with (go_at_call 26; with_reducible refine (W.out _).mono ?_; rintro e wn ⟨rfl, hn⟩)
    go_ret
    exact ⟨by simp, hn⟩
  · have hx' : decide ((200 : Int) < (x.length : Int)) = false := decide_eq_false (by omega)
    have hy' : decide ((200 : Int) < (y.length : Int)) = false := decide_eq_false (by omega)
    have hz' : decide ((200 : Int) < (z.length : Int)) = true := decide_eq_true (by omega)
    go_enter Tryd.func11, Tryd.ntmps11
    go_wp2_with (go_at_call 26; with_reducible refine (W.out _).mono ?_; rintro e wn ⟨rfl, hn⟩)
    go_ret
    exact ⟨by simp, hn⟩

set_option maxHeartbeats 1000000 in
theorem pathOrder_walk (a : ByteArray) (za : a.size ≤ reachBytes) (b : ByteArray) (zb : b.size ≤ reachBytes) (c : ByteArray) (zc : c.size ≤ reachBytes) (w : World) :
    Calls Tryd.prog 11 #[.string a, .string b, .string c] w fun e w' => e = .returned (.bool true) ∧ Below w.heap.size w w' := by
  obtain ⟨x, rfl⟩ : ∃ k, a = mkS k := ⟨_, (mkS_self a).symm⟩
  obtain ⟨y, rfl⟩ : ∃ k, b = mkS k := ⟨_, (mkS_self b).symm⟩
  obtain ⟨z, rfl⟩ : ∃ k, c = mkS k := ⟨_, (mkS_self c).symm⟩
  by_cases hx : x.length ≤ 200
  · by_cases hy : y.length ≤ 200
    · by_cases hz : z.length ≤ 200
      · have lx := parts_length_le x
        have ly := parts_length_le y
        have h1 := cmpL_three (partsL x) (partsL y)
        have h2 := cmpL_three (partsL y) (partsL z)
        have h3 := cmpL_three (partsL x) (partsL z)
        have h4 := cmpL_neg (partsL x) (partsL y)
        have h5 := cmpL_trans (partsL x) (partsL y) (partsL z)
        have hO : PorOk (cmpL (partsL x) (partsL y)) (cmpL (partsL y) (partsL z)) (cmpL (partsL x) (partsL z)) (rightB x) (rightB y) (rightB z) (inB y x) (inB z x) (decide (x = y)) (decide (partsL x = partsL y)) :=
          ⟨by rw [decide_eq_true_eq, cmpL_zero], h5, fun g1 g2 g3 g4 => ahead x y g1 g2 g3 (of_decide_eq_false g4), fun g1 g2 g3 g4 g5 g6 => together x y z g1 g2 g3 g4 g5 g6⟩
        by_cases hr : rightB x = true ∧ rightB y = true ∧ rightB z = true
        · exact por_all x y z (partsL x) (partsL y) (by omega) (by omega) _ _ _ _ _ _ _ _ _ _ _ hx hy hz (by omega) hr hO (sEq x y) (Lib.hid fun w => pCompare_any x y (by omega) (by omega) w) (Lib.hid fun w => pCompare_any y x (by omega) (by omega) w) (Lib.hid fun w => pCompare_any y z (by omega) (by omega) w) (Lib.hid fun w => pCompare_any x z (by omega) (by omega) w)
            (Lib.hid fun w => parts_any x (by omega) w) (Lib.hid fun w => parts_any y (by omega) w) (Lib.hid rfl) (Lib.hid fun w => right_any x w) (Lib.hid fun w => right_any y w) (Lib.hid fun w => right_any z w) (Lib.hid fun w => in_any y x (by omega) w) (Lib.hid fun w => in_any z x (by omega) w) w
        · exact por_some x y z (partsL x) (partsL y) (by omega) (by omega) _ _ _ _ _ _ _ _ _ _ _ hx hy hz (by omega) (by
            cases g1 : rightB x with
            | false => exact .inl rfl
            | true =>
              cases g2 : rightB y with
              | false => exact .inr (.inl ⟨rfl, rfl⟩)
              | true =>
                cases g3 : rightB z with
                | false => exact .inr (.inr ⟨rfl, rfl, rfl⟩)
                | true => exact absurd ⟨g1, g2, g3⟩ hr) hO (sEq x y) (Lib.hid fun w => pCompare_any x y (by omega) (by omega) w) (Lib.hid fun w => pCompare_any y x (by omega) (by omega) w) (Lib.hid fun w => pCompare_any y z (by omega) (by omega) w) (Lib.hid fun w => pCompare_any x z (by omega) (by omega) w)
            (Lib.hid fun w => parts_any x (by omega) w) (Lib.hid fun w => parts_any y (by omega) w) (Lib.hid rfl) (Lib.hid fun w => right_any x w) (Lib.hid fun w => right_any y w) (Lib.hid fun w => right_any z w) (Lib.hid fun w => in_any y x (by omega) w) (Lib.hid fun w => in_any z x (by omega) w) w
      · exact por_long x y z (.inr (.inr ⟨hx, hy, by omega⟩)) w
    · exact por_long x y z (.inr (.inl ⟨hx, by omega⟩)) w
  · exact por_long x y z (.inl (by omega)) w
end Go.Proofs.YtlgfdlfijfcfbaaDoor
