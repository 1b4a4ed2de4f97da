/- glob.Right. -/
import Derived.Test.YtcdoiadmnckccaaMat
namespace Go.Proofs.Ytcdoiadmnckccaa
set_option linter.unusedVariables false
set_option linter.unusedSimpArgs false
open Go.RowKit Go.Joins
set_option maxRecDepth 100000
set_option maxHeartbeats 1000000 in
theorem right_any (s : List UInt8) (w : World) (hs : s.length ≤ 1000000) : Calls Try.prog 10 #[.string (mkS s)] w fun e w' => e = .returned (.bool (decide (s.length ≤ 120) && (patL s).isSome)) ∧ Below w.heap.size w w' := by
  have hsz := mkS_size s
  by_cases h : s.length ≤ 120
  · have hz : decide ((120 : Int) < ((mkS s).size : Int)) = false := decide_eq_false (by rw [hsz]; omega)
    rw [decide_eq_true h, Bool.true_and]
    have P := Lib.hid (fun (w : World) => pieces_any s (by omega) w)
    unfold PiecesIs at P
    clear hsz h hs
    cases hp : patL s with
    | none =>
      rw [hp] at P
      clear hp
      generalize mkS s = S at *
      go_enter Try.func10, Try.ntmps10
      go_wp2_with (go_at_call 21; with_reducible refine (P.out _).mono ?_; rintro e w1 ⟨rfl, hb1⟩)
      go_ret
      exact ⟨rfl, hb1⟩
    | some l =>
      rw [hp] at P
      clear hp
      generalize mkS s = S at *
      go_enter Try.func10, Try.ntmps10
      go_wp2_with (go_at_call 21; with_reducible refine (P.out _).mono ?_; rintro e w1 ⟨⟨v, rfl, _⟩, hb1⟩)
      go_ret
      exact ⟨rfl, hb1⟩
  · have hz : decide ((120 : Int) < ((mkS s).size : Int)) = true := decide_eq_true (by rw [hsz]; omega)
    rw [decide_eq_false h, Bool.false_and]
    clear hsz h hs
    generalize mkS s = S at *
    go_enter Try.func10, Try.ntmps10
    go_wp2
    go_ret
    exact ⟨rfl, Below.refl _ _⟩

end Go.Proofs.Ytcdoiadmnckccaa
