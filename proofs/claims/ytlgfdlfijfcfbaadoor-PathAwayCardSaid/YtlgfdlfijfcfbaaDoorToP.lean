/- path.To. -/
import Derived.Test.YtlgfdlfijfcfbaaDoorCln
import Derived.Test.YtlgfdlfijfcfbaaDoorUp
namespace Go.Proofs.YtlgfdlfijfcfbaaDoor
open Go.RowKit Go.Joins
set_option linter.unusedVariables false

theorem prefix_slash (k : List UInt8) : decide ([(47 : UInt8)] <+: k) = decide (k.head? = some 47) := by
  rw [decide_eq_decide]
  cases k with
  | nil => simp
  | cons c r => simp; exact ⟨fun h => h.symm, fun h => h.symm⟩
theorem up_le (n : List UInt8) : (upL n).1.length ≤ n.length := by
  rcases last_cases n with ⟨hn, _⟩ | ⟨i, hi, hc, hn, _⟩
  · rw [upL_none n hn]; simp
  · have := upL_slash (n.take i) (n.drop (i + 1)) hn
    rw [take_slash n i hc] at this
    rw [this]; simp; omega

set_option maxHeartbeats 2000000 in
theorem to_any (n k : List UInt8) (hn : n.length ≤ 10000) (hk : k.length ≤ 10000) (w : World) :
    Calls Tryd.prog 23 #[.string (mkS n), .string (mkS k)] w fun e w' => e = .returned (txB (toL n k)) ∧ Below w.heap.size w w' := by
  have P := Lib.hid (fun w => hasPrefix_mk k [47] w)
  have hlit : (⟨#[47]⟩ : ByteArray) = mkS [47] := rfl
  rw [prefix_slash] at P
  by_cases h : k.head? = some 47
  · have C := Lib.hid (fun w => clean_any k (by omega) w)
    have HT := Lib.hid (show toL n k = cleanL k by unfold toL; rw [if_pos h])
    rw [decide_eq_true h] at P
    generalize (cleanL k) = c at *
    obtain ⟨c, ok⟩ := c
    clear h
    go_enter Tryd.func23, Tryd.ntmps23
    go_wp2_with (first
      | (go_at_call 39; with_reducible refine (P.out _).mono ?_; rintro e w' ⟨rfl, rfl⟩)
      | (go_at_call 16; with_reducible refine (C.out _).mono ?_; rintro e w1 ⟨rfl, h1⟩))
    go_ret2
    exact ⟨by rw [HT.out]; rfl, h1⟩
  · have U := Lib.hid (fun w => up_any n (by omega) w)
    have hul := up_le n
    have HT := Lib.hid (show toL n k = cleanL ((upL n).1 ++ 47 :: k) by unfold toL; rw [if_neg h])
    generalize (upL n).2 = y at *
    generalize (upL n).1 = x at *
    have c1 := fun w => mkS_cat x [47] (by simp; omega) w
    have c2 := fun w => mkS_cat (x ++ [47]) k (by simp; omega) w
    rw [show x ++ [47] ++ k = x ++ 47 :: k by simp] at c2
    have C := Lib.hid (fun w => clean_any (x ++ 47 :: k) (by simp; omega) w)
    rw [decide_eq_false h] at P
    generalize (cleanL (x ++ 47 :: k)) = c at *
    obtain ⟨c, ok⟩ := c
    clear h
    go_enter Tryd.func23, Tryd.ntmps23
    go_wp2_with (first
      | (go_at_call 39; with_reducible refine (P.out _).mono ?_; rintro e w' ⟨rfl, rfl⟩)
      | (go_at_call 40; with_reducible refine (U.out _).mono ?_; rintro e w1 ⟨rfl, h1⟩)
      | (go_at_call 16; with_reducible refine (C.out _).mono ?_; rintro e w2 ⟨rfl, h2⟩))
    go_ret2
    exact ⟨by rw [HT.out]; rfl, h1.trans (h2.mono h1.size)⟩
end Go.Proofs.YtlgfdlfijfcfbaaDoor
