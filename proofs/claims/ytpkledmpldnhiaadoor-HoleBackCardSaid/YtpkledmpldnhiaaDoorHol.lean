/- The keep's 'holed'. -/
import Derived.Test.YtpkledmpldnhiaaDoorFnd
import Derived.Test.YtpkledmpldnhiaaDoorPut
import Derived.Test.YtpkledmpldnhiaaDoorPeq
namespace Go.Proofs.YtpkledmpldnhiaaDoor
open Go.RowKit Go.Joins Go.Lib
set_option linter.unusedVariables false

abbrev hTxt : List UInt8 := [0, 0, 97, 98, 0, 0, 0, 0, 99]
abbrev hPcs : List Pc := [(2, 2), (8, 1)]
theorem hTxt_find : findF hTxt 2 = hPcs := by decide +kernel
theorem hTxt_put : putL [97, 98, 99] hPcs 9 = hTxt := by decide +kernel
theorem hPcs_right : mapRight hPcs 9 = true := by decide +kernel
theorem hPcs_size : sizeF 0 hPcs = 3 := by
  have h := sizeF_zero (size := 9) (by omega) (show rightF 9 (-1) hPcs = true by decide +kernel)
  rw [h]; rfl
/-- The literal's slice. -/
theorem run_lit_pieces (w : World) : (Instr.buildSlice 22 2 #[(0, pcV (2, 2)), (1, pcV (8, 1))]).run Tryd.prog w = .ok (.slice (some ⟨w.heap.size, 0, none⟩) 2 2) (w.alloc (.cells #[.int .i64 2, .int .i64 2, .int .i64 8, .int .i64 1] 47)) := by
  go_simp
theorem piecesAt_lit (w : World) : PiecesAt (w.alloc (.cells #[.int .i64 2, .int .i64 2, .int .i64 8, .int .i64 1] 47)) (some ⟨w.heap.size, 0, none⟩) hPcs := fun i p hi => by
  have hlt : w.heap.size < (w.alloc (.cells #[.int .i64 2, .int .i64 2, .int .i64 8, .int .i64 1] 47)).heap.size := by simp
  match i, hi with
  | 0, hi => simp at hi; subst hi; exact ⟨_, 0, rfl, hlt, by simp, by simp⟩
  | 1, hi => simp at hi; subst hi; exact ⟨_, 0, rfl, hlt, by simp, by simp⟩
  | i + 2, hi => simp at hi

set_option maxHeartbeats 2000000 in
theorem holed_true (w : World) : Calls Tryd.prog 15 #[] w fun e w' => e = .returned (.bool true) ∧ Below w.heap.size w w' := by
  have F := Lib.hid (show ∀ w, Calls Tryd.prog 8 #[.string { data := #[0, 0, 97, 98, 0, 0, 0, 0, 99] }, .int .i64 2] w fun e w' => (∃ ad cap, e = .returned (.tuple #[.slice ad 2 cap, .nilIface]) ∧ PiecesAt w' ad hPcs) ∧ Below w.heap.size w w' from fun w => by
    refine (find_any hTxt 2 (by simp) (by omega) (by omega) w).mono fun e w' ⟨h, hb⟩ => ⟨?_, hb⟩
    rw [hTxt_find] at h
    rcases h with ⟨_, h⟩ | ⟨h, _⟩
    · exact h
    · simp at h)
  have U := Lib.hid (show ∀ ad w, PiecesAt w ad hPcs → Calls Tryd.prog 14 #[.string { data := #[97, 98, 99] }, .slice ad 2 2, .int .i64 9] w fun e w' => e = .returned (.tuple #[.string { data := #[0, 0, 97, 98, 0, 0, 0, 0, 99] }, .nilIface]) ∧ Below w.heap.size w w' from fun ad w h => by
    have := put_ok [97, 98, 99] ad 2 hPcs 9 (by simp) (by unfold maxLen; simp) (fun p hp => by simp at hp; rcases hp with rfl | rfl <;> simp) hPcs_right (by rw [hPcs_size]; rfl) (by omega) w h
    rw [hTxt_put] at this
    exact this)
  have E := Lib.hid (show ∀ a1 c1 a2 W, PiecesAt W a1 hPcs → PiecesAt W a2 hPcs → Calls Tryd.prog 27 #[.slice a1 2 c1, .slice a2 2 2] W fun e w' => e = .returned (.bool true) ∧ Below W.heap.size W w' from fun a1 c1 a2 W h1 h2 => equal_same a1 a2 c1 2 hPcs (by simp) W h1 h2)
  have PL := Lib.hid (fun W => piecesAt_lit W)
  have hl := fun W => run_lit_pieces W
  go_enter Tryd.func15, Tryd.ntmps15
  go_wp2_with (first
    | (go_at_call 8; with_reducible refine (F.out _).mono ?_; rintro e w1 ⟨⟨ad1, cap1, rfl, hp1⟩, hb1⟩; have B1 := Lib.hid hb1; have P1 := Lib.hid hp1; clear hb1 hp1)
    | (go_at_call 14; with_reducible refine (U.out _ _ (PL.out _)).mono ?_; rintro e w2 ⟨rfl, hb2⟩; have B2 := Lib.hid (show Below w1.heap.size w1 w2 from ((Below.refl w1.heap.size w1).alloc (Nat.le_refl _) _).trans (hb2.mono (by simp))); clear hb2)
    | (go_at_call 27; with_reducible refine (E.out _ _ _ _ ((P1.out.below B2.out).below ((Below.refl w2.heap.size w2).alloc (Nat.le_refl _) _)) (PL.out _)).mono ?_; rintro e w3 ⟨rfl, hb3⟩; have B3 := Lib.hid (show Below w1.heap.size w1 w3 from (B2.out.alloc B2.out.size _).trans (hb3.mono (by have := B2.out.size; simp; omega))); clear hb3))
  go_ret
  exact ⟨by first | rfl | simp, B1.out.trans (B3.out.mono B1.out.size)⟩
end Go.Proofs.YtpkledmpldnhiaaDoor
