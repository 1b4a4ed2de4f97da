/- The law's sameMap. -/
import Derived.Test.YtpkledmpldnhiaaDoorPeq
namespace Go.Proofs.YtpkledmpldnhiaaDoor
open Go.RowKit Go.Joins
set_option linter.unusedVariables false

set_option maxHeartbeats 2000000 in
theorem same_map (a1 a2 : Option Addr) (c1 c2 : Nat) (M : List Pc) (hl : M.length ≤ 1000000) (w : World) (h1 : PiecesAt w a1 M) (h2 : PiecesAt w a2 M) :
    Calls Tryd.prog 10 #[.slice a1 M.length c1, .slice a2 M.length c2] w fun e w' => e = .returned (.bool true) ∧ Below w.heap.size w w' := by
  have H1 := Lib.hid (fun w' hb => PiecesAt.below (W' := w') h1 hb)
  have H2 := Lib.hid (fun w' hb => PiecesAt.below (W' := w') h2 hb)
  clear h1 h2
  go_enter Tryd.func10, Tryd.ntmps10
  go_wp2
  go_loopg [5] M.length (fun g s5 wr => ∃ i : Nat, i ≤ M.length ∧ M.length - i ≤ g ∧ s5 = .int .i64 i ∧ Aside (Below w.heap.size w wr))
  case atStart => exact ⟨0, by omega, by omega, rfl, Below.refl _ _⟩
  case round =>
    obtain ⟨i, hi, hg, rfl, A⟩ := hrel
    by_cases hil : i < M.length
    · obtain ⟨p, hp⟩ : ∃ p, M[i]? = some p := ⟨_, List.getElem?_eq_getElem hil⟩
      obtain ⟨b1, o1, e1, _, x1, x2⟩ := H1.out wr A.out i p hp
      obtain ⟨b2, o2, e2, _, y1, y2⟩ := H2.out wr A.out i p hp
      subst e1
      subst e2
      have N1 := fun W => piece_neq p W
      have N2 := fun op a b W => piece_guard op a b p W
      have AB := Lib.hid A.out
      clear hp A
      go_wp2
      go_quiet (fail)
      go_wp2
      go_roundg (M.length - (i + 1))
      case measure => omega
      case rel => exact ⟨i + 1, by omega, by omega, by first | rfl | simp, AB.out.trans (below_draws _ _ _)⟩
    · go_wp2
      go_ret
      exact ⟨rfl, A.out⟩
end Go.Proofs.YtpkledmpldnhiaaDoor
