/- slices.Equal at equal lists of pairs; the law's fact on a record. -/
import Derived.Test.YtheiamidochooaaDoorCat
import Derived.Test.YtheiamidochooaaDoorEqp
import Derived.Test.YtheiamidochooaaDoorAtl
namespace Go.Proofs.YtheiamidochooaaDoor
open Go.RowKit Go.Joins
set_option linter.unusedVariables false

set_option maxHeartbeats 2000000 in
theorem equal_same (a1 a2 : Option Addr) (c1 c2 : Nat) (M : List Pr) (hl : M.length ≤ 1000000) (w : World) (h1 : PairsAt w a1 M) (h2 : PairsAt w a2 M) :
    Calls Tryd.prog 23 #[.slice a1 M.length c1, .slice a2 M.length c2] w fun e w' => e = .returned (.bool true) ∧ Below w.heap.size w w' := by
  rcases h1.cases with rfl | ⟨b1, o1, rfl, hlt1, hR1⟩
  · go_enter Tryd.func23, Tryd.ntmps23
    go_wp2
    refine wp_loop_rounds 1 ?_
    rw [rounds_succ]
    go_wp2
    go_ret
    exact ⟨rfl, Below.refl _ _⟩
  rcases h2.cases with rfl | ⟨b2, o2, rfl, hlt2, hR2⟩
  · go_enter Tryd.func23, Tryd.ntmps23
    go_wp2
    refine wp_loop_rounds 1 ?_
    rw [rounds_succ]
    go_wp2
    go_ret
    exact ⟨rfl, Below.refl _ _⟩
  have H1 := Lib.hid (show ∀ w', Below w.heap.size w w' → RowAt w' b1 o1 M from fun w' hb => RowAt.below hlt1 hR1 hb)
  have H2 := Lib.hid (show ∀ w', Below w.heap.size w w' → RowAt w' b2 o2 M from fun w' hb => RowAt.below hlt2 hR2 hb)
  clear h1 h2 hR1 hR2 hlt1 hlt2
  go_enter Tryd.func23, Tryd.ntmps23
  go_wp2
  go_loopg [13] M.length (fun g s5 wr => ∃ i : Nat, i ≤ M.length ∧ M.length - i ≤ g ∧ s5 = .int .i64 i ∧ Aside (Below w.heap.size w wr))
  case atStart => exact ⟨0, by omega, by omega, rfl, Below.refl _ _⟩
  case round =>
    obtain ⟨i, hi, hg, rfl, A⟩ := hrel
    by_cases hil : i < M.length
    · obtain ⟨p, hp⟩ : ∃ p, M[i]? = some p := ⟨_, List.getElem?_eq_getElem hil⟩
      obtain ⟨x1, x2⟩ := H1.out wr A.out i p hp
      obtain ⟨y1, y2⟩ := H2.out wr A.out i p hp
      have N1 : ∀ W, (binOp .neq 36 (prV p.1 p.2) (prV p.1 p.2)).run Tryd.prog W = .ok (.bool false) W := fun W => by
        have := pair_neq p.1 p.2 p.1 p.2 W
        simpa using this
      have N2 := fun op a b W => pair_guard op a b p.1 p.2 p.1 p.2 W
      have AB := Lib.hid A.out
      clear hp A
      go_wp2
      go_quiet (fail)
      go_wp2
      go_roundg (M.length - (i + 1))
      case measure => omega
      case rel => exact ⟨i + 1, by omega, by omega, by first | rfl | simp, AB.out.trans (below_draws _ _ _)⟩
    · go_wp2
      go_ret
      exact ⟨rfl, A.out⟩

theorem rec_path : recL [112, 97, 116, 104] [97] = [57, 32, 112, 97, 116, 104, 61, 97, 10] := by
  show Lib.decDigits 9 ++ restL [112, 97, 116, 104] [97] = _
  rw [dec_small 9 (by decide)]
  rfl
theorem rec_a : recL [97] [49, 50, 51, 52] = [57, 32, 97, 61, 49, 50, 51, 52, 10] := by
  show Lib.decDigits 9 ++ restL [97] [49, 50, 51, 52] = _
  rw [dec_small 9 (by decide)]
  rfl
theorem read_a : ReadIs [57, 32, 97, 61, 49, 50, 51, 52, 10] [([97], [49, 50, 51, 52])] false := by
  have h : recsL [([97], [49, 50, 51, 52])] = [57, 32, 97, 61, 49, 50, 51, 52, 10] := by unfold recsL; simp [rec_a]
  refine ⟨fun p hp => ?_, by rw [h]; exact List.prefix_refl _, fun _ => h, fun h => by cases h⟩
  rw [List.mem_singleton.1 hp]
  decide

set_option maxHeartbeats 1000000 in
theorem recorded_true (w : World) (hp : PowLaid w) (hA : AtoiLaid w) :
    Calls Tryd.prog 21 #[] w fun e w' => e = .returned (.bool true) ∧ Below w.heap.size w w' := by
  have R := Lib.hid (record_ok [112, 97, 116, 104] [97] (by decide) w hp)
  rw [rec_path] at R
  have HP := Lib.hid (show ∀ W, Below w.heap.size w W → PowLaid W ∧ AtoiLaid W from fun W h => ⟨hp.below h, hA.below h⟩)
  have D := Lib.hid (show ∀ W, Below w.heap.size w W → Calls Tryd.prog 12 #[.string { data := #[57, 32, 97, 61, 49, 50, 51, 52, 10] }] W fun e w' => (∃ g off cap, e = .returned (.tuple #[.slice (some ⟨g, off, none⟩) 1 cap, .nilIface]) ∧ w'.cell? ⟨g, off, none⟩ = some (.string { data := #[97] }) ∧ w'.cell? ⟨g, off + 1, none⟩ = some (.string { data := #[49, 50, 51, 52] })) ∧ Below W.heap.size W w' from fun W hb =>
    (read_any [57, 32, 97, 61, 49, 50, 51, 52, 10] (by decide) _ _ read_a W (hp.below hb) (hA.below hb)).mono fun e w' ⟨he, hw⟩ => ⟨by
      rcases he with ⟨_, _, ad, cap, _, h1, h2⟩ | ⟨pb, er, at_, ⟨_, h, _⟩ | ⟨h, _⟩, _⟩
      · obtain ⟨g, off, e1, _, e3, e4⟩ := h2 0 _ rfl
        subst e1
        have e3' : w'.cell? ⟨g, off, none⟩ = some (.string (mkS [97])) := by simpa using e3
        have e4' : w'.cell? ⟨g, off + 1, none⟩ = some (.string (mkS [49, 50, 51, 52])) := by simpa using e4
        exact ⟨g, off, cap, h1, e3', e4'⟩
      · cases h
      · simp at h, hw⟩)
  have N1 : ∀ W, (binOp .eql 36 (.agg #[.string { data := #[97] }, .string { data := #[49, 50, 51, 52] }]) (.agg #[.string { data := #[97] }, .string { data := #[49, 50, 51, 52] }])).run Tryd.prog W = .ok (.bool true) W := fun W => by
    have h : (binOp .eql 36 (prV [97] [49, 50, 51, 52]) (prV [97] [49, 50, 51, 52])).run Tryd.prog W = .ok (.bool true) W := by
      have := pair_eql [97] [49, 50, 51, 52] [97] [49, 50, 51, 52] W
      simpa using this
    exact h
  have N2 : ∀ op a b W, (eqGuard op 36 a b (.agg #[.string { data := #[97] }, .string { data := #[49, 50, 51, 52] }]) (.agg #[.string { data := #[97] }, .string { data := #[49, 50, 51, 52] }])).run Tryd.prog W = .ok () W := fun op a b W => pair_guard op a b [97] [49, 50, 51, 52] [97] [49, 50, 51, 52] W
  have E1 : (mkS [57, 32, 112, 97, 116, 104, 61, 97, 10]).toList = [57, 32, 112, 97, 116, 104, 61, 97, 10] := by rw [ByteArray.toList_eq, mkS_list]
  clear hp hA
  go_enter Tryd.func21, Tryd.ntmps21
  go_wp2_with (first
    | (go_at_call 16; refine R.out.mono ?_; rintro e w1 ⟨rfl, h1⟩)
    | (go_at_call 12; refine (D.out _ h1).mono ?_; rintro e w2 ⟨⟨g, off, cap, rfl, k1, k2⟩, h2⟩))
  go_ret
  exact ⟨by simp, h1.trans (h2.mono h1.size)⟩
end Go.Proofs.YtheiamidochooaaDoor
