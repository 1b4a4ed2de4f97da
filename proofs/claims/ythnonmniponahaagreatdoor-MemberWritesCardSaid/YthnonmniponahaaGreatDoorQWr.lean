/- Wr: what the texts of the name hold, joined. -/
import Derived.Test.YthnonmniponahaaGreatDoorQWh
import Derived.Test.YthnonmniponahaaGreatDoorQHw
set_option linter.unusedSimpArgs false
set_option linter.unusedVariables false
section
/- The reference's whole: a header with a name and a link, and data behind it. -/
namespace Go.Proofs.YthnonmniponahaaGreatDoor
open Go.RowKit Go.Joins
set_option linter.unusedVariables false
set_option linter.unusedSimpArgs false

theorem refHeadWF_any (d : Nat) (hd : 1 ≤ d ∧ d ≤ 4) (r : RawL) (hk : r.kind ≠ 0) (hz : ∀ k, k < 5 → (tVal r k).length ≤ 1000000) (hi : intsL r) (w : World) :
    Calls Tryz.prog 169 #[.int .i64 (d : Int), rawV r] w fun e w' => e = .returned (.tuple #[.string (mkS (headWF d r).1), .int .i64 (headWF d r).2]) ∧ Below w.heap.size w w' := by
  refine (refWrite_all (d : Int) r ⟨hz 0 (by omega), hz 1 (by omega), hz 2 (by omega), hz 3 (by omega), hz 4 (by omega)⟩ ⟨hi.1, hi.2.1, hi.2.2.1, hi.2.2.2.1, hi.2.2.2.2.1, hi.2.2.2.2.2.1, hi.2.2.2.2.2.2⟩ w).mono fun e w' ⟨s, k, h, he, hb⟩ => ⟨?_, hb⟩
  rw [he, h.eq hd hk]
set_option maxRecDepth 100000 in
set_option maxHeartbeats 8000000 in
theorem refWhole_any (d : Nat) (hd : 1 ≤ d ∧ d ≤ 4) (r : RawL) (n link data : List UInt8) (hk : r.kind ≠ 0) (hn : n.length ≤ 1000000) (hl : link.length ≤ 1000000) (hu : r.user.length ≤ 1000000) (hg : r.group.length ≤ 1000000) (hdt : data.length ≤ 50000) (hi : intsL r) (w : World) :
    Calls Tryz.prog 89 #[.int .i64 (d : Int), rawV r, .string (mkS n), .string (mkS link), .string (mkS data)] w fun e w' => e = .returned (.tuple #[.string (mkS (wholeF d r n link data).1), Value.int .i64 (wholeF d r n link data).2]) ∧ Below w.heap.size w w' := by
  have CN := Lib.hid (fun w => refNamedF_any d r n hn w)
  obtain ⟨q1, q2, q3, q4, q5, q6⟩ := namedF_kind d r n
  have hW := wholeF_head d r n link data
  generalize hq : (namedF d r n).1 = q at *
  generalize hb : (namedF d r n).2 = b at *
  have CW := Lib.hid (fun w => refHeadWF_any d hd { q with link := link } (by show q.kind ≠ 0; rw [q1]; exact hk) (fun k hk => by
    obtain rfl | rfl | rfl | rfl | rfl : k = 0 ∨ k = 1 ∨ k = 2 ∨ k = 3 ∨ k = 4 := by omega
    · show q.name.length ≤ _; omega
    · show link.length ≤ _; omega
    · show q.user.length ≤ _; rw [q3]; omega
    · show q.group.length ≤ _; rw [q4]; omega
    · show q.front.length ≤ _; omega) (show intsL q from q2.2 hi) w)
  have CF := Lib.hid (fun w => refFill_any data w (by omega))
  have hwl := headWF_len d { q with link := link }
  have hw2 := headWF_two d { q with link := link }
  have hfl := fillL_len data
  have hR := Lib.hid (show (w.alloc (.cells (rawC r) 67)).heap[w.heap.size]? = some (.cells (rawC r) 67 (0, 0)) from heap_alloc_new w _)
  have hB := Lib.hid (below_alloc1 w (.cells (rawC r) 67))
  rw [hW]
  clear hW q1 q2 q3 q4 q5 q6 hq hb hi hk hd hu hg hn
  generalize headWF d { q with link := link } = S at *
  generalize hF : fillL data = F at *
  obtain ⟨s, k⟩ := S
  have hcat : ∀ w, (Op.stringOp .add (mkS s) (mkS F)).run Tryz.prog w = .ok (.string (mkS (s ++ F))) w := fun w => mkS_cat2 s F (by simp only at hwl; omega) w
  unfold rawC at hR hB
  unfold rawV at CN CW ⊢
  simp only at CW hw2
  cases b with
  | false =>
    rw [if_neg (by simp)]
    go_enter Tryz.func89, Tryz.ntmps89
    go_wp2_with (first
      | (go_at_call 168; (with_reducible refine (CN.out _).mono ?_); rintro e w2 ⟨rfl, h2⟩; have hB2 := Lib.hid (hB.out.trans (h2.mono hB.out.size)); have hR2 := Lib.hid ((h2.block _ (Array.getElem?_eq_some_iff.1 hR.out).1).trans hR.out); clear h2)
      | (refine wpList_store_row rfl _ _ _ rfl w.heap.size (rawC q) rfl rfl _ _ hR2.out (by kernel_rfl) rfl (rawC_one q) ?_; have hB3 := Lib.hid (below_setRow hB2.out (Nat.le_refl _) (rawC q)))
      | fail)
    go_ret2
    exact ⟨rfl, hB3.out⟩
  | true =>
    rw [if_pos rfl]
    simp only
    rcases hw2 with rfl | ⟨rfl, rfl⟩
    case' inl =>
      rw [if_pos rfl]
      simp only
    case' inr =>
      rw [if_neg (by decide)]
      simp only
    all_goals
      go_enter Tryz.func89, Tryz.ntmps89
      go_upto_region 5 with (first
        | (go_at_call 168; (with_reducible refine (CN.out _).mono ?_); rintro e w2 ⟨rfl, h2⟩; have hB2 := Lib.hid (hB.out.trans (h2.mono hB.out.size)); have hR2 := Lib.hid ((h2.block _ (Array.getElem?_eq_some_iff.1 hR.out).1).trans hR.out); clear h2)
        | (refine wpList_store_row rfl _ _ _ rfl w.heap.size (rawC q) rfl rfl _ _ hR2.out (by kernel_rfl) rfl (rawC_one q) ?_; have hB3 := Lib.hid (below_setRow hB2.out (Nat.le_refl _) (rawC q)); have hR3 := Lib.hid (setRow_heap w2 _ _ (rawC q) _ _ hR2.out); clear hR2 hB2; generalize w2.setRow w.heap.size (rawC q) = w3 at *; have k1 := row_cell hR3.out 1 _ rfl; have f1 := row_free hR3.out 1)
        | fail)
      have hS := setCell_row (i := 1) (v := .string (mkS link)) hR3.out
      have hB4 := Lib.hid (hS.2 _ (Nat.le_refl _) _ hB3.out)
      have hR4 := Lib.hid (show RawAt (w3.setCell ⟨w.heap.size, 1, none⟩ (.string (mkS link))) w.heap.size { q with link := link } from RawAt.of_row hS.1)
      clear hS k1 f1 hR3 hB3 hR hB
      generalize w3.setCell ⟨w.heap.size, 1, none⟩ (.string (mkS link)) = w4 at *
      obtain ⟨c0, c1, c2, c3, c4, c5, c6, c7, c8, c9, c10, c11, c12⟩ := id hR4.out
      go_wp2_with (first
        | (go_at_call 169; (with_reducible refine (CW.out _).mono ?_); rintro e w5 ⟨rfl, h5⟩; have hB5 := Lib.hid (hB4.out.trans (h5.mono hB4.out.size)); clear h5)
        | (go_at_call 163; (with_reducible refine (CF.out _).mono ?_); rintro e w6 ⟨rfl, h6⟩; have hB6 := Lib.hid (hB5.out.trans (h6.mono hB5.out.size)); clear h6)
        | fail)
      go_ret2
      exact ⟨rfl, by first | exact hB6.out | exact hB5.out⟩
end Go.Proofs.YthnonmniponahaaGreatDoor
end
