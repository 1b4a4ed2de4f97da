/- glob.pieces. -/
import Derived.Test.YtcdoiadmnckccaaDoorLit
namespace Go.Proofs.YtcdoiadmnckccaaDoor
set_option linter.unusedVariables false
set_option linter.unusedSimpArgs false
open Go.RowKit Go.Joins
set_option maxRecDepth 100000

/-- What pieces tells. -/
def PiecesIs (n₀ : Nat) (s : List UInt8) (e : Ending) (w : World) : Prop := match patL s with
  | none => e = .returned (.tuple #[.slice none 0 0, .bool false])
  | some l => ∃ v, e = .returned (.tuple #[v, .bool true]) ∧ PcsAt w n₀ v l

set_option maxHeartbeats 500000 in
theorem pieces_any (s : List UInt8) (hs : s.length ≤ 1000) (w : World) : Calls Tryd.prog 9 #[.string (mkS s)] w fun e w' => PiecesIs w.heap.size s e w' ∧ Below w.heap.size w w' := by
  have Z := Lib.hid (fun (w : World) => zeroPc w)
  have FA := Lib.hid (fun (c : UInt8) (s : List UInt8) (w : World) => first_any c s w)
  obtain ⟨i0, hi0, hz0, hz1, hz2⟩ := info_parts infoPc3
  have HI := Lib.hid (And.intro hi0 (And.intro hz0 (And.intro hz1 hz2)))
  clear hi0 hz0 hz1 hz2
  go_enter Tryd.func9, Tryd.ntmps9
  go_wp2
  go_loopg [0, 4] s.length (fun g s0 s4 wr => ∃ (u : List UInt8) (l : List Pc), u.length = g ∧ s0 = .string (mkS u) ∧ PcsAt wr w.heap.size s4 l ∧ l.length + u.length ≤ s.length ∧ Below w.heap.size w wr ∧ patL s = (match patL u with | none => none | some m => some (l ++ m)))
  case atStart => exact ⟨s, [], rfl, rfl, ⟨rfl, Or.inl ⟨rfl, rfl⟩⟩, by simp, Below.refl _ _, by cases patL s <;> simp⟩
  case round =>
    obtain ⟨u, l, hg, rfl, hP, hl, hb, hE⟩ := hrel
    have HP := Lib.hid hP
    have HB := Lib.hid hb
    clear hP hb
    cases u with
    | nil =>
      rw [patL_nil] at hE
      simp only [List.append_nil] at hE
      have HE := Lib.hid hE
      clear hE
      have e0 := mkS_emp_nil
      go_wp2
      go_ret2
      refine ⟨?_, HB.out⟩
      unfold PiecesIs
      rw [HE.out]
      exact ⟨_, rfl, HP.out⟩
    | cons c r =>
      have e1 := mkS_emp (c :: r) (by simp)
      have F := Lib.hid (FA.out c r)
      unfold FirstIs pcV at F
      cases hf : firstL (c :: r) with
      | none =>
        rw [hf] at F
        rw [patL_none (by simp) hf] at hE
        have HE := Lib.hid hE
        clear hE hf
        generalize mkS (c :: r) = S at *
        go_wp2_with (first
          | (go_at_call 15; with_reducible refine (F.out _).mono ?_; rintro e w1 ⟨⟨p, x, rfl⟩, hb1⟩; have kn := IsPc.new w1 noPc)
          | refine wpList_alloc_row rfl _ rfl _ (Z.out _) ?_
          | refine wpList_store_row rfl _ _ _ rfl _ (pcA p) rfl rfl _ _ kn (infoPc _) (by rw [pcA_size, pcA_size]) (pcA_one _) ?_)
        (try simp only [Exit.inBlock, Exit.then])
        go_ret2
        refine ⟨?_, HB.out.trans ((hb1.mono HB.out.size).trans ((below_setRow (below_alloc1 w1 _) (Nat.le_refl _) _).mono (Nat.le_trans HB.out.size hb1.size)))⟩
        unfold PiecesIs
        rw [HE.out]
        rfl
      | some x =>
        obtain ⟨p, r2⟩ := x
        rw [hf] at F
        rw [patL_some hf] at hE
        have hlt := firstL_lt hf
        have HE := Lib.hid (show patL s = (match patL r2 with | none => none | some m => some ((l ++ [p]) ++ m)) by
          rw [hE]; cases patL r2 <;> simp)
        have NEXT := Lib.hid (show ∀ w1, Below wr.heap.size wr w1 → PcsAt ((w1.alloc (.cells (pcA noPc) 42)).setRow w1.heap.size (pcA p)) w.heap.size u4 l ∧ Below w.heap.size w ((w1.alloc (.cells (pcA noPc) 42)).setRow w1.heap.size (pcA p)) ∧ IsPc ((w1.alloc (.cells (pcA noPc) 42)).setRow w1.heap.size (pcA p)) w1.heap.size p from fun w1 h1 => by
          have h2 : Below w1.heap.size w1 ((w1.alloc (.cells (pcA noPc) 42)).setRow w1.heap.size (pcA p)) := below_setRow (below_alloc1 w1 _) (Nat.le_refl _) _
          have h3 := h1.trans (h2.mono h1.size)
          exact ⟨own_kept HP.out h3, HB.out.trans (h3.mono HB.out.size), (IsPc.new w1 noPc).setRow p⟩)
        clear hE hf HP
        obtain ⟨hi0, hz0, hz1, hz2⟩ := HI.out
        generalize mkS (c :: r) = S at *
        go_wp2_with (first
          | (go_at_call 15; with_reducible refine (F.out _).mono ?_; rintro e w1 ⟨rfl, hb1⟩; have kn := IsPc.new w1 noPc; have nx := Lib.hid (NEXT.out w1 hb1); clear hb1)
          | refine wpList_alloc_row rfl _ rfl _ (Z.out _) ?_
          | (refine wpList_store_row rfl _ _ _ rfl _ (pcA p) rfl rfl _ _ kn (infoPc _) (by rw [pcA_size, pcA_size]) (pcA_one _) ?_
             clear kn
             generalize w1.heap.size = b1 at nx ⊢
             generalize World.setRow _ b1 (pcA p) = W2 at nx ⊢
             have kp := nx.out.2.2)
          | refine wpList_load_row rfl _ _ rfl _ rfl _ _ _ _ kp Tryd.underlying42 rfl (infoPc _) ?_
          | (refine wpList_lit_pc rfl _ rfl p rfl ?_; have kl := Lib.hid (pc_cells (IsPc.new W2 p)))
          | (at_builtin; go_loud (refine wpList_append_own _ rfl _ _ 34 rfl w.heap.size 42 i0 (.agg (pcA noPc)) 257 257 Tryd.underlying34 hi0 hz0 hz1 hz2 (pcA_size _) (by decide) _ _ _ rfl (nx.out.1.alloc _) ⟨W2.heap.size, 0, none⟩ 1 1 (pcL p) rfl (pcL_length p) kl.out (pcL_one p) (by unfold maxLen; omega) (by omega) (by simp; have := nx.out.2.1.size; omega) ?_; intro v' w4 hown' hgrow _)))
        have HO := Lib.hid (show Below w.heap.size w w4 ∧ PcsAt w4 w.heap.size v' (l ++ [p]) from ⟨below_grown (nx.out.2.1.alloc nx.out.2.1.size (.cells (pcA p) 42)) (nx.out.1.alloc _) (Nat.le_refl _) hgrow, by unfold PcsAt; rw [pcCells_snoc, List.length_append]; exact hown'⟩)
        clear hown' hgrow
        go_roundg r2.length
        case measure => omega
        case rel => exact ⟨r2, l ++ [p], rfl, rfl, HO.out.2, by simp at hl hlt ⊢; omega, HO.out.1, HE.out⟩
end Go.Proofs.YtcdoiadmnckccaaDoor
