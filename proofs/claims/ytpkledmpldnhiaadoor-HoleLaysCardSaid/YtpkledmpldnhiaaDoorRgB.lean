/- The reference's MapRight. -/
import Derived.Test.YtpkledmpldnhiaaDoorPz
namespace Go.Proofs.YtpkledmpldnhiaaDoor
open Go.RowKit Go.Joins
set_option linter.unusedVariables false

theorem idx_piece (w : World) (b off n cap k : Nat) (h : k < n) : (Instr.indexAt 22 (.slice (some ⟨b, off, none⟩) n cap) (.int .i64 (k : Int))).run Tryd.prog w = .ok (.pointer (some ⟨b, off + k * 2, none⟩)) w := by
  have he : Tryd.prog.elem 22 = 47 := by kernel_rfl
  rw [run_indexAt_slice w 22 _ _ _ _ _ (by rw [he]; exact Tryd.underlying22), if_pos ⟨by omega, by omega⟩, he]
  have hs : (sizeOf 47).run Tryd.prog w = .ok 2 w := by rw [sizeOf]; go_simp; kernel_rfl
  rw [hs]
  simp [Result.andThen, Go.WideShapes.add_plain]
set_option maxHeartbeats 2000000 in
theorem rightB_any (ad : Option Addr) (cap : Nat) (l : List Pc) (size : Int) (hs : -9223372036854775808 ≤ size ∧ size ≤ 9223372036854775807) (hl : l.length ≤ maxLen) (hF : Fits l) (w : World) (hM : PiecesAt w ad l) :
    Calls Tryd.prog 22 #[.slice ad l.length cap, .int .i64 size] w fun e w' => e = .returned (.bool (mapRight l size)) ∧ Below w.heap.size w w' := by
  unfold maxLen at hl
  by_cases h0 : size < 0
  · rw [mapRight_false_size h0]
    clear hM hF
    go_enter Tryd.func22, Tryd.ntmps22
    go_wp2
    go_ret
    exact ⟨rfl, Below.refl _ _⟩
  by_cases h20 : (20 : Int) < (l.length : Int)
  · rw [mapRight_false_long (by omega)]
    clear hM hF
    go_enter Tryd.func22, Tryd.ntmps22
    go_wp2
    go_ret
    exact ⟨rfl, Below.refl _ _⟩
  rcases hM.cases with rfl | ⟨b, off, rfl, hlt, hR⟩
  · rw [mapRight_nil (by omega)]
    clear hM hF
    go_enter Tryd.func22, Tryd.ntmps22
    go_wp2
    refine wp_loop_rounds 1 ?_
    rw [rounds_succ]
    go_wp2
    go_ret
    exact ⟨rfl, Below.refl _ _⟩
  · clear hM
    have HR := Lib.hid (fun w' hb => RowAt.below (W' := w') hlt hR hb)
    have HF := Lib.hid hF
    clear hR hF hlt
    go_enter Tryd.func22, Tryd.ntmps22
    go_wp2
    go_loopg [16] l.length (fun g s8 wr => ∃ i : Nat, i ≤ l.length ∧ l.length - i ≤ g ∧ s8 = .int .i64 i ∧ Aside (Below w.heap.size w wr ∧ rightF size (-1) (l.take i) = true))
    case atStart => exact ⟨0, by omega, by omega, rfl, (show Aside _ from ⟨Below.refl _ _, rfl⟩)⟩
    case round =>
      obtain ⟨i, hi, hg, rfl, A⟩ := hrel
      by_cases hil : i < l.length
      · obtain ⟨p, hp⟩ : ∃ p, l[i]? = some p := ⟨_, List.getElem?_eq_getElem hil⟩
        obtain ⟨c1, c2⟩ := HR.out wr A.out.1 i p hp
        have hF := HF.out p (List.mem_of_getElem? hp)
        have hlow := (rightF_end _ _ A.out.2).1
        have HE := Lib.hid (rightF_take (size := size) (e := -1) hp)
        have HN := Lib.hid (mapRight_false_at (size := size) hp)
        have HQ := Lib.hid (fun q (hq : l[i - 1]? = some q) => HR.out (wr.alloc (.cells #[.int .i64 p.1, .int .i64 p.2] 47)) (A.out.1.alloc A.out.1.size _) (i - 1) q hq)
        have HP := Lib.hid hp
        clear hp
        by_cases h1 : p.1 < 0
        · have HX := Lib.hid (HN.out (Or.inl (by omega)))
          have b1 : decide (p.1 < 0) = true := decide_eq_true h1
          clear h1
          go_wp2
          go_quiet (fail)
          go_wp2
          go_ret
          exact ⟨by rw [HX.out]; rfl, (A.out.1.alloc A.out.1.size _).trans (below_draws _ _ _)⟩
        have b1 : decide (p.1 < 0) = false := decide_eq_false h1
        by_cases h2 : p.2 < 1
        · have HX := Lib.hid (HN.out (Or.inr (Or.inl h2)))
          have b2 : decide (p.2 < 1) = true := decide_eq_true h2
          clear h1 h2
          go_wp2
          go_quiet (fail)
          go_wp2
          go_ret
          exact ⟨by rw [HX.out]; rfl, (A.out.1.alloc A.out.1.size _).trans (below_draws _ _ _)⟩
        have b2 : decide (p.2 < 1) = false := decide_eq_false h2
        by_cases h3 : size < p.2
        · have HX := Lib.hid (HN.out (Or.inr (Or.inr (by omega))))
          have b3 : decide (size < p.2) = true := decide_eq_true h3
          clear h1 h2 h3
          go_wp2
          go_quiet (fail)
          go_wp2
          go_ret
          exact ⟨by rw [HX.out]; rfl, (A.out.1.alloc A.out.1.size _).trans (below_draws _ _ _)⟩
        have b3 : decide (size < p.2) = false := decide_eq_false h3
        have wq1 : IntKind.i64.wrap (size - p.2) = size - p.2 := IntWalk.i64_in _ ⟨by omega, by omega⟩
        by_cases h4 : size - p.2 < p.1
        · have HX := Lib.hid (HN.out (Or.inr (Or.inr (by omega))))
          have b4 : decide (size - p.2 < p.1) = true := decide_eq_true h4
          go_wp2
          go_quiet (fail)
          go_wp2
          go_ret
          exact ⟨by rw [HX.out]; rfl, (A.out.1.alloc A.out.1.size _).trans (below_draws _ _ _)⟩
        have b4 : decide (size - p.2 < p.1) = false := decide_eq_false h4
        by_cases hi0 : i = 0
        · have hE0 : endE (-1) (l.take i) = -1 := by rw [hi0]; rfl
          have HT := Lib.hid (HE.out.2 ⟨A.out.2, by rw [hE0]; omega, by omega, by omega⟩)
          have b5 : decide (0 < i) = false := decide_eq_false (by omega)
          clear hi0 hE0
          go_wp2
          go_quiet (fail)
          go_wp2
          go_roundg (l.length - (i + 1))
          case measure => omega
          case rel => exact ⟨i + 1, by omega, by omega, by first | rfl | simp, (show Aside _ from ⟨(A.out.1.alloc A.out.1.size _).trans (below_draws _ _ _), HT.out⟩)⟩
        · obtain ⟨k, rfl⟩ : ∃ k, i = k + 1 := ⟨i - 1, by omega⟩
          obtain ⟨q, hq⟩ : ∃ q, l[k]? = some q := ⟨_, List.getElem?_eq_getElem (by omega)⟩
          obtain ⟨d1, d2⟩ := HQ.out q (by rw [Nat.add_sub_cancel]; exact hq)
          rw [Nat.add_sub_cancel] at d1 d2
          have hE1 : endE (-1) (l.take (k + 1)) = q.1 + q.2 := endE_take hq (-1)
          have hqr : q.1 + q.2 ≤ size ∧ 0 ≤ q.1 ∧ 0 ≤ q.2 := by
            have h := (rightF_take (size := size) (e := -1) hq).1 A.out.2
            have := (rightF_end _ _ h.1).1
            omega
          have b5 : decide ((0 : Int) < (k : Int) + 1) = true := decide_eq_true (by omega)
          have hkl : k < l.length := by omega
          have wqk : IntKind.i64.wrap (k : Int) = (k : Int) := IntWalk.i64_in _ ⟨by omega, by omega⟩
          have hix := fun w' => idx_piece w' b off l.length cap k hkl
          have wq3 : IntKind.i64.wrap (q.1 + q.2) = q.1 + q.2 := IntWalk.i64_in _ ⟨by omega, by omega⟩
          clear hq hi0
          by_cases h5 : p.1 ≤ q.1 + q.2
          · have HX := Lib.hid (HN.out (Or.inl (by rw [hE1]; exact h5)))
            have b6 : decide (p.1 ≤ q.1 + q.2) = true := decide_eq_true h5
            clear hE1
            go_wp2
            go_quiet (fail)
            go_wp2
            go_ret
            exact ⟨by rw [HX.out]; rfl, (A.out.1.alloc A.out.1.size _).trans (below_draws _ _ _)⟩
          · have HT := Lib.hid (HE.out.2 ⟨A.out.2, by rw [hE1]; omega, by omega, by omega⟩)
            have b6 : decide (p.1 ≤ q.1 + q.2) = false := decide_eq_false h5
            clear hE1
            go_wp2
            go_quiet (fail)
            go_wp2
            go_roundg (l.length - (k + 1 + 1))
            case measure => omega
            case rel => exact ⟨k + 1 + 1, by omega, by omega, by first | rfl | simp, (show Aside _ from ⟨(A.out.1.alloc A.out.1.size _).trans (below_draws _ _ _), HT.out⟩)⟩
      · go_wp2
        go_ret
        have hr := A.out.2
        rw [List.take_of_length_le (by omega)] at hr
        rw [mapRight_true (by omega) (by omega) hr]
        exact ⟨rfl, A.out.1⟩
end Go.Proofs.YtpkledmpldnhiaaDoor
