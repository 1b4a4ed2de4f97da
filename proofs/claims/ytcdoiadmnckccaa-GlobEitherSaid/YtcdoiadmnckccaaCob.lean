/- strings.ContainsAny at '=' and newline, of any text. -/
import Derived.Test.YtcdoiadmnckccaaAnb
import Derived.Deep.LoopGhost
namespace Go.Proofs.Ytcdoiadmnckccaa
set_option linter.unusedVariables false
set_option linter.unusedSimpArgs false
open Go.RowKit Go.Joins

theorem below_iterAt {w wx : World} (h : Below w.heap.size w wx) (k : Nat) (hk : w.heap.size ≤ k) (s : ByteArray) (p : Nat) : Below w.heap.size w (wx.iterAt k s p) := by
  obtain ⟨h1, h2, h3, h4, h5⟩ := h
  refine ⟨h1, h2, h3, by simpa [World.iterAt] using h4, fun j hj => ?_⟩
  have := h5 j hj
  simp only [World.iterAt, Array.getElem?_setIfInBounds]
  rw [if_neg (by omega)]
  exact this

theorem anyTwo : ∀ l : List UInt8, decide (0 ≤ Lib.indexAny l [93, 92]) = hasBad l
  | [] => rfl
  | c :: l => by
    have ih := anyTwo l
    rw [hasBad_cons, ← ih, Lib.indexAny]
    have e : ([93, 92] : List UInt8).contains c = (c == 93 || c == 92) := by
      show (match c == 93 with | true => true | false => (match c == 92 with | true => true | false => false)) = _
      cases c == 93 <;> cases c == 92 <;> rfl
    rw [e]
    cases h : (c == 93 || c == 92)
    · have hg := Lib.indexAny_ge [93, 92] l
      simp only [Bool.false_eq_true, if_false, Bool.false_or]
      by_cases h1 : Lib.indexAny l [93, 92] = -1
      · rw [h1]; rfl
      · have h2 : (Lib.indexAny l [93, 92] == -1) = false := by simpa using h1
        rw [h2]
        simp only [Bool.false_eq_true, if_false]
        exact (decide_eq_true (show 0 ≤ Lib.indexAny l [93, 92] + 1 by omega)).trans (decide_eq_true (show 0 ≤ Lib.indexAny l [93, 92] by omega)).symm
    · rfl

theorem zero_set : ∀ w, (zeroValue 84).run Try.prog w = .ok (.agg (Array.replicate 256 (.bool false))) w := fun w => by kernel_rfl

set_option maxHeartbeats 2000000 in
theorem indexAny_short (l : List UInt8) (h8 : l.length ≤ 8) (w : World) :
    Calls Try.prog 39 #[.string (mkS l), .string ⟨#[93, 92]⟩] w fun e w' => (∃ v : Int, e = .returned (.int .i64 v) ∧ decide (0 ≤ v) = hasBad l) ∧ Below w.heap.size w w' := by
  have hsz := mkS_size l
  have h8z : ¬ (8 : Int) < (l.length : Int) := by omega
  go_enter Try.func39, Try.ntmps39
  go_wp2_with (go_at_call 54; refine (Try.strings_shouldUseASCIISet _ _).mono ?_; rintro e w' ⟨rfl, hw⟩; rw [hw, decide_eq_false h8z])
  go_loopg [9, 10] l.length (fun g _ _ wx => ∃ i : Nat, i ≤ l.length ∧ l.length - i ≤ g ∧ wx.heap[w.heap.size]? = some (.stringIter (mkS l) i) ∧ Aside (Below w.heap.size w wx ∧ badFrom l i = badFrom l 0))
  case atStart => exact ⟨0, by omega, by omega, World.iter_heap w (mkS l) 0, (show Aside _ from ⟨(Below.refl _ w).alloc (Nat.le_refl _) _, rfl⟩)⟩
  case round =>
    obtain ⟨i, hil, hig, hx, A⟩ := hrel
    by_cases hlt : i < l.length
    · have hnx := fun ty => Lib.run_next_any_at (P := Try.prog) wr w.heap.size (mkS l) i ty hx (by rw [mkS_size]; exact hlt)
      have R := Lib.hid (rune_at l i hlt)
      have hk := Lib.iterAt_heap wr w.heap.size (mkS l) i (i + (Utf8.decode (mkS l) i).2) hx
      have hb1 := below_iterAt A.out.1 w.heap.size (Nat.le_refl _) (mkS l) (i + (Utf8.decode (mkS l) i).2)
      have A2 : Aside (badFrom l i = badFrom l 0) := A.out.2
      clear A
      generalize wr.iterAt w.heap.size (mkS l) (i + (Utf8.decode (mkS l) i).2) = W1 at *
      generalize Utf8.decode (mkS l) i = q at *
      have HB : Aside (W1.heap[w.heap.size]? = some (.stringIter (mkS l) (i + q.2)) ∧ Below w.heap.size w W1) := ⟨hk, hb1⟩
      clear hk hb1 hx
      go_wp2_with (go_at_call 53; refine (R.out _).mono ?_; rintro e w' ⟨⟨v, rfl, hv⟩, hb2⟩; rcases hv with ⟨hv0, hv1⟩ | ⟨hv0, hv1, hv2, hv3⟩)
      · go_ret
        refine ⟨⟨_, rfl, ?_⟩, HB.out.2.trans (hb2.mono HB.out.2.size)⟩
        rw [decide_eq_true (show (0 : Int) ≤ (i : Int) by omega)]
        exact (hv1.symm.trans A2.out).trans rfl
      · go_roundg (l.length - (i + q.2))
        case measure => omega
        case rel =>
          refine ⟨i + q.2, by omega, by omega, ?_, (show Aside _ from ⟨HB.out.2.trans (hb2.mono HB.out.2.size), hv3.trans A2.out⟩)⟩
          have hlt := (Array.getElem?_eq_some_iff.1 HB.out.1).1
          rw [hb2.block _ hlt]; exact HB.out.1
    · have hnx := fun ty => Lib.run_next_end_at (P := Try.prog) wr w.heap.size (mkS l) i ty hx (by rw [mkS_size]; exact hlt)
      go_wp2
      go_ret
      refine ⟨⟨_, rfl, ?_⟩, A.out.1⟩
      have h0 : badFrom l i = hasBad l := A.out.2
      rw [← h0]
      unfold badFrom
      rw [List.drop_eq_nil_of_le (by omega)]
      rfl

theorem indexAny_any (l : List UInt8) (hl : l.length < 4294967281) (w : World) :
    Calls Try.prog 39 #[.string (mkS l), .string ⟨#[93, 92]⟩] w fun e w' => (∃ v : Int, e = .returned (.int .i64 v) ∧ decide (0 ≤ v) = hasBad l) ∧ Below w.heap.size w w' := by
  by_cases h8 : l.length ≤ 8
  · exact indexAny_short l h8 w
  · have h := Try.strings_IndexAny_long zero_set (mkS l) ⟨#[93, 92]⟩ w (by decide) (by rw [mkS_size]; omega) (by rw [mkS_size]; omega) (by decide) (fun j b hj => by
      rcases j with _ | _ | j
      · cases hj; decide
      · cases hj; decide
      · simp at hj)
    rw [mkS_list] at h
    exact h.mono fun e w' ⟨h1, h2⟩ => ⟨⟨_, h1, anyTwo l⟩, h2 ▸ below_alloc2 _ _ _⟩

theorem containsAny_any (l : List UInt8) (hl : l.length < 4294967281) (w : World) :
    Calls Try.prog 30 #[.string (mkS l), .string ⟨#[93, 92]⟩] w fun e w' => e = .returned (.bool (hasBad l)) ∧ Below w.heap.size w w' := by
  have H := Lib.hid (indexAny_any l hl)
  go_enter Try.func30, Try.ntmps30
  go_wp2_with (go_at_call 39; refine (H.out _).mono ?_; rintro e w' ⟨⟨v, rfl, hv⟩, hb⟩)
  go_ret
  rw [← hv]
  exact ⟨rfl, hb⟩
end Go.Proofs.Ytcdoiadmnckccaa
