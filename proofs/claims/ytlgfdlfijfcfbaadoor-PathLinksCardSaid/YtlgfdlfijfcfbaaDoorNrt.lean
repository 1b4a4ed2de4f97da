/- The reference's NameRight; the law PathRights' walk. -/
import Derived.Test.YtlgfdlfijfcfbaaDoorRgp
import Derived.Test.YtlgfdlfijfcfbaaDoorSpt
import Derived.Test.YtlgfdlfijfcfbaaDoorCmp
import Derived.SizedLaws
namespace Go.Proofs.YtlgfdlfijfcfbaaDoor
open Go.RowKit Go.Joins
set_option linter.unusedVariables false

theorem index0 (l : List UInt8) (w : World) : Calls Tryd.prog 36 #[.string (mkS l), .int .u8 0] w fun e w' => e = .returned (.int .i64 (Lib.indexByte l 0)) ∧ w = w' := by
  have h := Tryd.strings_IndexByte (mkS l) 0 w
  rw [mkS_list] at h
  exact h.mono fun e w' ⟨he, hw⟩ => ⟨he, hw.symm⟩
theorem rightB_eq (l : List UInt8) (h0 : l ≠ []) (hl : l.length ≤ 120) (hz : (0 : UInt8) ∉ l) : rightB l = ((piecesL l).all goodPiece && decide ((piecesL l).length ≤ 12)) := by
  unfold rightB
  rw [Bool.eq_iff_iff, decide_eq_true_eq, Bool.and_eq_true, decide_eq_true_eq]
  exact ⟨fun h => h.2.2.2, fun h => ⟨h0, hl, hz, h⟩⟩

set_option maxHeartbeats 4000000 in
theorem nameRight_any (l : List UInt8) (w : World) :
    Calls Tryd.prog 18 #[.string (mkS l)] w fun e w' => e = .returned (.bool (rightB l)) ∧ Below w.heap.size w w' := by
  have s1 := mkS_size l
  have hlit0 : (⟨#[]⟩ : ByteArray) = mkS [] := rfl
  have e1 := sEq l []
  by_cases h0 : l = []
  · rw [decide_eq_true h0] at e1
    have HB := Lib.hid (show rightB l = false by rw [h0]; exact rightB_nil)
    clear h0
    go_enter Tryd.func18, Tryd.ntmps18
    go_wp2
    go_ret
    exact ⟨by rw [HB.out]; rfl, Below.refl _ _⟩
  rw [decide_eq_false h0] at e1
  by_cases hlen : (120 : Int) < (l.length : Int)
  · have HB := Lib.hid (rightB_no l (fun h => by have := h.2.1; omega))
    clear h0
    go_enter Tryd.func18, Tryd.ntmps18
    go_wp2
    go_ret
    exact ⟨by rw [HB.out]; rfl, Below.refl _ _⟩
  have hdec : decide ((120 : Int) < (l.length : Int)) = false := decide_eq_false hlen
  obtain ⟨ix, hix⟩ : ∃ ix, Lib.indexByte l 0 = ix := ⟨_, rfl⟩
  have C1 := Lib.hid (show ∀ w, Calls Tryd.prog 36 #[.string (mkS l), .int .u8 0] w fun e w' => e = .returned (.int .i64 ix) ∧ w = w' from fun w => by have := index0 l w; rwa [hix] at this)
  have hmem := indexByte_mem l 0
  have hge := Lib.indexByte_ge l 0
  rw [hix] at hmem hge
  by_cases hz : (0 : UInt8) ∈ l
  · have HB := Lib.hid (rightB_no l (fun h => h.2.2.1 hz))
    have hix0 : 0 ≤ ix := hmem.2 hz
    clear h0 hz hlen hmem hix
    go_enter Tryd.func18, Tryd.ntmps18
    go_wp2_with (go_at_call 36; with_reducible refine (C1.out _).mono ?_; rintro e w' ⟨rfl, rfl⟩)
    go_ret
    exact ⟨by rw [HB.out]; rfl, Below.refl _ _⟩
  have hix0 : ¬ 0 ≤ ix := fun h => hz (hmem.1 h)
  have HB := Lib.hid (rightB_eq l h0 (by omega) hz)
  have S := Lib.hid (split_any l (by omega) w)
  have SS := Lib.hid (split_sl l w)
  have HB0 := Lib.hid (show Below w.heap.size w (w.alloc (.cells ((piecesL l).map encS).toArray 9)) from (Below.refl _ w).alloc (Nat.le_refl _) _)
  have hpl := pieces_length_le l
  obtain ⟨Q, hQ⟩ : ∃ Q, piecesL l = Q := ⟨_, rfl⟩
  obtain ⟨n, hn⟩ : ∃ n, Q.length = n := ⟨_, rfl⟩
  rw [hQ] at S SS HB0 hpl HB
  rw [hn] at S SS hpl HB
  have HN := Lib.hid hn
  obtain ⟨W, hW⟩ : ∃ W, w.alloc (.cells (Q.map encS).toArray 9) = W := ⟨_, rfl⟩
  rw [hW] at S SS HB0
  have hlit : (⟨#[46]⟩ : ByteArray) = mkS [46] := rfl
  have hlit2 : (⟨#[46, 46]⟩ : ByteArray) = mkS [46, 46] := rfl
  have hn121 : n ≤ 121 := by omega
  clear hn hQ hW h0 hz hlen hmem hix
  go_enter Tryd.func18, Tryd.ntmps18
  go_wp2_with (first
    | (go_at_call 36; with_reducible refine (C1.out _).mono ?_; rintro e w' ⟨rfl, rfl⟩)
    | (go_at_call 32; refine S.out.mono ?_; rintro e w' ⟨rfl, hw⟩; subst hw))
  rename World => W
  go_loop [22] (fun s => ∃ i : Nat, i ≤ n ∧ s = .int .i64 (i : Int) ∧ Aside (∀ (j : Nat) x, j < i → Q[j]? = some x → goodPiece x = true)) (fun s => n - (intOf s).toNat)
  case atStart => exact ⟨0, by omega, rfl, fun j x h => by omega⟩
  case round =>
    obtain ⟨i, hi, rfl, A⟩ := hrel
    by_cases hin : i < n
    · obtain ⟨x, hx⟩ : ∃ x, Q[i]? = some x := ⟨_, List.getElem?_eq_getElem (by rw [HN.out]; exact hin)⟩
      obtain ⟨b, o, he, hc, hlt⟩ := SS.out.at i x hx
      injection he with he
      injection he with he1 he2
      subst he1; subst he2
      rw [Nat.zero_add] at hc
      have g1 := sEq x []
      have g2 := sEq x [46]
      have g3 := sEq x [46, 46]
      have hgp : goodPiece x = (!decide (x = []) && !decide (x = [46]) && !decide (x = [46, 46])) := by
        unfold goodPiece
        rw [Bool.eq_iff_iff]; simp
      have HA := Lib.hid A.out
      clear A
      by_cases hbad : goodPiece x = false
      · have HF := Lib.hid (show rightB l = false from by
          rw [HB.out]
          have : Q.all goodPiece = false := by
            rw [List.all_eq_false]
            exact ⟨x, List.mem_of_getElem? hx, by rw [hbad]; simp⟩
          rw [this]; rfl)
        rw [hbad] at hgp
        clear hx hbad
        by_cases h1 : x = []
        · rw [decide_eq_true h1] at g1
          clear h1 g2 g3 hgp
          go_wp2
          go_ret
          exact ⟨by rw [HF.out]; rfl, HB0.out⟩
        · rw [decide_eq_false h1] at g1
          by_cases h2 : x = [46]
          · rw [decide_eq_true h2] at g2
            clear h1 h2 g3 hgp
            go_wp2
            go_ret
            exact ⟨by rw [HF.out]; rfl, HB0.out⟩
          · rw [decide_eq_false h2] at g2
            have h3 : x = [46, 46] := by
              rw [decide_eq_false h1, decide_eq_false h2] at hgp
              simpa using hgp
            rw [decide_eq_true h3] at g3
            clear h1 h2 h3 hgp
            go_wp2
            go_ret
            exact ⟨by rw [HF.out]; rfl, HB0.out⟩
      · have hgood : goodPiece x = true := by simpa using hbad
        have HN2 := Lib.hid (show ∀ (j : Nat) y, j < i + 1 → Q[j]? = some y → goodPiece y = true from fun j y hj hy => by
          by_cases e : j = i
          · subst e; rw [hx] at hy; cases hy; exact hgood
          · exact HA.out j y (by omega) hy)
        rw [hgood] at hgp
        have hgs : x ≠ [] ∧ x ≠ [46] ∧ x ≠ [46, 46] := by simpa [and_assoc] using hgp.symm
        rw [decide_eq_false hgs.1] at g1
        rw [decide_eq_false hgs.2.1] at g2
        rw [decide_eq_false hgs.2.2] at g3
        clear hgs hgp hgood hbad hx
        go_wp2
        go_round
        case rel => exact ⟨i + 1, by omega, by go_num, HN2.out⟩
        case measure => simp [intOf]; omega
    · have HF := Lib.hid (show rightB l = decide ((n : Int) ≤ 12) from by
        rw [HB.out]
        have : Q.all goodPiece = true := by
          rw [List.all_eq_true]
          intro x hx
          obtain ⟨j, hj, he⟩ := List.mem_iff_getElem.1 hx
          exact A.out j x (by have := HN.out; omega) (by rw [← he]; exact List.getElem?_eq_getElem hj)
        rw [this, Bool.true_and, decide_eq_decide]
        omega)
      clear A
      go_wp2
      go_ret
      exact ⟨by rw [HF.out]; rfl, HB0.out⟩

set_option maxHeartbeats 1000000 in
theorem pathRights_walk (a : ByteArray) (za : a.size ≤ reachBytes) (w : World) :
    Calls Tryd.prog 5 #[.string a] w fun e w' => e = .returned (.bool true) ∧ Below w.heap.size w w' := by
  obtain ⟨l, rfl⟩ : ∃ k, a = mkS k := ⟨_, (mkS_self a).symm⟩
  have s1 := mkS_size l
  rw [s1] at za
  have hr := reachBytes_lt
  have C1 := Lib.hid (fun w => right_any l w)
  have C2 := Lib.hid (fun w => nameRight_any l w)
  generalize rightB l = r at *
  by_cases h : (200 : Int) < (l.length : Int)
  · go_enter Tryd.func5, Tryd.ntmps5
    go_wp2
    go_ret
    exact ⟨by simp, Below.refl _ _⟩
  · have hdec : decide ((200 : Int) < (l.length : Int)) = false := decide_eq_false h
    clear h
    go_enter Tryd.func5, Tryd.ntmps5
    go_wp2_with (first
      | (go_at_call 17; with_reducible refine (C1.out _).mono ?_; rintro e w1 ⟨rfl, h1⟩)
      | (go_at_call 18; with_reducible refine (C2.out _).mono ?_; rintro e w2 ⟨rfl, h2⟩))
    go_ret
    exact ⟨by simp, h1.trans (h2.mono h1.size)⟩
end Go.Proofs.YtlgfdlfijfcfbaaDoor
