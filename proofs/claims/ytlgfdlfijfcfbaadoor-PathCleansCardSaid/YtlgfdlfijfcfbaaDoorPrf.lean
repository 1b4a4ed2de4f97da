/- The reference's Parts; the law's sameTexts; the law PathParts' walk. -/
import Derived.Test.YtlgfdlfijfcfbaaDoorSpt
import Derived.Test.YtlgfdlfijfcfbaaDoorCmp
import Derived.SizedLaws
namespace Go.Proofs.YtlgfdlfijfcfbaaDoor
open Go.RowKit Go.Joins
set_option linter.unusedVariables false

theorem parts_take (l : List UInt8) (i : Nat) (x : List UInt8) (h : (piecesL l)[i]? = some x) : ((piecesL l).take (i + 1)).filter okPart = ((piecesL l).take i).filter okPart ++ (if okPart x then [x] else []) := by
  obtain ⟨h1, h2⟩ := List.getElem?_eq_some_iff.1 h
  rw [List.take_succ_eq_append_getElem h1, h2, List.filter_append]
  congr 1
  rw [List.filter_cons]
  split <;> simp

/-- Behind an append to a slice that owns its row, beyond n₀. -/
theorem below_app {W0 W w1 : World} {n₀ : Nat} {e : TypeId} {size : Nat} {v : Value} {k : Nat} {xs : List Value} {tmp : Obj} (hb : Below n₀ W0 W) (hn : n₀ ≤ W.heap.size) (hrow : W.ownsRow n₀ e size v k xs) (hgrow : (W.alloc tmp).grownBy w1 v.ownBlock) : Below n₀ W0 w1 := by
  refine (hb.alloc hn tmp).grown hgrow (by simp; omega) fun j ej => ?_
  rcases hrow.2 with ⟨rfl, _⟩ | ⟨g, cap, cur, rfl, hb2, _, _⟩
  · simp [Value.ownBlock] at ej
  · obtain rfl : g = j := by simpa [Value.ownBlock] using ej
    exact hb2
theorem own_mono {W : World} {n₀ n₁ : Nat} {e : TypeId} {size : Nat} {v : Value} {k : Nat} {xs : List Value} (h : W.ownsRow n₁ e size v k xs) (hn : n₀ ≤ n₁) : W.ownsRow n₀ e size v k xs := by
  refine ⟨h.1, ?_⟩
  rcases h.2 with h2 | ⟨g, cap, cur, h3, h4, h5⟩
  · exact .inl h2
  · exact .inr ⟨g, cap, cur, h3, Nat.le_trans hn h4, h5⟩

set_option maxHeartbeats 4000000 in
theorem refParts_any (l : List UInt8) (hl : l.length ≤ 100000) (w : World) :
    Calls Tryd.prog 14 #[.string (mkS l)] w fun e w' => (∃ v, e = .returned v ∧ w'.ownsRow w.heap.size 9 1 v (partsL l).length ((partsL l).map encS)) ∧ Below w.heap.size w w' := by
  obtain ⟨i0, hi, hz0, hz1, hz2⟩ := info_parts Tryd.infoStr
  have S := Lib.hid (split_any l (by omega) w)
  have SS := Lib.hid (split_sl l w)
  have hb0 : Below w.heap.size w (w.alloc (.cells ((piecesL l).map encS).toArray 9)) := (Below.refl _ w).alloc (Nat.le_refl _) _
  have HB0 := Lib.hid hb0
  have HT := Lib.hid (fun i x (h : (piecesL l)[i]? = some x) => parts_take l i x h)
  have HP := Lib.hid (show partsL l = (piecesL l).filter okPart from rfl)
  have hpl := pieces_length_le l
  have HLe : Hid (∀ i, (((piecesL l).take i).filter okPart).length ≤ i) := Lib.hid fun i => Nat.le_trans (List.length_filter_le _ _) (List.length_take_le _ _)
  obtain ⟨Q, hQ⟩ : ∃ Q, piecesL l = Q := ⟨_, rfl⟩
  obtain ⟨n, hn⟩ : ∃ n, Q.length = n := ⟨_, rfl⟩
  rw [hQ] at S SS HB0 HT HP hpl HLe
  rw [hn] at S SS hpl
  have HN := Lib.hid hn
  obtain ⟨W, hW⟩ : ∃ W, w.alloc (.cells (Q.map encS).toArray 9) = W := ⟨_, rfl⟩
  rw [hW] at S SS HB0
  have hlit0 : (⟨#[]⟩ : ByteArray) = mkS [] := rfl
  have hlit : (⟨#[46]⟩ : ByteArray) = mkS [46] := rfl
  clear hb0 hn hQ hW
  go_enter Tryd.func14, Tryd.ntmps14
  go_wp2_with (go_at_call 32; refine S.out.mono ?_; rintro e w' ⟨rfl, hw⟩; subst hw)
  rename World => W
  go_loopg [9, 3] n (fun g s9 s3 wr => ∃ i : Nat, i ≤ n ∧ n - i ≤ g ∧ s9 = .int .i64 (i : Int) ∧ Aside (Below W.heap.size W wr ∧ wr.ownsRow W.heap.size 9 1 s3 ((Q.take i).filter okPart).length (((Q.take i).filter okPart).map encS)))
  case atStart => exact ⟨0, by omega, by omega, rfl, Below.refl _ _, World.ownsRow_nil _ _ _ _⟩
  case round =>
    obtain ⟨i, hi1, hg, rfl, A⟩ := hrel
    have HA := Lib.hid A.out
    clear A
    by_cases hin : i < n
    · obtain ⟨x, hx⟩ : ∃ x, Q[i]? = some x := ⟨_, List.getElem?_eq_getElem (by rw [HN.out]; exact hin)⟩
      obtain ⟨b, o, he, hc, hlt⟩ := (SS.out.below HA.out.1).at i x hx
      injection he with he
      injection he with he1 he2
      subst he1; subst he2
      rw [Nat.zero_add] at hc
      have HT2 := Lib.hid (HT.out i x hx)
      have e1 := sEq x []
      have e2 := sEq x [46]
      have hle := HLe.out i
      clear hx
      by_cases hx0 : x = []
      · rw [decide_eq_true hx0] at e1
        have e1' : ((mkS x).toList != (mkS []).toList) = false := by rw [bne, e1]; rfl
        have HF := Lib.hid (show (Q.take (i + 1)).filter okPart = (Q.take i).filter okPart by rw [HT2.out, hx0]; simp [okPart])
        clear hx0 e2
        go_wp2
        go_roundg (n - (i + 1))
        case measure => omega
        case rel => exact ⟨i + 1, by omega, by omega, by go_num, HA.out.1, by rw [HF.out]; exact HA.out.2⟩
      · rw [decide_eq_false hx0] at e1
        have e1' : ((mkS x).toList != (mkS []).toList) = true := by rw [bne, e1]; rfl
        by_cases hx1 : x = [46]
        · rw [decide_eq_true hx1] at e2
          have e2' : ((mkS x).toList != (mkS [46]).toList) = false := by rw [bne, e2]; rfl
          have HF := Lib.hid (show (Q.take (i + 1)).filter okPart = (Q.take i).filter okPart by rw [HT2.out, hx1]; simp [okPart])
          clear hx0 hx1
          go_wp2
          go_roundg (n - (i + 1))
          case measure => omega
          case rel => exact ⟨i + 1, by omega, by omega, by go_num, HA.out.1, by rw [HF.out]; exact HA.out.2⟩
        · rw [decide_eq_false hx1] at e2
          have e2' : ((mkS x).toList != (mkS [46]).toList) = true := by rw [bne, e2]; rfl
          have HF := Lib.hid (show (Q.take (i + 1)).filter okPart = (Q.take i).filter okPart ++ [x] by rw [HT2.out, if_pos ((okPart_iff x).2 ⟨hx0, hx1⟩)])
          obtain ⟨D, hD⟩ : ∃ D, (Q.take i).filter okPart = D := ⟨_, rfl⟩
          obtain ⟨d, hd⟩ : ∃ d, D.length = d := ⟨_, rfl⟩
          have HO := Lib.hid (show wr.ownsRow W.heap.size 9 1 u3 d (D.map encS) by have := HA.out.2; rwa [hD, hd] at this)
          have hd3 : d ≤ i := by rw [← hd, ← hD]; exact hle
          rw [hD] at HF
          have HD := Lib.hid hd
          have hsz : W.heap.size ≤ wr.heap.size := HA.out.1.size
          clear hx0 hx1 hle hD hd HT2
          go_wp2_with (at_builtin; refine wpList_append_own _ rfl _ _ 23 rfl W.heap.size 9 i0 (.string ByteArray.empty) 1 16 Tryd.underlying23 hi hz0 hz1 hz2 rfl (by decide) _ _ _ rfl (HO.out.alloc _) ⟨wr.heap.size, 0, none⟩ 1 1 [.string (mkS x)] rfl rfl (cell_one_new _ _ _) (by simp [Value.oneCell']) (by unfold maxLen; omega) (by omega) (by simp; omega) ?_; intro v' w1 hown' hgrow _)
          go_roundg (n - (i + 1))
          case measure => omega
          case rel =>
            refine ⟨i + 1, by omega, by omega, by go_num, ?_, ?_⟩
            · exact below_app HA.out.1 HA.out.1.size HO.out hgrow
            · rw [HF.out, List.length_append, HD.out, List.map_append]; exact hown'
    · go_wp2
      go_ret
      obtain rfl : i = n := by omega
      refine ⟨⟨_, rfl, own_mono ?_ HB0.out.size⟩, HB0.out.trans (HA.out.1.mono HB0.out.size)⟩
      have := HA.out.2
      rw [← HN.out, List.take_length] at this
      rw [HP.out]
      exact this

set_option maxHeartbeats 2000000 in
theorem sameTexts_same (v1 v2 : Value) (X : List (List UInt8)) (hX : X.length ≤ 1000000) (w : World) (h1 : SlIs w v1 X) (h2 : SlIs w v2 X) :
    Calls Tryd.prog 12 #[v1, v2] w fun e w' => e = .returned (.bool true) ∧ Below w.heap.size w w' := by
  obtain ⟨a1, c1, rfl, hc1⟩ := h1.len
  obtain ⟨a2, c2, rfl, hc2⟩ := h2.len
  obtain ⟨n, hn⟩ : ∃ n, X.length = n := ⟨_, rfl⟩
  rw [hn] at h1 h2 hX
  rw [hn]
  have H1 := Lib.hid h1
  have H2 := Lib.hid h2
  have HN := Lib.hid hn
  clear h1 h2 hc1 hc2 hn
  go_enter Tryd.func12, Tryd.ntmps12
  go_wp2
  go_loopg [5] n (fun g s5 wr => ∃ i : Nat, i ≤ n ∧ n - i ≤ g ∧ s5 = .int .i64 i ∧ Aside (Below w.heap.size w wr))
  case atStart => exact ⟨0, by omega, by omega, rfl, Below.refl _ _⟩
  case round =>
    obtain ⟨i, hi, hg, rfl, A⟩ := hrel
    have AB := Lib.hid A.out
    clear A
    by_cases hil : i < n
    · obtain ⟨x, hx⟩ : ∃ x, X[i]? = some x := ⟨_, List.getElem?_eq_getElem (by rw [HN.out]; exact hil)⟩
      obtain ⟨b1, o1, rfl, d1, _⟩ := (H1.out.below AB.out).at i x hx
      obtain ⟨b2, o2, rfl, d2, _⟩ := (H2.out.below AB.out).at i x hx
      have e1 : ((mkS x).toList == (mkS x).toList) = true := by simp
      have e1' : ((mkS x).toList != (mkS x).toList) = false := by simp
      clear hx
      go_wp2
      go_quiet (fail)
      go_wp2
      go_roundg (n - (i + 1))
      case measure => omega
      case rel => exact ⟨i + 1, by omega, by omega, by go_num, AB.out.trans (below_draws _ _ _)⟩
    · go_wp2
      go_ret
      exact ⟨rfl, AB.out⟩

set_option maxHeartbeats 1000000 in
theorem pathParts_walk (a : ByteArray) (za : a.size ≤ reachBytes) (w : World) :
    Calls Tryd.prog 3 #[.string a] w fun e w' => e = .returned (.bool true) ∧ Below w.heap.size w w' := by
  obtain ⟨l, rfl⟩ : ∃ k, a = mkS k := ⟨_, (mkS_self a).symm⟩
  have s1 := mkS_size l
  rw [s1] at za
  have hr := reachBytes_lt
  by_cases h : (200 : Int) < (l.length : Int)
  · go_enter Tryd.func3, Tryd.ntmps3
    go_wp2
    go_ret
    exact ⟨rfl, Below.refl _ _⟩
  · have C1 := Lib.hid (fun w => parts_any l (by omega) w)
    have C2 := Lib.hid (fun w => refParts_any l (by omega) w)
    have hX := parts_length_le l
    generalize partsL l = X at *
    have C3 := Lib.hid (fun v1 v2 w h1 h2 => sameTexts_same v1 v2 X (by omega) w h1 h2)
    have hdec : decide ((200 : Int) < (l.length : Int)) = false := decide_eq_false h
    clear h
    go_enter Tryd.func3, Tryd.ntmps3
    go_wp2_with fail
    go_at_call 13
    refine (C1.out _).mono ?_
    rintro e w1 ⟨⟨v1, rfl, s1⟩, h1⟩
    have S1 := Lib.hid s1
    clear s1
    go_wp2_with fail
    go_at_call 14
    refine (C2.out _).mono ?_
    rintro e w2 ⟨⟨v2, rfl, s2⟩, h2⟩
    have S2 := Lib.hid (slIs_of_own s2)
    clear s2
    go_wp2_with fail
    go_at_call 12
    refine (C3.out _ _ _ (S1.out.below h2) S2.out).mono ?_
    rintro e w3 ⟨rfl, h3⟩
    go_wp2
    go_ret
    exact ⟨by simp, h1.trans ((h2.trans (h3.mono h2.size)).mono h1.size)⟩
end Go.Proofs.YtlgfdlfijfcfbaaDoor
