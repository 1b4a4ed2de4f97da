/- The reference's Below and Away; the laws PathCompares' and PathLinks' walks. -/
import Derived.Test.YtlgfdlfijfcfbaaDoorClr
import Derived.Test.YtlgfdlfijfcfbaaDoorAwp
import Derived.Test.YtlgfdlfijfcfbaaDoorNrt
import Derived.SizedLaws
namespace Go.Proofs.YtlgfdlfijfcfbaaDoor
open Go.RowKit Go.Joins
set_option linter.unusedVariables false

theorem refParts_n (l : List UInt8) (hl : l.length ≤ 100000) (X : List (List UInt8)) (hX : partsL l = X) (n : Nat) (hn : X.length = n) (w : World) :
    Calls Tryd.prog 14 #[.string (mkS l)] w fun e w' => (∃ d c, e = .returned (.slice d n c) ∧ n ≤ c ∧ SlIs w' (.slice d n c) X) ∧ Below w.heap.size w w' := by
  refine (refParts_any l hl w).mono fun e w' ⟨⟨v, he, hs⟩, hb⟩ => ⟨?_, hb⟩
  have hs := slIs_of_own hs
  rw [hX] at hs
  obtain ⟨d, c, hv, hc⟩ := hs.len
  rw [hn] at hv hc
  subst hv
  exact ⟨d, c, he, hc, hs⟩

theorem below_neg (X Y : List (List UInt8)) (k : Nat) (x y : List UInt8) (h : cmpL X Y = cmpL (X.drop k) (Y.drop k)) (hx : X[k]? = some x) (hy : Y[k]? = some y) (hne : x ≠ y) : decide (cmpL X Y < 0) = decide (x < y) := by
  obtain ⟨g1, g2⟩ := List.getElem?_eq_some_iff.1 hx
  obtain ⟨g3, g4⟩ := List.getElem?_eq_some_iff.1 hy
  rw [h, List.drop_eq_getElem_cons g1, g2, List.drop_eq_getElem_cons g3, g4, cmpL, decide_eq_decide]
  by_cases h1 : x < y
  · simp [h1]
  · by_cases h2 : y < x
    · simp [h1, h2]
    · exact absurd (tlt_tri h1 h2) hne
theorem below_step (X Y : List (List UInt8)) (k : Nat) (x : List UInt8) (h : cmpL X Y = cmpL (X.drop k) (Y.drop k)) (hx : X[k]? = some x) (hy : Y[k]? = some x) : cmpL X Y = cmpL (X.drop (k + 1)) (Y.drop (k + 1)) := by
  obtain ⟨g1, g2⟩ := List.getElem?_eq_some_iff.1 hx
  obtain ⟨g3, g4⟩ := List.getElem?_eq_some_iff.1 hy
  rw [h, List.drop_eq_getElem_cons g1, g2, List.drop_eq_getElem_cons g3, g4, cmpL_eq]
theorem below_end (X Y : List (List UInt8)) (k : Nat) (h : cmpL X Y = cmpL (X.drop k) (Y.drop k)) (hk1 : k ≤ X.length) (hk2 : k ≤ Y.length) (he : ¬ (k < X.length ∧ k < Y.length)) : decide (cmpL X Y < 0) = decide (X.length < Y.length) := by
  rw [h, decide_eq_decide]
  by_cases h1 : k < X.length
  · have hy : Y.drop k = [] := List.drop_eq_nil_of_le (by omega)
    rw [hy, List.drop_eq_getElem_cons h1, cmpL]
    omega
  · have hx : X.drop k = [] := List.drop_eq_nil_of_le (by omega)
    rw [hx, cmpL_nil]
    by_cases h2 : Y.drop k = []
    · have := congrArg List.length h2
      rw [List.length_drop] at this
      rw [if_pos h2]
      simp at this
      omega
    · rw [if_neg h2]
      have : k < Y.length := by
        by_cases hh : k < Y.length
        · exact hh
        · exact absurd (List.drop_eq_nil_of_le (by omega)) h2
      omega

set_option maxRecDepth 100000 in
set_option maxHeartbeats 4000000 in
theorem refBelow_any (a b : List UInt8) (ha : a.length ≤ 10000) (hb : b.length ≤ 10000) (w : World) :
    Calls Tryd.prog 19 #[.string (mkS a), .string (mkS b)] w fun e w' => e = .returned (.bool (decide (cmpL (partsL a) (partsL b) < 0))) ∧ Below w.heap.size w w' := by
  have l1 := parts_length_le a
  have l2 := parts_length_le b
  have P1 := Lib.hid (fun n hn w => refParts_n a (by omega) (partsL a) rfl n hn w)
  have P2 := Lib.hid (fun n hn w => refParts_n b (by omega) (partsL b) rfl n hn w)
  generalize partsL a = X at *
  generalize partsL b = Y at *
  obtain ⟨nx, hnx⟩ : ∃ nx, X.length = nx := ⟨_, rfl⟩
  obtain ⟨ny, hny⟩ : ∃ ny, Y.length = ny := ⟨_, rfl⟩
  have P1 := Lib.hid (P1.out nx hnx)
  have P2 := Lib.hid (P2.out ny hny)
  have HL := Lib.hid (And.intro hnx hny)
  have hx1 : nx ≤ 10001 := by omega
  have hy1 : ny ≤ 10001 := by omega
  clear hnx hny
  go_enter Tryd.func19, Tryd.ntmps19
  go_wp2_with fail
  go_at_call 14
  refine (P1.out _).mono ?_
  rintro e w3 ⟨⟨d1, c1, rfl, hc1, s1⟩, h3⟩
  have S1 := Lib.hid s1
  clear s1
  go_wp2_with fail
  go_at_call 14
  refine (P2.out _).mono ?_
  rintro e w4 ⟨⟨d2, c2, rfl, hc2, s2⟩, h4⟩
  have S1' := Lib.hid (S1.out.below h4)
  have S2 := Lib.hid s2
  have HB := Lib.hid (show Below w.heap.size w w4 from h3.trans (h4.mono h3.size))
  clear s2 h3 h4 S1 P1 P2
  go_wp2
  go_loopg [7] nx (fun g s7 wr => ∃ k : Nat, k ≤ nx ∧ nx - k ≤ g ∧ s7 = .int .i64 (k : Int) ∧ Aside (k ≤ ny ∧ cmpL X Y = cmpL (X.drop k) (Y.drop k) ∧ Below w4.heap.size w4 wr))
  case atStart => exact ⟨0, by omega, by omega, rfl, Nat.zero_le _, rfl, Below.refl _ _⟩
  case round =>
    obtain ⟨k, hk, hg, rfl, A⟩ := hrel
    have HA := Lib.hid A.out
    have T1 := Lib.hid (S1'.out.below HA.out.2.2)
    have T2 := Lib.hid (S2.out.below HA.out.2.2)
    have hky := A.out.1
    clear A
    by_cases hkx : k < nx
    · by_cases hkn : k < ny
      · obtain ⟨x, hx⟩ : ∃ x, X[k]? = some x := ⟨_, List.getElem?_eq_getElem (by rw [HL.out.1]; omega)⟩
        obtain ⟨y, hy⟩ : ∃ y, Y[k]? = some y := ⟨_, List.getElem?_eq_getElem (by rw [HL.out.2]; omega)⟩
        obtain ⟨q1, o1, rfl, e1, _⟩ := T1.out.at k x hx
        obtain ⟨q2, o2, rfl, e2, _⟩ := T2.out.at k y hy
        have se := sEq x y
        by_cases hxy : x = y
        · have HN := Lib.hid (below_step X Y k x HA.out.2.1 hx (by rw [hy, hxy]))
          rw [decide_eq_true hxy] at se
          have se' : ((mkS x).toList != (mkS y).toList) = false := by rw [bne, se]; rfl
          clear hx hy hxy
          go_wp2
          go_quiet (fail)
          go_wp2
          go_roundg (nx - (k + 1))
          case measure => omega
          case rel => exact ⟨k + 1, by omega, by omega, by go_num, by omega, HN.out, HA.out.2.2.trans (below_draws _ _ _)⟩
        · have HF := Lib.hid (below_neg X Y k x y HA.out.2.1 hx hy hxy)
          rw [decide_eq_false hxy] at se
          have se' : ((mkS x).toList != (mkS y).toList) = true := by rw [bne, se]; rfl
          have hbl : Op.bytesLess (mkS x).toList (mkS y).toList = decide (x < y) := by rw [ByteArray.toList_eq, ByteArray.toList_eq, mkS_list, mkS_list, bytesLess_eq]
          generalize decide (x < y) = r at *
          clear hx hy hxy
          go_wp2
          go_quiet (fail)
          go_wp2
          go_quiet (fail)
          go_wp2
          go_ret
          exact ⟨by rw [HF.out]; rfl, HB.out.trans ((HA.out.2.2.trans ((below_draws _ _ _).trans (below_draws _ _ _))).mono HB.out.size)⟩
      · have HF := Lib.hid (show decide (cmpL X Y < 0) = decide (nx < ny) from by rw [below_end X Y k HA.out.2.1 (by rw [HL.out.1]; omega) (by rw [HL.out.2]; omega) (by rw [HL.out.1, HL.out.2]; omega), HL.out.1, HL.out.2])
        go_wp2
        go_ret
        exact ⟨by rw [HF.out]; rfl, HB.out.trans (HA.out.2.2.mono HB.out.size)⟩
    · have HF := Lib.hid (show decide (cmpL X Y < 0) = decide (nx < ny) from by rw [below_end X Y k HA.out.2.1 (by rw [HL.out.1]; omega) (by rw [HL.out.2]; omega) (by rw [HL.out.1, HL.out.2]; omega), HL.out.1, HL.out.2])
      go_wp2
      go_ret
      exact ⟨by rw [HF.out]; rfl, HB.out.trans (HA.out.2.2.mono HB.out.size)⟩

theorem sign_any (n : Int) (w : World) : Calls Tryd.prog 20 #[.int .i64 n] w fun e w' => e = .returned (.int .i64 (if n < 0 then -1 else if 0 < n then 1 else 0)) ∧ w = w' := by
  by_cases h1 : n < 0
  · rw [if_pos h1]
    go_enter Tryd.func20, Tryd.ntmps20
    go_wp2
    go_ret
    exact ⟨rfl, rfl⟩
  · rw [if_neg h1]
    by_cases h2 : 0 < n
    · rw [if_pos h2]
      go_enter Tryd.func20, Tryd.ntmps20
      go_wp2
      go_ret
      exact ⟨rfl, rfl⟩
    · rw [if_neg h2]
      go_enter Tryd.func20, Tryd.ntmps20
      go_wp2
      go_ret
      exact ⟨rfl, rfl⟩

set_option maxHeartbeats 2000000 in
theorem pathCompares_walk (a : ByteArray) (za : a.size ≤ reachBytes) (b : ByteArray) (zb : b.size ≤ reachBytes) (w : World) :
    Calls Tryd.prog 6 #[.string a, .string b] w fun e w' => e = .returned (.bool true) ∧ Below w.heap.size w w' := by
  obtain ⟨n, rfl⟩ : ∃ k, a = mkS k := ⟨_, (mkS_self a).symm⟩
  obtain ⟨k, rfl⟩ : ∃ k, b = mkS k := ⟨_, (mkS_self b).symm⟩
  have s1 := mkS_size n
  have s2 := mkS_size k
  rw [s1] at za
  rw [s2] at zb
  have hr := reachBytes_lt
  by_cases h : (400 : Int) < (n.length : Int) + (k.length : Int)
  · go_enter Tryd.func6, Tryd.ntmps6
    go_wp2
    go_ret
    exact ⟨rfl, Below.refl _ _⟩
  · have C1 := Lib.hid (fun w => pCompare_any n k (by omega) (by omega) w)
    have C2 := Lib.hid (fun w => refBelow_any n k (by omega) (by omega) w)
    have C3 := Lib.hid (fun w => refBelow_any k n (by omega) (by omega) w)
    rw [cmpL_neg (partsL n) (partsL k)] at C3
    have S := Lib.hid (fun n w => sign_any n w)
    have h3 := cmpL_three (partsL n) (partsL k)
    generalize cmpL (partsL n) (partsL k) = t at *
    rcases h3 with rfl | rfl | rfl
    all_goals
      go_enter Tryd.func6, Tryd.ntmps6
      go_wp2_with fail
      go_at_call 19
      refine (C2.out _).mono ?_
      rintro e w1 ⟨rfl, h1⟩
      go_wp2_with fail
      go_at_call 19
      refine (C3.out _).mono ?_
      rintro e w2 ⟨rfl, h2⟩
      go_wp2_with (first
        | (go_at_call 21; with_reducible refine (C1.out _).mono ?_; rintro e w3 ⟨rfl, h3⟩)
        | (go_at_call 20; with_reducible refine (S.out _ _).mono ?_; rintro e w4 ⟨rfl, rfl⟩))
      go_ret
      exact ⟨by simp, h1.trans ((h2.trans (h3.mono h2.size)).mono h1.size)⟩

theorem strip_stop (X Y : List (List UInt8)) (h : ¬ (1 < X.length ∧ 1 < Y.length ∧ X[0]? = Y[0]?)) : stripL X Y = (X, Y) := by
  match X, Y, h with
  | [], _, _ => simp [stripL]
  | [x], _, _ => simp [stripL]
  | x :: x' :: a, [], _ => simp [stripL]
  | x :: x' :: a, [y], _ => simp [stripL]
  | x :: x' :: a, y :: y' :: b, h =>
    have hne : x ≠ y := fun e => h ⟨by simp, by simp, by simp [e]⟩
    rw [stripL, if_neg hne]
theorem strip_step (X Y : List (List UInt8)) (h1 : 1 < X.length) (h2 : 1 < Y.length) (h3 : X[0]? = Y[0]?) : stripL X Y = stripL (X.drop 1) (Y.drop 1) := by
  match X, Y, h1, h2, h3 with
  | x :: x' :: a, y :: y' :: b, _, _, h3 =>
    have e : x = y := by simpa using h3
    rw [stripL, if_pos e]
    rfl

set_option maxRecDepth 100000 in
set_option maxHeartbeats 8000000 in
theorem refAway_any (a b : List UInt8) (ha : rightB a = true) (hb : rightB b = true) (w : World) :
    Calls Tryd.prog 25 #[.string (mkS a), .string (mkS b)] w fun e w' => e = .returned (.string (mkS (awayL a b))) ∧ Below w.heap.size w w' := by
  obtain ⟨-, a2, -, -, -, -, a7, a8⟩ := right_facts a ha
  obtain ⟨-, b2, -, -, -, -, b7, b8⟩ := right_facts b hb
  have P1 := Lib.hid (fun n hn w => refParts_n a (by omega) (partsL a) rfl n hn w)
  have P2 := Lib.hid (fun n hn w => refParts_n b (by omega) (partsL b) rfl n hn w)
  have hx1 : 1 ≤ (partsL a).length := List.length_pos_iff.2 a7
  have hy1 : 1 ≤ (partsL b).length := List.length_pos_iff.2 b7
  have hyw : wt (partsL b) ≤ 1000 := by have := wt_parts b; omega
  unfold awayL
  generalize partsL a = X at *
  generalize partsL b = Y at *
  obtain ⟨nx, hnx⟩ : ∃ nx, X.length = nx := ⟨_, rfl⟩
  obtain ⟨ny, hny⟩ : ∃ ny, Y.length = ny := ⟨_, rfl⟩
  have P1 := Lib.hid (P1.out nx hnx)
  have P2 := Lib.hid (P2.out ny hny)
  have HL := Lib.hid (And.intro hnx hny)
  have hAw := Lib.hid (strip_away2 X Y)
  rw [hnx] at hx1 a8
  rw [hny] at hy1 b8
  have hlit : (⟨#[46, 46, 47]⟩ : ByteArray) = mkS [46, 46, 47] := rfl
  have hlit0 : (⟨#[]⟩ : ByteArray) = mkS [] := rfl
  have hlit2 : (⟨#[47]⟩ : ByteArray) = mkS [47] := rfl
  clear ha hb a7 b7 hnx hny
  go_enter Tryd.func25, Tryd.ntmps25
  go_wp2_with fail
  go_at_call 14
  refine (P1.out _).mono ?_
  rintro e w3 ⟨⟨d1, c1, rfl, hc1, s1⟩, h3⟩
  have S1 := Lib.hid s1
  clear s1
  go_wp2_with fail
  go_at_call 14
  refine (P2.out _).mono ?_
  rintro e w4 ⟨⟨d2, c2, rfl, hc2, s2⟩, h4⟩
  have S1' := Lib.hid (S1.out.below h4)
  have S2 := Lib.hid s2
  have HB := Lib.hid (show Below w.heap.size w w4 from h3.trans (h4.mono h3.size))
  clear s2 h3 h4 S1 P1 P2
  go_wp2
  go_loopg [5, 6] nx (fun g s5 s6 wr => ∃ (k ra rb : Nat), k + ra = nx ∧ k + rb = ny ∧ 1 ≤ ra ∧ 1 ≤ rb ∧ ra ≤ g ∧ (∃ ad1 cap1, s5 = .slice ad1 ra cap1) ∧ (∃ ad2 cap2, s6 = .slice ad2 rb cap2) ∧ Aside (SlIs wr s5 (X.drop k) ∧ SlIs wr s6 (Y.drop k) ∧ stripL X Y = stripL (X.drop k) (Y.drop k) ∧ Below w4.heap.size w4 wr))
  case atStart => exact ⟨0, nx, ny, by omega, by omega, hx1, hy1, Nat.le_refl _, ⟨_, _, rfl⟩, ⟨_, _, rfl⟩, S1'.out, S2.out, rfl, Below.refl _ _⟩
  case round =>
    obtain ⟨k, ra, rb, hk1, hk2, hra, hrb, hg, ⟨ad1, cap1, rfl⟩, ⟨ad2, cap2, rfl⟩, A⟩ := hrel
    have HA := Lib.hid A.out
    have HK := Lib.hid (And.intro hk1 hk2)
    have ra12 : ra ≤ 12 := by omega
    have rb12 : rb ≤ 12 := by omega
    have hlX : (X.drop k).length = ra := by rw [List.length_drop, HL.out.1]; omega
    have hlY : (Y.drop k).length = rb := by rw [List.length_drop, HL.out.2]; omega
    have HLL := Lib.hid (And.intro hlX hlY)
    clear A hk1 hk2 hlX hlY S1' S2
    obtain ⟨x, hx⟩ : ∃ x, (X.drop k)[0]? = some x := ⟨_, List.getElem?_eq_getElem (by rw [HLL.out.1]; omega)⟩
    obtain ⟨y, hy⟩ : ∃ y, (Y.drop k)[0]? = some y := ⟨_, List.getElem?_eq_getElem (by rw [HLL.out.2]; omega)⟩
    obtain ⟨q1, o1, rfl, e1, _⟩ := HA.out.1.at 0 x hx
    obtain ⟨q2, o2, rfl, e2, _⟩ := HA.out.2.1.at 0 y hy
    rw [Nat.add_zero] at e1 e2
    have se := sEq x y
    obtain ⟨o3, c3, hs3, ht3⟩ := sl_onward_some q1 o1 ra cap1 1 (X.drop k) wr HA.out.1 (by omega)
    obtain ⟨o4, c4, hs4, ht4⟩ := sl_onward_some q2 o2 rb cap2 1 (Y.drop k) wr HA.out.2.1 (by omega)
    rw [show ((1 : Nat) : Int) = 1 from rfl] at hs3 hs4
    obtain ⟨ra', hra'⟩ : ∃ ra', ra - 1 = ra' := ⟨_, rfl⟩
    obtain ⟨rb', hrb'⟩ : ∃ rb', rb - 1 = rb' := ⟨_, rfl⟩
    rw [hra'] at hs3 ht3
    rw [hrb'] at hs4 ht4
    have qa1 : ra' + 1 ≤ ra := by omega
    have qa2 : ra ≤ ra' + 1 := by omega
    have qb1 : rb' + 1 ≤ rb := by omega
    have qb2 : rb ≤ rb' + 1 := by omega
    have HRA := Lib.hid hra'
    clear hra' hrb'
    have HT := Lib.hid (And.intro ht3 ht4)
    clear ht3 ht4
    by_cases hgo : 1 < ra ∧ 1 < rb ∧ x = y
    · obtain ⟨g1, g2, g3⟩ := hgo
      rw [decide_eq_true g3] at se
      have g1' : (1 : Int) < (ra : Int) := by omega
      have g2' : (1 : Int) < (rb : Int) := by omega
      have HN := Lib.hid (show stripL X Y = stripL (X.drop (k + 1)) (Y.drop (k + 1)) from by
        rw [HA.out.2.2.1, strip_step _ _ (by rw [HLL.out.1]; exact g1) (by rw [HLL.out.2]; exact g2) (by rw [hx, hy, g3]), List.drop_drop, List.drop_drop])
      have HS3 := Lib.hid (show SlIs wr (.slice (some ⟨q1, o3, none⟩) ra' c3) (X.drop (k + 1)) from by have := HT.out.1 wr HA.out.1; rwa [List.drop_drop] at this)
      have HS4 := Lib.hid (show SlIs wr (.slice (some ⟨q2, o4, none⟩) rb' c4) (Y.drop (k + 1)) from by have := HT.out.2 wr HA.out.2.1; rwa [List.drop_drop] at this)
      clear g3 hx hy
      go_wp2
      go_quiet (fail)
      go_wp2
      go_quiet (fail)
      go_wp2
      go_roundg ra'
      case measure => omega
      case rel => exact ⟨k + 1, ra', rb', by have := HK.out.1; omega, by have := HK.out.2; omega, by omega, by omega, Nat.le_refl _, ⟨_, _, rfl⟩, ⟨_, _, rfl⟩, HS3.out.below ((below_draws _ _ _).trans (below_draws _ _ _)), HS4.out.below ((below_draws _ _ _).trans (below_draws _ _ _)), HN.out, HA.out.2.2.2.trans ((below_draws _ _ _).trans (below_draws _ _ _))⟩
    · have HF := Lib.hid (show awayP X Y = upsL ra' ++ joinS (Y.drop k) from by
        rw [hAw.out, HA.out.2.2.1, strip_stop _ _ (fun h => hgo ⟨by rw [HLL.out.1] at h; exact h.1, by rw [HLL.out.2] at h; exact h.2.1, by have := h.2.2; rw [hx, hy] at this; exact Option.some.inj this⟩)]
        dsimp only
        rw [HLL.out.1, HRA.out])
      have hwk : wt (Y.drop k) ≤ 1000 := Nat.le_trans (wt_drop k Y) hyw
      have SY := Lib.hid (fun W (h : Below wr.heap.size wr W) => HA.out.2.1.below h)
      have HBr := Lib.hid HA.out.2.2.2
      have hcases : (1 < ra ∧ 1 < rb ∧ ¬ x = y) ∨ (1 < ra ∧ ¬ 1 < rb) ∨ ¬ 1 < ra := by
        by_cases h1 : 1 < ra
        · by_cases h2 : 1 < rb
          · exact .inl ⟨h1, h2, fun e => hgo ⟨h1, h2, e⟩⟩
          · exact .inr (.inl ⟨h1, h2⟩)
        · exact .inr (.inr h1)
      clear hgo hx hy HA HK HLL HT
      rename World => wb
      rcases hcases with ⟨g1, g2, g3⟩ | ⟨g1, g2⟩ | g1
      · rw [decide_eq_false g3] at se
        have g1' : (1 : Int) < (ra : Int) := by omega
        have g2' : (1 : Int) < (rb : Int) := by omega
        clear g3
        go_wp2
        go_quiet (fail)
        go_wp2
        go_loop [36, 7] (fun s36 s7 => ∃ i : Nat, i ≤ ra' ∧ s36 = .int .i64 (i : Int) ∧ s7 = .string (mkS (upsL i))) (fun s _ => ra' - (intOf s).toNat)
        case atStart => exact ⟨0, Nat.zero_le _, rfl, rfl⟩
        case round =>
          obtain ⟨i, hi, rfl, rfl⟩ := hrel
          by_cases hil : i < ra'
          · have hcat := fun w => mkS_cat (upsL i) [46, 46, 47] (by rw [upsL_length]; simp; omega) w
            rw [← upsL_snoc] at hcat
            go_wp2
            go_round
            case rel => exact ⟨i + 1, by omega, by go_num, rfl⟩
            case measure => simp [intOf]; omega
          · have hie : i = ra' := by omega
            subst hie
            have J := Lib.hid (show ∀ n, Calls Tryd.prog 33 #[.slice (some ⟨q2, o2, none⟩) rb cap2, .string (mkS [47])] (wb.drewN n) fun e w'' => e = .returned (.string (mkS (joinS (Y.drop k)))) ∧ Below (wb.drewN n).heap.size (wb.drewN n) w'' from fun n => join_mk _ (Y.drop k) (by omega) _ (SY.out _ (below_draws _ _ _)))
            have hcat := fun w => mkS_cat (upsL i) (joinS (Y.drop k)) (by have := joinS_wt (Y.drop k); rw [upsL_length]; omega) w
            go_wp2_with (go_at_call 33; refine (J.out _).mono ?_; rintro e w5 ⟨rfl, h5⟩)
            go_ret
            exact ⟨by rw [HF.out]; rfl, HB.out.trans ((HBr.out.trans (((below_draws _ wb _).trans h5).mono HBr.out.size)).mono HB.out.size)⟩
      · have g1' : (1 : Int) < (ra : Int) := by omega
        have g2' : decide ((1 : Int) < (rb : Int)) = false := decide_eq_false (by omega)
        have g2'' : decide (1 < rb) = false := decide_eq_false g2
        clear se
        go_wp2
        go_quiet (fail)
        go_wp2
        go_loop [36, 7] (fun s36 s7 => ∃ i : Nat, i ≤ ra' ∧ s36 = .int .i64 (i : Int) ∧ s7 = .string (mkS (upsL i))) (fun s _ => ra' - (intOf s).toNat)
        case atStart => exact ⟨0, Nat.zero_le _, rfl, rfl⟩
        case round =>
          obtain ⟨i, hi, rfl, rfl⟩ := hrel
          by_cases hil : i < ra'
          · have hcat := fun w => mkS_cat (upsL i) [46, 46, 47] (by rw [upsL_length]; simp; omega) w
            rw [← upsL_snoc] at hcat
            go_wp2
            go_round
            case rel => exact ⟨i + 1, by omega, by go_num, rfl⟩
            case measure => simp [intOf]; omega
          · have hie : i = ra' := by omega
            subst hie
            have J := Lib.hid (show ∀ n, Calls Tryd.prog 33 #[.slice (some ⟨q2, o2, none⟩) rb cap2, .string (mkS [47])] (wb.drewN n) fun e w'' => e = .returned (.string (mkS (joinS (Y.drop k)))) ∧ Below (wb.drewN n).heap.size (wb.drewN n) w'' from fun n => join_mk _ (Y.drop k) (by omega) _ (SY.out _ (below_draws _ _ _)))
            have hcat := fun w => mkS_cat (upsL i) (joinS (Y.drop k)) (by have := joinS_wt (Y.drop k); rw [upsL_length]; omega) w
            go_wp2_with (go_at_call 33; refine (J.out _).mono ?_; rintro e w5 ⟨rfl, h5⟩)
            go_ret
            exact ⟨by rw [HF.out]; rfl, HB.out.trans ((HBr.out.trans (((below_draws _ wb _).trans h5).mono HBr.out.size)).mono HB.out.size)⟩
      · have g1' : decide ((1 : Int) < (ra : Int)) = false := decide_eq_false (by omega)
        have g1'' : decide (1 < ra) = false := decide_eq_false g1
        clear se
        go_wp2
        go_quiet (fail)
        go_wp2
        go_loop [36, 7] (fun s36 s7 => ∃ i : Nat, i ≤ ra' ∧ s36 = .int .i64 (i : Int) ∧ s7 = .string (mkS (upsL i))) (fun s _ => ra' - (intOf s).toNat)
        case atStart => exact ⟨0, Nat.zero_le _, rfl, rfl⟩
        case round =>
          obtain ⟨i, hi, rfl, rfl⟩ := hrel
          by_cases hil : i < ra'
          · have hcat := fun w => mkS_cat (upsL i) [46, 46, 47] (by rw [upsL_length]; simp; omega) w
            rw [← upsL_snoc] at hcat
            go_wp2
            go_round
            case rel => exact ⟨i + 1, by omega, by go_num, rfl⟩
            case measure => simp [intOf]; omega
          · have hie : i = ra' := by omega
            subst hie
            have J := Lib.hid (show ∀ n, Calls Tryd.prog 33 #[.slice (some ⟨q2, o2, none⟩) rb cap2, .string (mkS [47])] (wb.drewN n) fun e w'' => e = .returned (.string (mkS (joinS (Y.drop k)))) ∧ Below (wb.drewN n).heap.size (wb.drewN n) w'' from fun n => join_mk _ (Y.drop k) (by omega) _ (SY.out _ (below_draws _ _ _)))
            have hcat := fun w => mkS_cat (upsL i) (joinS (Y.drop k)) (by have := joinS_wt (Y.drop k); rw [upsL_length]; omega) w
            go_wp2_with (go_at_call 33; refine (J.out _).mono ?_; rintro e w5 ⟨rfl, h5⟩)
            go_ret
            exact ⟨by rw [HF.out]; rfl, HB.out.trans ((HBr.out.trans (((below_draws _ wb _).trans h5).mono HBr.out.size)).mono HB.out.size)⟩

set_option maxHeartbeats 2000000 in
theorem pathLinks_walk (a : ByteArray) (za : a.size ≤ reachBytes) (b : ByteArray) (zb : b.size ≤ reachBytes) (w : World) :
    Calls Tryd.prog 8 #[.string a, .string b] w fun e w' => e = .returned (.bool true) ∧ Below w.heap.size w w' := by
  obtain ⟨n, rfl⟩ : ∃ k, a = mkS k := ⟨_, (mkS_self a).symm⟩
  obtain ⟨k, rfl⟩ : ∃ k, b = mkS k := ⟨_, (mkS_self b).symm⟩
  have s1 := mkS_size n
  have s2 := mkS_size k
  rw [s1] at za
  rw [s2] at zb
  have hr := reachBytes_lt
  by_cases h : (400 : Int) < (n.length : Int) + (k.length : Int)
  · go_enter Tryd.func8, Tryd.ntmps8
    go_wp2
    go_ret
    exact ⟨by simp, Below.refl _ _⟩
  have hdec : decide ((400 : Int) < (n.length : Int) + (k.length : Int)) = false := decide_eq_false h
  have N1 := Lib.hid (fun w => nameRight_any n w)
  have N2 := Lib.hid (fun w => nameRight_any k w)
  by_cases r1 : rightB n = true
  · rw [r1] at N1
    by_cases r2 : rightB k = true
    · rw [r2] at N2
      have A1 := Lib.hid (fun w => away_any n k r1 r2 w)
      have A2 := Lib.hid (fun w => refAway_any n k r1 r2 w)
      generalize awayL n k = z at *
      clear h r1 r2
      go_enter Tryd.func8, Tryd.ntmps8
      go_wp2_with fail
      go_at_call 18
      refine (N1.out _).mono ?_
      rintro e w1 ⟨rfl, h1⟩
      go_wp2_with fail
      go_at_call 18
      refine (N2.out _).mono ?_
      rintro e w2 ⟨rfl, h2⟩
      go_wp2_with (first
        | (go_at_call 24; with_reducible refine (A1.out _).mono ?_; rintro e w3 ⟨rfl, h3⟩)
        | (go_at_call 25; with_reducible refine (A2.out _).mono ?_; rintro e w4 ⟨rfl, h4⟩))
      go_ret
      exact ⟨by simp, h1.trans ((h2.trans ((h3.trans (h4.mono h3.size)).mono h2.size)).mono h1.size)⟩
    · rw [show rightB k = false by simpa using r2] at N2
      clear h r1 r2
      go_enter Tryd.func8, Tryd.ntmps8
      go_wp2_with fail
      go_at_call 18
      refine (N1.out _).mono ?_
      rintro e w1 ⟨rfl, h1⟩
      go_wp2_with fail
      go_at_call 18
      refine (N2.out _).mono ?_
      rintro e w2 ⟨rfl, h2⟩
      go_wp2
      go_ret
      exact ⟨by simp, h1.trans (h2.mono h1.size)⟩
  · rw [show rightB n = false by simpa using r1] at N1
    clear h r1
    go_enter Tryd.func8, Tryd.ntmps8
    go_wp2_with fail
    go_at_call 18
    refine (N1.out _).mono ?_
    rintro e w1 ⟨rfl, h1⟩
    go_wp2
    go_ret
    exact ⟨by simp, h1⟩
end Go.Proofs.YtlgfdlfijfcfbaaDoor
