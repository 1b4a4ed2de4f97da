/- slices.Compare at texts; path.Compare. -/
import Derived.Test.YtlgfdlfijfcfbaaDoorPtn
import Derived.Sort.Walk0
import Derived.Laws.Cover1
namespace Go.Proofs.YtlgfdlfijfcfbaaDoor
open Go.RowKit Go.Joins
set_option linter.unusedVariables false

theorem isNaN_any (x : List UInt8) (w : World) : Calls Tryd.prog 62 #[.string (mkS x)] w fun e w' => e = .returned (.bool false) ∧ w = w' := by
  have e1 : ((mkS x).toList != (mkS x).toList) = false := by simp
  go_enter Tryd.func62, Tryd.ntmps62
  go_wp2
  go_ret
  exact ⟨rfl, rfl⟩
/-- How two texts compare. -/
def cmpT (x y : List UInt8) : Int := if x < y then -1 else if y < x then 1 else 0
theorem cmpT_any (x y : List UInt8) (w : World) : Calls Tryd.prog 50 #[.string (mkS x), .string (mkS y)] w fun e w' => e = .returned (.int .i64 (cmpT x y)) ∧ w = w' := by
  have N1 := Lib.hid (fun w => isNaN_any x w)
  have N2 := Lib.hid (fun w => isNaN_any y w)
  have t1 : (mkS x).toList = x := by rw [ByteArray.toList_eq, mkS_list]
  have t2 : (mkS y).toList = y := by rw [ByteArray.toList_eq, mkS_list]
  have HC := Lib.hid (show cmpT x y = if x < y then -1 else if y < x then 1 else 0 from rfl)
  by_cases h1 : x < y
  · have HC2 := Lib.hid (show cmpT x y = -1 by rw [HC.out, if_pos h1])
    have l1 : Op.bytesLess x y = true := by rw [bytesLess_eq]; exact decide_eq_true h1
    clear h1
    go_enter Tryd.func50, Tryd.ntmps50
    go_wp2_with (go_at_call 62; with_reducible (first | refine (N1.out _).mono ?_ | refine (N2.out _).mono ?_); rintro e w' ⟨rfl, rfl⟩)
    go_ret
    exact ⟨by rw [HC2.out]; rfl, rfl⟩
  · have l1 : Op.bytesLess x y = false := by rw [bytesLess_eq]; exact decide_eq_false h1
    by_cases h2 : y < x
    · have HC2 := Lib.hid (show cmpT x y = 1 by rw [HC.out, if_neg h1, if_pos h2])
      have l2 : (x == y) = false := by rw [beq_eq_false_iff_ne]; intro e; subst e; exact tlt_irrefl x h2
      clear h1 h2
      go_enter Tryd.func50, Tryd.ntmps50
      go_wp2_with (go_at_call 62; with_reducible (first | refine (N1.out _).mono ?_ | refine (N2.out _).mono ?_); rintro e w' ⟨rfl, rfl⟩)
      go_ret
      exact ⟨by rw [HC2.out]; rfl, rfl⟩
    · have HC2 := Lib.hid (show cmpT x y = 0 by rw [HC.out, if_neg h1, if_neg h2])
      have l2 : (x == y) = true := by rw [tlt_tri h1 h2]; simp
      clear h1 h2
      go_enter Tryd.func50, Tryd.ntmps50
      go_wp2_with (go_at_call 62; with_reducible (first | refine (N1.out _).mono ?_ | refine (N2.out _).mono ?_); rintro e w' ⟨rfl, rfl⟩)
      go_ret
      exact ⟨by rw [HC2.out]; rfl, rfl⟩

theorem cmpL_cons (x y : List UInt8) (a b : List (List UInt8)) : cmpL (x :: a) (y :: b) = if cmpT x y = 0 then cmpL a b else cmpT x y := by
  rw [cmpL]
  unfold cmpT
  by_cases h1 : x < y
  · simp [h1]
  · by_cases h2 : y < x
    · simp [h1, h2]
    · simp [h1, h2]
theorem cmpL_nil (b : List (List UInt8)) : cmpL [] b = if b = [] then 0 else -1 := by cases b <;> simp [cmpL]
theorem cmpL_nil2 (x : List UInt8) (a : List (List UInt8)) : cmpL (x :: a) [] = 1 := rfl

set_option maxHeartbeats 2000000 in
theorem compare_any (v1 v2 : Value) (X Y : List (List UInt8)) (hX : X.length ≤ 1000000) (hY : Y.length ≤ 1000000) (w : World) (h1 : SlIs w v1 X) (h2 : SlIs w v2 Y) :
    Calls Tryd.prog 37 #[v1, v2] w fun e w' => e = .returned (.int .i64 (cmpL X Y)) ∧ w = w' := by
  obtain ⟨a1, c1, rfl, hc1⟩ := h1.len
  obtain ⟨a2, c2, rfl, hc2⟩ := h2.len
  have H1 := Lib.hid h1
  have H2 := Lib.hid h2
  clear h1 h2
  go_enter Tryd.func37, Tryd.ntmps37
  go_wp2
  go_loop [11] (fun s => ∃ k : Nat, k ≤ X.length ∧ s = .int .i64 (k : Int) ∧ Aside (k ≤ Y.length ∧ cmpL X Y = cmpL (X.drop k) (Y.drop k))) (fun s => X.length - (intOf s).toNat)
  case atStart => exact ⟨0, Nat.zero_le _, rfl, Nat.zero_le _, rfl⟩
  case round =>
    obtain ⟨k, hk, rfl, A⟩ := hrel
    by_cases hkX : k < X.length
    · obtain ⟨x, hx⟩ : ∃ x, X[k]? = some x := ⟨_, List.getElem?_eq_getElem hkX⟩
      obtain ⟨b1, o1, rfl, d1, _⟩ := H1.out.at k x hx
      have hdx : X.drop k = x :: X.drop (k + 1) := by
        obtain ⟨g1, g2⟩ := List.getElem?_eq_some_iff.1 hx
        rw [List.drop_eq_getElem_cons g1, g2]
      by_cases hkY : k < Y.length
      · obtain ⟨y, hy⟩ : ∃ y, Y[k]? = some y := ⟨_, List.getElem?_eq_getElem hkY⟩
        obtain ⟨b2, o2, rfl, d2, _⟩ := H2.out.at k y hy
        have hdy : Y.drop k = y :: Y.drop (k + 1) := by
          obtain ⟨g1, g2⟩ := List.getElem?_eq_some_iff.1 hy
          rw [List.drop_eq_getElem_cons g1, g2]
        have HC := Lib.hid (show cmpL X Y = if cmpT x y = 0 then cmpL (X.drop (k + 1)) (Y.drop (k + 1)) else cmpT x y by rw [A.out.2, hdx, hdy, cmpL_cons])
        have C := Lib.hid (fun w => cmpT_any x y w)
        generalize cmpT x y = t at *
        have HY := Lib.hid hkY
        clear A hdx hdy hx hy
        by_cases ht : t = 0
        · subst ht
          have HN := Lib.hid (show cmpL X Y = cmpL (X.drop (k + 1)) (Y.drop (k + 1)) by rw [HC.out, if_pos rfl])
          go_wp2_with (go_at_call 50; with_reducible refine (C.out _).mono ?_; rintro e w' ⟨rfl, rfl⟩)
          go_round
          case rel => exact ⟨k + 1, by omega, by go_num, HY.out, HN.out⟩
          case measure => simp [intOf]; omega
        · have HN := Lib.hid (show cmpL X Y = t by rw [HC.out, if_neg ht])
          have hne : (t == 0) = false := by rw [beq_eq_false_iff_ne]; exact ht
          have hne2 : (t != 0) = true := by rw [bne, hne]; rfl
          clear ht
          go_wp2_with (go_at_call 50; with_reducible refine (C.out _).mono ?_; rintro e w' ⟨rfl, rfl⟩)
          go_ret
          exact ⟨by rw [HN.out]; rfl, rfl⟩
      · have hYk : Y.length = k := by have := A.out.1; omega
        have HN := Lib.hid (show cmpL X Y = 1 by rw [A.out.2, hdx, show Y.drop k = [] from List.drop_eq_nil_of_le (by omega)]; rfl)
        have hge : (Y.length : Int) ≤ (k : Int) := by omega
        clear A hdx hx hYk
        go_wp2
        go_ret
        exact ⟨by rw [HN.out]; rfl, rfl⟩
    · have hXk : k = X.length := by omega
      have HN := Lib.hid (show cmpL X Y = if Y.drop k = [] then 0 else -1 by rw [A.out.2, List.drop_eq_nil_of_le (by omega : X.length ≤ k), cmpL_nil])
      have hkY := A.out.1
      by_cases hlt : (X.length : Int) < (Y.length : Int)
      · have HN2 := Lib.hid (show cmpL X Y = -1 by rw [HN.out, if_neg (fun e => by have := congrArg List.length e; simp at this; omega)])
        clear A
        go_wp2
        go_ret
        exact ⟨by rw [HN2.out]; rfl, rfl⟩
      · have HN2 := Lib.hid (show cmpL X Y = 0 by rw [HN.out, if_pos (List.drop_eq_nil_of_le (by omega))])
        clear A
        go_wp2
        go_ret
        exact ⟨by rw [HN2.out]; rfl, rfl⟩

set_option maxHeartbeats 1000000 in
theorem pCompare_any (a b : List UInt8) (ha : a.length ≤ 10000) (hb : b.length ≤ 10000) (w : World) :
    Calls Tryd.prog 21 #[.string (mkS a), .string (mkS b)] w fun e w' => e = .returned (.int .i64 (cmpL (partsL a) (partsL b))) ∧ Below w.heap.size w w' := by
  have P1 := Lib.hid (fun w => parts_any a (by omega) w)
  have P2 := Lib.hid (fun w => parts_any b (by omega) w)
  have l1 := parts_length_le a
  have l2 := parts_length_le b
  go_enter Tryd.func21, Tryd.ntmps21
  go_wp2_with fail
  go_at_call 13
  refine (P1.out _).mono ?_
  rintro e w1 ⟨⟨v1, rfl, s1⟩, h1⟩
  have S1 := Lib.hid s1
  clear s1
  go_wp2_with fail
  go_at_call 13
  refine (P2.out _).mono ?_
  rintro e w2 ⟨⟨v2, rfl, s2⟩, h2⟩
  have C := Lib.hid (compare_any v1 v2 (partsL a) (partsL b) (by omega) (by omega) w2 (S1.out.below h2) s2)
  clear s2
  go_wp2_with (go_at_call 37; with_reducible refine C.out.mono ?_; rintro e w3 ⟨rfl, rfl⟩)
  go_ret
  exact ⟨rfl, h1.trans (h2.mono h1.size)⟩
end Go.Proofs.YtlgfdlfijfcfbaaDoor
