/- The keeps' law PathOnce: its walk. -/
import Derived.Test.YtlgfdlfijfcfbaaDoorWay
import Derived.Test.YtlgfdlfijfcfbaaDoorPtn
import Derived.SizedLaws
namespace Go.Proofs.YtlgfdlfijfcfbaaDoor
open Go.RowKit Go.Joins
set_option linter.unusedVariables false

/-- slices.Contains at a text that isn't there. -/
theorem contains_no (v : Value) (L : List (List UInt8)) (x : List UInt8) (hL : L.length ≤ 1000000) (hx : x ∉ L) (w : World) (h : SlIs w v L) :
    Calls Tryd.prog 27 #[v, .string (mkS x)] w fun e w' => e = .returned (.bool false) ∧ w = w' := by
  obtain ⟨a, c, rfl, hc⟩ := h.len
  by_cases h0 : L = []
  · subst h0
    exact (Tryd.slices_Contains_string_empty a c (mkS x) w).mono fun e w' ⟨he, hw⟩ => ⟨he, hw.symm⟩
  · obtain ⟨b, o, rfl⟩ : ∃ b o, a = some ⟨b, o, none⟩ := by
      obtain ⟨y, hy⟩ : ∃ y, L[0]? = some y := ⟨_, List.getElem?_eq_getElem (List.length_pos_iff.2 h0)⟩
      obtain ⟨b, o, e, _⟩ := h.at 0 y hy
      exact ⟨b, o, e⟩
    have := Tryd.slices_Contains_string b o L.length c (L.map mkS) (mkS x) w (by simp) (by omega) (fun j hj => by
      rw [List.length_map] at hj
      obtain ⟨b', o', e, hc, _⟩ := h.at j L[j] (List.getElem?_eq_getElem hj)
      injection e with e; injection e with e1 e2; subst e1; subst e2
      rw [hc, List.getD_eq_getElem?_getD, List.getElem?_map, List.getElem?_eq_getElem hj]
      rfl)
    refine this.mono fun e w' ⟨he, hw⟩ => ⟨?_, hw.symm⟩
    rw [he]
    have hn : Lib.containsS ((L.map mkS).take L.length) (mkS x) = false := by
      rw [List.take_of_length_le (by simp)]
      cases hq : Lib.containsS (L.map mkS) (mkS x) with
      | false => rfl
      | true =>
        obtain ⟨y, hy, e⟩ := List.mem_map.1 ((Lib.containsS_iff _ _).1 hq)
        rw [mkS_inj] at e
        subst e
        exact absurd hy hx
    rw [hn]

set_option maxHeartbeats 8000000 in
theorem pathOnce_walk (a : ByteArray) (za : a.size ≤ reachBytes) (b : ByteArray) (zb : b.size ≤ reachBytes) (w : World) :
    Calls Tryd.prog 9 #[.string a, .string b] w fun e w' => e = .returned (.bool true) ∧ Below w.heap.size w w' := by
  obtain ⟨x, rfl⟩ : ∃ k, a = mkS k := ⟨_, (mkS_self a).symm⟩
  obtain ⟨y, rfl⟩ : ∃ k, b = mkS k := ⟨_, (mkS_self b).symm⟩
  have s1 := mkS_size x
  have s2 := mkS_size y
  have W := Lib.hid (fun w => wayed_any w)
  by_cases hx : (200 : Int) < (x.length : Int)
  · go_enter Tryd.func9, Tryd.ntmps9
    go_wp2_with (go_at_call 26; with_reducible refine (W.out _).mono ?_; rintro e w1 ⟨rfl, h1⟩)
    go_ret
    exact ⟨rfl, h1⟩
  have hx' : decide ((200 : Int) < (x.length : Int)) = false := decide_eq_false hx
  by_cases hy : (200 : Int) < (y.length : Int)
  · go_enter Tryd.func9, Tryd.ntmps9
    go_wp2_with (go_at_call 26; with_reducible refine (W.out _).mono ?_; rintro e w1 ⟨rfl, h1⟩)
    go_ret
    exact ⟨rfl, h1⟩
  have hy' : decide ((200 : Int) < (y.length : Int)) = false := decide_eq_false hy
  have hle := cleanL_le x
  have K := kept_good x
  have C1 := Lib.hid (fun w => clean_any x (by omega) w)
  have C2 := Lib.hid (fun w => clean_any (cleanL x).1 (by omega) w)
  have P := Lib.hid (fun w => parts_any (cleanL x).1 (by omega) w)
  have R := Lib.hid (fun w => right_any x w)
  have C3 := Lib.hid (fun w => clean_any (x ++ 47 :: y) (by simp; omega) w)
  have C4 := Lib.hid (fun w => clean_any ((cleanL x).1 ++ 47 :: y) (by simp; omega) w)
  have hl : (partsL (cleanL x).1).length ≤ 1000 := by have := parts_length_le (cleanL x).1; omega
  have hd1 : ([46, 46] : List UInt8) ∉ partsL (cleanL x).1 := fun h => by
    rw [clean_parts] at h
    exact (K _ h).2 rfl
  have hd2 : ([46] : List UInt8) ∉ partsL (cleanL x).1 := fun h => by
    have := (parts_good _ _ h).1
    simp [okPart] at this
  have hrr : rightB x = true → cleanL x = (x, true) := fun h => ((right_iff x).1 h).2.2.2.1
  rw [clean_idem] at C2
  rw [clean_on] at C3
  generalize partsL (cleanL x).1 = L at *
  obtain ⟨cx, hcx⟩ : ∃ cx, cleanL x = cx := ⟨_, rfl⟩
  rw [hcx] at C1 C2 C3 C4 P hle hrr
  obtain ⟨c, ok⟩ := cx
  dsimp only at C1 C2 C3 C4 P hle hrr
  generalize cleanL (c ++ 47 :: y) = d at *
  obtain ⟨d, e2⟩ := d
  dsimp only at C3 C4
  have c1 := fun w => mkS_cat x [47] (by simp; omega) w
  have c2 := fun w => mkS_cat (x ++ [47]) y (by simp; omega) w
  have c3 := fun w => mkS_cat c [47] (by simp; omega) w
  have c4 := fun w => mkS_cat (c ++ [47]) y (by simp; omega) w
  rw [show x ++ [47] ++ y = x ++ 47 :: y by simp] at c2
  rw [show c ++ [47] ++ y = c ++ 47 :: y by simp] at c4
  have D1 := Lib.hid (fun v w h => contains_no v L [46, 46] (by omega) hd1 w h)
  have D2 := Lib.hid (fun v w h => contains_no v L [46] (by omega) hd2 w h)
  have hlit : (⟨#[47]⟩ : ByteArray) = mkS [47] := rfl
  have hlit1 : (⟨#[46, 46]⟩ : ByteArray) = mkS [46, 46] := rfl
  have hlit2 : (⟨#[46]⟩ : ByteArray) = mkS [46] := rfl
  have e0 : ((mkS c).toList != (mkS c).toList) = false := by simp
  have e1 : ((mkS d).toList == (mkS d).toList) = true := by simp
  have hcase : (rightB x = false ∧ ok = true) ∨ (rightB x = false ∧ ok = false) ∨ (rightB x = true ∧ ok = true ∧ c = x) := by
    cases hq : rightB x with
    | false => cases ok with
      | false => exact .inr (.inl ⟨rfl, rfl⟩)
      | true => exact .inl ⟨rfl, rfl⟩
    | true =>
      have := hrr hq
      exact .inr (.inr ⟨rfl, congrArg Prod.snd this, congrArg Prod.fst this⟩)
  clear hle K hl hd1 hd2 hrr hcx
  generalize rightB x = r at *
  rcases hcase with ⟨rfl, rfl⟩ | ⟨rfl, rfl⟩ | ⟨rfl, rfl, rfl⟩
  all_goals
    go_enter Tryd.func9, Tryd.ntmps9
    go_wp2_with fail
    go_at_call 26
    refine (W.out _).mono ?_
    rintro e w1 ⟨rfl, h1⟩
    go_wp2_with fail
    go_at_call 16
    refine (C1.out _).mono ?_
    rintro e w2 ⟨rfl, h2⟩
    go_wp2_with fail
    go_at_call 16
    refine (C2.out _).mono ?_
    rintro e w3 ⟨rfl, h3⟩
    go_wp2_with fail
    go_at_call 13
    refine (P.out _).mono ?_
    rintro e w4 ⟨⟨v1, rfl, t1⟩, h4⟩
    have E1 := Lib.hid (D1.out _ _ t1)
    clear t1
    go_wp2_with fail
    go_at_call 27
    refine E1.out.mono ?_
    rintro e w' ⟨rfl, rfl⟩
    go_wp2_with fail
    go_at_call 13
    refine (P.out _).mono ?_
    rintro e w5 ⟨⟨v2, rfl, t2⟩, h5⟩
    have E2 := Lib.hid (D2.out _ _ t2)
    clear t2
    go_wp2_with fail
    go_at_call 27
    refine E2.out.mono ?_
    rintro e w' ⟨rfl, rfl⟩
    go_wp2_with fail
    go_at_call 17
    refine (R.out _).mono ?_
    rintro e w6 ⟨rfl, h6⟩
    go_wp2_with fail
    go_at_call 16
    refine (C3.out _).mono ?_
    rintro e w7 ⟨rfl, h7⟩
    go_wp2_with fail
    go_at_call 16
    refine (C4.out _).mono ?_
    rintro e w8 ⟨rfl, h8⟩
    go_wp2
    go_ret
    exact ⟨by simp, h1.trans ((h2.trans ((h3.trans ((h4.trans ((h5.trans ((h6.trans ((h7.trans (h8.mono h7.size)).mono h6.size)).mono h5.size)).mono h4.size)).mono h3.size)).mono h2.size)).mono h1.size)⟩
end Go.Proofs.YtlgfdlfijfcfbaaDoor
