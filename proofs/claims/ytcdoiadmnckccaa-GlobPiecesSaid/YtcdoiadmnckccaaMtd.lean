/- The keeps' matched; what Match tells at a valid pattern; the law GlobQuote's walk. -/
import Derived.Test.YtcdoiadmnckccaaRig
import Derived.Test.YtcdoiadmnckccaaQuo
namespace Go.Proofs.Ytcdoiadmnckccaa
set_option linter.unusedVariables false
set_option linter.unusedSimpArgs false
open Go.RowKit Go.Joins
set_option maxRecDepth 100000

theorem match_valid (p n : List UInt8) (hp : p.length ≤ 120) (hn : n.length ≤ 120) (hv : (patL p).isSome = true) (w : World) :
    Calls Try.prog 15 #[.string (mkS p), .string (mkS n)] w fun e w' => e = .returned (.tuple #[.bool (mat p n), .nilIface]) ∧ Below w.heap.size w w' := by
  cases h : patL p with
  | none => rw [h] at hv; cases hv
  | some l =>
    have e : mat p n = matL l n := by unfold mat; rw [h]
    rw [e]
    exact match_some p n hp hn l h w
theorem match_bad (p n : List UInt8) (hp : p.length ≤ 120) (hn : n.length ≤ 120) (hv : (patL p).isSome = false) (w : World) :
    Calls Try.prog 15 #[.string (mkS p), .string (mkS n)] w fun e w' => e = .returned (.tuple #[.bool false, errI 3]) ∧ Below w.heap.size w w' := by
  cases h : patL p with
  | none => exact match_none p n hp hn h w
  | some l => rw [h] at hv; cases hv
theorem pat1 : patL [42, 46, 91, 99, 104, 93] = some [⟨noSl, true⟩, ⟨onlyT 46, false⟩, ⟨takesOf false (fun i => (false || within 99 99 i) || within 104 104 i), false⟩] := by
  have a : firstL [42, 46, 91, 99, 104, 93] = some (⟨noSl, true⟩, [46, 91, 99, 104, 93]) := rfl
  have b : firstL [46, 91, 99, 104, 93] = some (⟨onlyT 46, false⟩, [91, 99, 104, 93]) := rfl
  have s1 : elsL false [99, 104, 93] (fun _ => false) = elsL true [104, 93] (fun i => false || within 99 99 i) := elsL_some (by simp) rfl
  have s2 : elsL true [104, 93] (fun i => false || within 99 99 i) = elsL true [93] (fun i => (false || within 99 99 i) || within 104 104 i) := elsL_some (by simp [shuts]) rfl
  have s3 : elsL true [93] (fun i => (false || within 99 99 i) || within 104 104 i) = some ((fun i => (false || within 99 99 i) || within 104 104 i), []) := elsL_shut rfl
  have c : firstL [91, 99, 104, 93] = some (⟨takesOf false (fun i => (false || within 99 99 i) || within 104 104 i), false⟩, []) := by
    rw [firstL_cons, if_neg (by decide), if_neg (by decide), if_pos rfl]
    unfold setP setL
    rw [show negL [99, 104, 93] = false from rfl]
    rw [if_neg (by simp), s1, s2, s3]
  rw [patL_some a, patL_some b, patL_some c, patL_nil]
theorem mat1 : mat [42, 46, 91, 99, 104, 93] [120, 46, 99] = true := by unfold mat; rw [pat1]; rfl
theorem pat2 : patL [42, 46, 99] = some [⟨noSl, true⟩, ⟨onlyT 46, false⟩, ⟨onlyT 99, false⟩] := by
  have a : firstL [42, 46, 99] = some (⟨noSl, true⟩, [46, 99]) := rfl
  have b : firstL [46, 99] = some (⟨onlyT 46, false⟩, [99]) := rfl
  have c : firstL [99] = some (⟨onlyT 99, false⟩, []) := rfl
  rw [patL_some a, patL_some b, patL_some c, patL_nil]
theorem mat2 : mat [42, 46, 99] [97, 47, 120, 46, 99] = false := by unfold mat; rw [pat2]; rfl
theorem pat3 : patL [42, 42, 46, 99] = some [⟨allT, true⟩, ⟨onlyT 46, false⟩, ⟨onlyT 99, false⟩] := by
  have a : firstL [42, 42, 46, 99] = some (⟨allT, true⟩, [46, 99]) := rfl
  have b : firstL [46, 99] = some (⟨onlyT 46, false⟩, [99]) := rfl
  have c : firstL [99] = some (⟨onlyT 99, false⟩, []) := rfl
  rw [patL_some a, patL_some b, patL_some c, patL_nil]
theorem mat3 : mat [42, 42, 46, 99] [97, 47, 120, 46, 99] = true := by unfold mat; rw [pat3]; rfl
theorem pat4 : patL [91, 97] = none := by
  have s1 : elsL false [97] (fun _ => false) = elsL true [] (fun i => false || within 97 97 i) := elsL_some (by simp) rfl
  have s2 : elsL true [] (fun i => false || within 97 97 i) = none := elsL_none (by simp [shuts]) rfl
  have c : firstL [91, 97] = none := by
    rw [firstL_cons, if_neg (by decide), if_neg (by decide), if_pos rfl]
    unfold setP setL
    rw [show negL [97] = false from rfl]
    rw [if_neg (by simp), s1, s2]
  exact patL_none (by simp) c

set_option maxHeartbeats 1000000 in
theorem matched_true (w : World) : Calls Try.prog 14 #[] w fun e w' => e = .returned (.bool true) ∧ Below w.heap.size w w' := by
  have M1 := Lib.hid (show ∀ w, Calls Try.prog 15 #[.string { data := #[42, 46, 91, 99, 104, 93] }, .string { data := #[120, 46, 99] }] w fun e w' => e = .returned (.tuple #[.bool true, .nilIface]) ∧ Below w.heap.size w w' from fun w => by
    have h := match_valid [42, 46, 91, 99, 104, 93] [120, 46, 99] (by simp) (by simp) (by rw [pat1]; rfl) w
    rw [mat1] at h; exact h)
  have M2 := Lib.hid (show ∀ w, Calls Try.prog 15 #[.string { data := #[42, 46, 99] }, .string { data := #[97, 47, 120, 46, 99] }] w fun e w' => e = .returned (.tuple #[.bool false, .nilIface]) ∧ Below w.heap.size w w' from fun w => by
    have h := match_valid [42, 46, 99] [97, 47, 120, 46, 99] (by simp) (by simp) (by rw [pat2]; rfl) w
    rw [mat2] at h; exact h)
  have M3 := Lib.hid (show ∀ w, Calls Try.prog 15 #[.string { data := #[42, 42, 46, 99] }, .string { data := #[97, 47, 120, 46, 99] }] w fun e w' => e = .returned (.tuple #[.bool true, .nilIface]) ∧ Below w.heap.size w w' from fun w => by
    have h := match_valid [42, 42, 46, 99] [97, 47, 120, 46, 99] (by simp) (by simp) (by rw [pat3]; rfl) w
    rw [mat3] at h; exact h)
  have M4 := Lib.hid (show ∀ w, Calls Try.prog 10 #[.string { data := #[91, 97] }] w fun e w' => e = .returned (.bool false) ∧ Below w.heap.size w w' from fun w => by
    have h := right_any [91, 97] w (by simp)
    rw [pat4] at h; exact h)
  go_enter Try.func14, Try.ntmps14
  go_wp2_with (first
    | (go_at_call 15; with_reducible refine (M1.out _).mono ?_; rintro e w1 ⟨rfl, hb1⟩)
    | (go_at_call 15; with_reducible refine (M2.out _).mono ?_; rintro e w2 ⟨rfl, hb2⟩)
    | (go_at_call 15; with_reducible refine (M3.out _).mono ?_; rintro e w3 ⟨rfl, hb3⟩)
    | (go_at_call 10; with_reducible refine (M4.out _).mono ?_; rintro e w4 ⟨rfl, hb4⟩))
  go_ret
  have h12 := hb1.trans (hb2.mono hb1.size)
  have h13 := h12.trans (hb3.mono h12.size)
  exact ⟨rfl, h13.trans (hb4.mono h13.size)⟩

theorem quote_ok (l : List UInt8) : (patL (quoteL l)).isSome = true := by
  have h := quote_valid [] (by rw [patL_nil]; rfl) l
  rwa [List.append_nil] at h
theorem mkS_eq (x y : List UInt8) : ((mkS x).toList == (mkS y).toList) = decide (x = y) := by
  rw [ByteArray.toList_eq, ByteArray.toList_eq, mkS_list, mkS_list]
  by_cases h : x = y
  · subst h; simp
  · simp [h]

set_option maxHeartbeats 1000000 in
theorem globQuote_walk (a0 : ByteArray) (z0 : a0.size ≤ reachBytes) (a1 : ByteArray) (z1 : a1.size ≤ reachBytes) (w : World) :
    Calls Try.prog 5 #[.string a0, .string a1] w fun e w' => e = .returned (.bool true) ∧ Below w.heap.size w w' := by
  obtain ⟨x, rfl⟩ : ∃ l, a0 = mkS l := ⟨a0.data.toList, (mkS_self a0).symm⟩
  obtain ⟨y, rfl⟩ : ∃ l, a1 = mkS l := ⟨a1.data.toList, (mkS_self a1).symm⟩
  have sx := mkS_size x
  have sy := mkS_size y
  rw [sx] at z0
  rw [sy] at z1
  unfold reachBytes at z0 z1
  have MT := Lib.hid (fun w => matched_true w)
  by_cases h : x.length ≤ 50 ∧ y.length ≤ 100
  · have hx : decide ((50 : Int) < ((mkS x).size : Int)) = false := decide_eq_false (by rw [sx]; omega)
    have hy : decide ((100 : Int) < ((mkS y).size : Int)) = false := decide_eq_false (by rw [sy]; omega)
    have hq := quoteL_len x
    have Q := Lib.hid (fun w => quote_any x (by omega) w)
    have M1 := Lib.hid (fun w => match_valid (quoteL x) y (by omega) (by omega) (quote_ok x) w)
    have M2 := Lib.hid (fun w => match_valid (quoteL x) x (by omega) (by omega) (quote_ok x) w)
    rw [mat_quote_all] at M1 M2
    rw [decide_eq_true rfl] at M2
    have he := mkS_eq x y
    have e1 : decide (y = x) = decide (x = y) := by
      by_cases h : x = y
      · subst h; rfl
      · rw [decide_eq_false h, decide_eq_false (fun e => h e.symm)]
    rw [e1] at M1
    generalize decide (x = y) = q at *
    clear sx sy h z0 z1 hq e1
    generalize mkS (quoteL x) = QS at *
    generalize mkS x = S at *
    generalize mkS y = T at *
    cases q <;> (
      go_enter Try.func5, Try.ntmps5
      go_wp2_with (first
        | (go_at_call 14; with_reducible refine (MT.out _).mono ?_; rintro e w1 ⟨rfl, hb1⟩; have B1 := Lib.hid hb1; clear hb1)
        | (go_at_call 15; with_reducible refine (M1.out _).mono ?_; rintro e w3 ⟨rfl, hb3⟩; have B3 := Lib.hid (B2.out.trans (hb3.mono B2.out.size)); clear hb3 B2)
        | (go_at_call 15; with_reducible refine (M2.out _).mono ?_; rintro e w5 ⟨rfl, hb5⟩; have B5 := Lib.hid (B4.out.trans (hb5.mono B4.out.size)); clear hb5)
        | (go_at_call 12; with_reducible refine (Q.out _).mono ?_; rintro e w4 ⟨rfl, hb4⟩; have B4 := Lib.hid (B3.out.trans (hb4.mono B3.out.size)); clear hb4)
        | (go_at_call 12; with_reducible refine (Q.out _).mono ?_; rintro e w2 ⟨rfl, hb2⟩; have B2 := Lib.hid (B1.out.trans (hb2.mono B1.out.size)); clear hb2))
      go_ret
      exact ⟨by first | rfl | simp, B5.out⟩)
  · have hz : (decide ((50 : Int) < ((mkS x).size : Int)) = true) ∨ (decide ((50 : Int) < ((mkS x).size : Int)) = false ∧ decide ((100 : Int) < ((mkS y).size : Int)) = true) := by
      rw [sx, sy]
      by_cases h1 : x.length ≤ 50
      · exact Or.inr ⟨decide_eq_false (by omega), decide_eq_true (by omega)⟩
      · exact Or.inl (decide_eq_true (by omega))
    clear sx sy h z0 z1
    generalize mkS x = S at *
    generalize mkS y = T at *
    rcases hz with hz | ⟨hz, hz2⟩ <;> (
      go_enter Try.func5, Try.ntmps5
      go_wp2_with (go_at_call 14; with_reducible refine (MT.out _).mono ?_; rintro e w1 ⟨rfl, hb1⟩)
      go_ret
      exact ⟨rfl, hb1⟩)
end Go.Proofs.Ytcdoiadmnckccaa
