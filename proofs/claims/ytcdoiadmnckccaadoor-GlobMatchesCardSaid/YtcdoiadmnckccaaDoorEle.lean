/- glob.element, glob.span. -/
import Derived.Test.YtcdoiadmnckccaaDoorOnl
import Derived.Test.YtcdoiadmnckccaaDoorShelf
namespace Go.Proofs.YtcdoiadmnckccaaDoor
set_option linter.unusedVariables false
set_option linter.unusedSimpArgs false
open Go.RowKit Go.Joins
set_option maxRecDepth 100000

theorem prefix_any (l p : List UInt8) (w : World) : Calls Tryd.prog 14 #[.string (mkS l), .string (mkS p)] w fun e w' => e = .returned (.bool (Lib.hasPrefix l p)) ∧ w' = w := by
  have h := Tryd.strings_HasPrefix (mkS l) (mkS p) w
  rw [mkS_list, mkS_list] at h
  exact h
theorem prefix_one (l : List UInt8) (c : UInt8) : Lib.hasPrefix l [c] = (match l with | [] => false | d :: _ => decide (d = c)) := by
  cases l with
  | nil => rfl
  | cons d r =>
    show (c == d && [].isPrefixOf r) = decide (d = c)
    by_cases h : c = d
    · subst h; simp
    · simp [h, show ¬ d = c from fun h2 => h h2.symm]
theorem trim_any (l : List UInt8) (w : World) : Calls Tryd.prog 25 #[.string (mkS l), .string { data := #[92] }] w fun e w' => e = .returned (.string (mkS (trimB l))) ∧ w' = w := by
  have h := Tryd.strings_TrimPrefix (mkS l) (mkS [92]) w
  rw [mkS_list, mkS_list] at h
  have e : Lib.trimPrefix l [92] = trimB l := by
    unfold Lib.trimPrefix
    rw [prefix_one]
    cases l with
    | nil => rfl
    | cons d r => rw [trimB_cons]; by_cases h : d = 92 <;> simp [h]
  rw [e] at h
  exact h

theorem mkS_tail (c : UInt8) (r : List UInt8) (w : World) : (Instr.slice 9 (.string (mkS (c :: r))) (some (.int .i64 1)) none none).run Tryd.prog w = .ok (.string (mkS r)) w := by
  have := mkS_onward (c :: r) 1 (by simp) w
  simpa using this
theorem mkS_head (c : UInt8) (r : List UInt8) (w : World) : (Instr.index 9 (.string (mkS (c :: r))) (.int .i64 0)).run Tryd.prog w = .ok (.int .u8 (c.toNat : Int)) w := mkS_index (c :: r) 0 c (by omega) rfl w
theorem mkS_second (c d : UInt8) (r : List UInt8) (w : World) : (Instr.index 9 (.string (mkS (c :: d :: r))) (.int .i64 1)).run Tryd.prog w = .ok (.int .u8 (d.toNat : Int)) w := mkS_index (c :: d :: r) 1 d (by omega) rfl w
/-- What element tells. -/
def elemV (s : List UInt8) : Value := match elemL s with | none => .tuple #[.int .u8 0, .string (mkS []), .bool false] | some (c, r) => .tuple #[.int .u8 (c.toNat : Int), .string (mkS r), .bool true]
set_option maxHeartbeats 1000000 in
theorem element_any (s : List UInt8) (w : World) : Calls Tryd.prog 21 #[.string (mkS s)] w fun e w' => e = .returned (elemV s) ∧ Below w.heap.size w w' := by
  have T := Lib.hid (fun (w : World) => trim_any s w)
  unfold elemV elemL
  generalize trimB s = t at T
  cases t with
  | nil =>
    have e0 := mkS_emp_nil
    go_enter Tryd.func21, Tryd.ntmps21
    go_wp2_with (go_at_call 25; with_reducible refine (T.out _).mono ?_; rintro e w' ⟨rfl, hw⟩; replace hw := hw.symm; subst hw)
    go_ret3
    exact ⟨rfl, Below.refl _ _⟩
  | cons c r =>
    have e1 := mkS_emp (c :: r) (by simp)
    have s1 := mkS_tail c r
    have i1 := mkS_head c r
    go_enter Tryd.func21, Tryd.ntmps21
    go_wp2_with (go_at_call 25; with_reducible refine (T.out _).mono ?_; rintro e w' ⟨rfl, hw⟩; replace hw := hw.symm; subst hw)
    go_quiet (fail)
    go_wp2
    go_ret3
    exact ⟨rfl, below_draws _ _ _⟩
theorem element_none {s : List UInt8} (h : elemL s = none) (w : World) : Calls Tryd.prog 21 #[.string (mkS s)] w fun e w' => e = .returned (.tuple #[.int .u8 0, .string (mkS []), .bool false]) ∧ Below w.heap.size w w' := by
  have := element_any s w
  unfold elemV at this
  rwa [h] at this
theorem element_some {s r : List UInt8} {c : UInt8} (h : elemL s = some (c, r)) (w : World) : Calls Tryd.prog 21 #[.string (mkS s)] w fun e w' => e = .returned (.tuple #[.int .u8 (c.toNat : Int), .string (mkS r), .bool true]) ∧ Below w.heap.size w w' := by
  have := element_any s w
  unfold elemV at this
  rwa [h] at this

theorem u8_eq (c d : UInt8) : (c.toNat : Int) = (d.toNat : Int) ↔ c = d := by
  rw [Int.natCast_inj]; exact UInt8.toNat_inj
theorem dashed_iff {r : List UInt8} (h : dashed r = true) : ∃ d r2, r = 45 :: d :: r2 ∧ ¬ (d.toNat : Int) = 93 := by
  match r, h with
  | c :: d :: r2, h =>
    simp only [dashed, Bool.and_eq_true, decide_eq_true_eq, Bool.not_eq_true', decide_eq_false_iff_not] at h
    obtain ⟨rfl, h2⟩ := h
    exact ⟨d, r2, rfl, fun e => h2 ((u8_eq d 93).1 e)⟩
set_option maxHeartbeats 1000000 in
theorem span_none {s : List UInt8} (h : spanL s = none) (w : World) : Calls Tryd.prog 24 #[.string (mkS s)] w fun e w' => (∃ a b r, e = .returned (.tuple #[a, b, r, .bool false])) ∧ Below w.heap.size w w' := by
  unfold spanL at h
  split at h
  · rename_i h1
    have E := Lib.hid (fun (w : World) => element_none h1 w)
    clear h h1
    go_enter Tryd.func24, Tryd.ntmps24
    go_wp2_with (go_at_call 21; with_reducible refine (E.out _).mono ?_; rintro e w1 ⟨rfl, hb1⟩)
    exact bodyPost_ret (v := .tuple #[.int .u8 0, .int .u8 0, .string (mkS []), .bool false]) (by simp [results, Tryd.results24, go_sem]) rfl ⟨⟨_, _, _, rfl⟩, hb1⟩
  · rename_i a r h1
    split at h
    · rename_i h2
      split at h
      · rename_i h3
        obtain ⟨d, r2, rfl, hd⟩ := dashed_iff h2
        have E := Lib.hid (fun (w : World) => element_some h1 w)
        have E2 := Lib.hid (fun (w : World) => element_none h3 w)
        rw [List.tail_cons] at E2
        have i0 := mkS_head 45 (d :: r2)
        have i1 := mkS_second 45 d r2
        have s1 := mkS_tail 45 (d :: r2)
        have hz : decide (((mkS (45 :: d :: r2)).size : Int) < 2) = false := decide_eq_false (by rw [mkS_size]; simp; try omega)
        rw [show ((45 : UInt8).toNat : Int) = 45 from rfl] at i0
        generalize mkS (45 :: d :: r2) = S at *
        generalize mkS (d :: r2) = S2 at *
        clear h h1 h2 h3
        go_enter Tryd.func24, Tryd.ntmps24
        go_wp2_with (first
          | (go_at_call 21; with_reducible refine (E.out _).mono ?_; rintro e w1 ⟨rfl, hb1⟩)
          | (go_at_call 21; with_reducible refine (E2.out _).mono ?_; rintro e w2 ⟨rfl, hb2⟩))
        exact bodyPost_ret (v := .tuple #[.int .u8 (a.toNat : Int), .int .u8 0, .string (mkS []), .bool false]) (by simp [results, Tryd.results24, go_sem]) rfl ⟨⟨_, _, _, rfl⟩, hb1.trans (hb2.mono hb1.size)⟩
      · cases h
    · cases h
theorem dashed_not {r : List UInt8} (h : ¬ dashed r = true) : r = [] ∨ (∃ d, r = [d]) ∨ (∃ d e r2, r = d :: e :: r2 ∧ (¬ (d.toNat : Int) = 45 ∨ (d = 45 ∧ e = 93))) := by
  match r, h with
  | [], _ => exact Or.inl rfl
  | [d], _ => exact Or.inr (Or.inl ⟨d, rfl⟩)
  | d :: e :: r2, h =>
    refine Or.inr (Or.inr ⟨d, e, r2, rfl, ?_⟩)
    simp only [dashed, Bool.and_eq_true, decide_eq_true_eq, Bool.not_eq_true', decide_eq_false_iff_not, not_and, Classical.not_not] at h
    by_cases hd : d = 45
    · exact Or.inr ⟨hd, h hd⟩
    · exact Or.inl fun x => hd ((u8_eq d 45).1 x)
set_option maxHeartbeats 1000000 in
theorem span_some {s r : List UInt8} {a b : UInt8} (h : spanL s = some (a, b, r)) (w : World) : Calls Tryd.prog 24 #[.string (mkS s)] w fun e w' => e = .returned (.tuple #[.int .u8 (a.toNat : Int), .int .u8 (b.toNat : Int), .string (mkS r), .bool true]) ∧ Below w.heap.size w w' := by
  unfold spanL at h
  split at h
  · cases h
  · rename_i a1 r1 h1
    have E := Lib.hid (fun (w : World) => element_some h1 w)
    split at h
    · rename_i h2
      split at h
      · cases h
      · rename_i b2 r2 h3
        cases h
        obtain ⟨d, r2, rfl, hd⟩ := dashed_iff h2
        have E2 := Lib.hid (fun (w : World) => element_some h3 w)
        rw [List.tail_cons] at E2
        have i0 := mkS_head 45 (d :: r2)
        have i1 := mkS_second 45 d r2
        have s1 := mkS_tail 45 (d :: r2)
        have hz : decide (((mkS (45 :: d :: r2)).size : Int) < 2) = false := decide_eq_false (by rw [mkS_size]; simp; try omega)
        rw [show ((45 : UInt8).toNat : Int) = 45 from rfl] at i0
        generalize mkS (45 :: d :: r2) = S at *
        generalize mkS (d :: r2) = S2 at *
        clear h1 h2 h3
        go_enter Tryd.func24, Tryd.ntmps24
        go_wp2_with (first
          | (go_at_call 21; with_reducible refine (E.out _).mono ?_; rintro e w1 ⟨rfl, hb1⟩)
          | (go_at_call 21; with_reducible refine (E2.out _).mono ?_; rintro e w2 ⟨rfl, hb2⟩))
        exact bodyPost_ret (v := .tuple #[.int .u8 (a.toNat : Int), .int .u8 (b.toNat : Int), .string (mkS r), .bool true]) (by simp [results, Tryd.results24, go_sem]) rfl ⟨rfl, hb1.trans (hb2.mono hb1.size)⟩
    · rename_i h2
      cases h
      rcases dashed_not h2 with rfl | ⟨d, rfl⟩ | ⟨d, e, r2, rfl, hd | ⟨rfl, rfl⟩⟩
      · have hz : decide (((mkS []).size : Int) < 2) = true := decide_eq_true (by rw [mkS_size]; simp)
        clear h1 h2
        go_enter Tryd.func24, Tryd.ntmps24
        go_wp2_with (go_at_call 21; with_reducible refine (E.out _).mono ?_; rintro e w1 ⟨rfl, hb1⟩)
        exact bodyPost_ret (v := .tuple #[.int .u8 (a.toNat : Int), .int .u8 (a.toNat : Int), .string (mkS []), .bool true]) (by simp [results, Tryd.results24, go_sem]) rfl ⟨rfl, hb1⟩
      · have hz : decide (((mkS [d]).size : Int) < 2) = true := decide_eq_true (by rw [mkS_size]; simp)
        generalize mkS [d] = S at *
        clear h1 h2
        go_enter Tryd.func24, Tryd.ntmps24
        go_wp2_with (go_at_call 21; with_reducible refine (E.out _).mono ?_; rintro e w1 ⟨rfl, hb1⟩)
        exact bodyPost_ret (v := .tuple #[.int .u8 (a.toNat : Int), .int .u8 (a.toNat : Int), .string S, .bool true]) (by simp [results, Tryd.results24, go_sem]) rfl ⟨rfl, hb1⟩
      · have i0 := mkS_head d (e :: r2)
        have hz : decide (((mkS (d :: e :: r2)).size : Int) < 2) = false := decide_eq_false (by rw [mkS_size]; simp; try omega)
        generalize mkS (d :: e :: r2) = S at *
        clear h1 h2
        go_enter Tryd.func24, Tryd.ntmps24
        go_wp2_with (go_at_call 21; with_reducible refine (E.out _).mono ?_; rintro e w1 ⟨rfl, hb1⟩)
        exact bodyPost_ret (v := .tuple #[.int .u8 (a.toNat : Int), .int .u8 (a.toNat : Int), .string S, .bool true]) (by simp [results, Tryd.results24, go_sem]) rfl ⟨rfl, hb1⟩
      · have i0 := mkS_head 45 (93 :: r2)
        have i1 := mkS_second 45 93 r2
        rw [show ((45 : UInt8).toNat : Int) = 45 from rfl] at i0
        rw [show ((93 : UInt8).toNat : Int) = 93 from rfl] at i1
        have hz : decide (((mkS (45 :: 93 :: r2)).size : Int) < 2) = false := decide_eq_false (by rw [mkS_size]; simp; try omega)
        generalize mkS (45 :: 93 :: r2) = S at *
        clear h1 h2
        go_enter Tryd.func24, Tryd.ntmps24
        go_wp2_with (go_at_call 21; with_reducible refine (E.out _).mono ?_; rintro e w1 ⟨rfl, hb1⟩)
        exact bodyPost_ret (v := .tuple #[.int .u8 (a.toNat : Int), .int .u8 (a.toNat : Int), .string S, .bool true]) (by simp [results, Tryd.results24, go_sem]) rfl ⟨rfl, hb1⟩
end Go.Proofs.YtcdoiadmnckccaaDoor
