/- The laws GlobMany and GlobWide: their walks. -/
import Derived.Test.YtcdoiadmnckccaaMtd
import Derived.Lib.QuietBelow
namespace Go.Proofs.Ytcdoiadmnckccaa
set_option linter.unusedVariables false
set_option linter.unusedSimpArgs false
open Go.RowKit Go.Joins
set_option maxRecDepth 100000

def pickG (a n : Int) : Int := a % 18446744073709551616 % n
theorem pickG_range (a n : Int) (h : 1 ≤ n) : 0 ≤ pickG a n ∧ pickG a n < n := by
  unfold pickG; exact ⟨Int.emod_nonneg _ (by omega), Int.emod_lt_of_pos _ (by omega)⟩
theorem wrap_u64 (a : Int) : IntKind.u64.wrap a = a % 18446744073709551616 := by
  simp only [IntKind.wrap, IntKind.bits, IntKind.signed]; simp
theorem pickg_any (a n : Int) (w : World) (h1 : 1 ≤ n) (h2 : n ≤ 1000000) :
    Calls Try.prog 19 #[.int .i64 a, .int .i64 n] w fun e w' => e = .returned (.int .i64 (pickG a n)) ∧ w' = w := by
  have hw := wrap_u64 a
  have hr := pickG_range a n h1
  have hp : a % 18446744073709551616 % n = pickG a n := rfl
  obtain ⟨u, hu, hu0, hu1⟩ : ∃ u, a % 18446744073709551616 = u ∧ 0 ≤ u ∧ u ≤ 18446744073709551615 := ⟨_, rfl, by omega, by omega⟩
  rw [hu] at hw hp
  obtain ⟨hr1, hr2⟩ := hr
  have hn : n ≠ 0 := by omega
  clear hu
  go_enter Try.func19, Try.ntmps19
  go_wp2
  go_ret
  exact ⟨rfl, rfl⟩

theorem idx_contains (c : UInt8) : ∀ s : List UInt8, decide (0 ≤ Lib.indexByte s c) = s.contains c
  | [] => rfl
  | b :: s => by
    have ih := idx_contains c s
    rw [List.contains_cons, ← ih, Lib.indexByte]
    by_cases h : b = c
    · subst h; simp
    · have h1 : (b == c) = false := by simpa using h
      have h2 : (c == b) = false := by rw [Bool.beq_comm]; exact h1
      rw [h1, h2]
      by_cases h3 : Lib.indexByte s c = -1
      · rw [h3]; simp
      · have h4 : (Lib.indexByte s c == -1) = false := by simpa using h3
        rw [h4]
        simp only [Bool.false_eq_true, if_false, Bool.false_or]
        by_cases h5 : 0 ≤ Lib.indexByte s c
        · rw [decide_eq_true h5, decide_eq_true (by omega)]
        · rw [decide_eq_false h5, decide_eq_false (by omega)]
theorem contains_any (l : List UInt8) (w : World) : Calls Try.prog 16 #[.string (mkS l), .string { data := #[47] }] w fun e w' => e = .returned (.bool (l.contains 47)) ∧ w' = w := by
  have h := Try.strings_Contains_one (mkS l) 47 w
  rw [mkS_list, idx_contains] at h
  exact h
theorem noSl_eq (c : UInt8) : noSl c.toNat = !(47 == c) := by
  unfold noSl
  by_cases h : 47 = c
  · subst h; rfl
  · have h1 : ¬ c.toNat = 47 := fun e => h (UInt8.toNat_inj.1 e.symm)
    have h2 : (47 == c) = false := by simpa using h
    rw [h2, decide_eq_false h1]
theorem many_valid : ∀ n : Nat, (patL (List.replicate n 63)).isSome = true
  | 0 => by rw [List.replicate_zero, patL_nil]; rfl
  | n + 1 => by
    have e : firstL (List.replicate (n + 1) 63) = some (⟨noSl, false⟩, List.replicate n 63) := by rw [List.replicate_succ]; rfl
    rw [patL_some e]
    have := many_valid n
    cases h : patL (List.replicate n 63) with
    | none => rw [h] at this; cases this
    | some l => rfl
theorem mat_marks : ∀ (n : Nat) (s : List UInt8), mat (List.replicate n 63) s = (decide (n = s.length) && !s.contains 47)
  | 0, s => by
    rw [List.replicate_zero, mat_nil]
    cases s <;> simp
  | n + 1, s => by
    have e : firstL (List.replicate (n + 1) 63) = some (⟨noSl, false⟩, List.replicate n 63) := by rw [List.replicate_succ]; rfl
    rw [mat_one e]
    cases s with
    | nil => simp
    | cons c s =>
      show (noSl c.toNat && mat (List.replicate n 63) s) = _
      rw [mat_marks n s, noSl_eq, List.contains_cons]
      by_cases h1 : n = s.length
      · subst h1; cases (47 == c) <;> simp
      · simp [h1]
theorem repeat_mark : ∀ n : Nat, Lib.repeatL [63] n = List.replicate n 63
  | 0 => rfl
  | n + 1 => by rw [Lib.repeatL, repeat_mark n, List.replicate_succ]; rfl
theorem repeat_q (n : Nat) (hn : n ≤ 1000000) (w : World) : Calls Try.prog 20 #[.string { data := #[63] }, .int .i64 (n : Int)] w fun e w' => e = .returned (.string (mkS (List.replicate n 63))) ∧ Below w.heap.size w w' := by
  have h := Try.strings_Repeat ⟨#[63]⟩ n w (by omega) (by show 1 * n ≤ _; omega)
  refine h.mono fun e w' ⟨he, hw⟩ => ⟨?_, hw⟩
  rw [he, ← repeat_mark n]
  rfl

set_option maxHeartbeats 1000000 in
theorem globMany_walk (a0 : ByteArray) (z0 : a0.size ≤ reachBytes) (a1 : Int) (w1 : (Lit.int .i64 a1).wf = true) (w : World) :
    Calls Try.prog 8 #[.string a0, .int .i64 a1] w fun e w' => e = .returned (.bool true) ∧ Below w.heap.size w w' := by
  obtain ⟨l, rfl⟩ : ∃ l, a0 = mkS l := ⟨a0.data.toList, (mkS_self a0).symm⟩
  have hsz := mkS_size l
  rw [hsz] at z0
  unfold reachBytes at z0
  have MT := Lib.hid (fun w => matched_true w)
  clear w1
  by_cases h : l.length ≤ 100
  · have hz : decide ((100 : Int) < ((mkS l).size : Int)) = false := decide_eq_false (by rw [hsz]; omega)
    obtain ⟨p1, p2⟩ := pickG_range a1 110 (by omega)
    have PK := Lib.hid (fun w => pickg_any a1 110 w (by omega) (by omega))
    obtain ⟨n, hn⟩ := Int.eq_ofNat_of_zero_le p1
    rw [hn] at PK p2
    have RP := Lib.hid (fun w => repeat_q n (by omega) w)
    have M1 := Lib.hid (fun w => match_valid (List.replicate n 63) l (by simp; omega) (by omega) (many_valid n) w)
    rw [mat_marks] at M1
    have C1 := Lib.hid (fun w => contains_any l w)
    have he : (((n : Int)) == ((mkS l).size : Int)) = decide (n = l.length) := by
      rw [hsz]
      by_cases h : n = l.length
      · subst h; simp
      · rw [decide_eq_false h]; exact beq_eq_false_iff_ne.2 (by omega)
    have he2 : (n == (mkS l).size) = decide (n = l.length) := by
      rw [hsz]
      by_cases h : n = l.length
      · subst h; simp
      · rw [decide_eq_false h]; simpa using h
    generalize decide (n = l.length) = q1 at *
    generalize l.contains 47 = q2 at *
    clear hsz h z0 hn p1 p2
    generalize mkS (List.replicate n 63) = QS at *
    generalize mkS l = S at *
    cases q1 <;> cases q2 <;> (
      go_enter Try.func8, Try.ntmps8
      go_wp2_with (first
        | (go_at_call 14; with_reducible refine (MT.out _).mono ?_; rintro e w1 ⟨rfl, hb1⟩; have B1 := Lib.hid hb1; clear hb1)
        | (go_at_call 19; with_reducible refine (PK.out _).mono ?_; rintro e w' ⟨rfl, hw⟩; replace hw := hw.symm; subst hw)
        | (go_at_call 20; with_reducible refine (RP.out _).mono ?_; rintro e w2 ⟨rfl, hb2⟩; have B2 := Lib.hid (B1.out.trans (hb2.mono B1.out.size)); clear hb2)
        | (go_at_call 15; with_reducible refine (M1.out _).mono ?_; rintro e w3 ⟨rfl, hb3⟩; have B3 := Lib.hid (B2.out.trans (hb3.mono B2.out.size)); clear hb3)
        | (go_at_call 16; with_reducible refine (C1.out _).mono ?_; rintro e w' ⟨rfl, hw⟩; replace hw := hw.symm; subst hw))
      go_ret
      exact ⟨by first | rfl | simp, B3.out⟩)
  · have hz : decide ((100 : Int) < ((mkS l).size : Int)) = true := decide_eq_true (by rw [hsz]; omega)
    clear hsz h z0
    generalize mkS l = S at *
    go_enter Try.func8, Try.ntmps8
    go_wp2_with (go_at_call 14; with_reducible refine (MT.out _).mono ?_; rintro e w1 ⟨rfl, hb1⟩)
    go_ret
    exact ⟨rfl, hb1⟩

theorem first_all (r : List UInt8) : firstL (42 :: 42 :: r) = some (⟨allT, true⟩, r) := rfl
theorem mat_all_nil : ∀ s : List UInt8, mat [42, 42] s = true
  | [] => by rw [mat_many (first_all []), mat_nil]; rfl
  | c :: s => by
    rw [mat_many (first_all [])]
    show (_ || (allT c.toNat && mat [42, 42] s)) = true
    rw [mat_all_nil s]; simp [allT]
theorem first_st : firstL [42] = some (⟨noSl, true⟩, []) := rfl
theorem mat_star_nil : ∀ s : List UInt8, mat [42] s = !s.contains 47
  | [] => by rw [mat_many first_st, mat_nil]; rfl
  | c :: s => by
    rw [mat_many first_st, mat_nil]
    show (false || (noSl c.toNat && mat [42] s)) = _
    rw [mat_star_nil s, noSl_eq, List.contains_cons]
    cases (47 == c) <;> simp
theorem star_valid : (patL [42]).isSome = true := by rw [patL_some first_st, patL_nil]; rfl
theorem all_valid : (patL [42, 42]).isSome = true := by rw [patL_some (first_all []), patL_nil]; rfl
/-- A quoted name, a byte of it made '?'. -/
theorem mat_mark (l : List UInt8) {A : Nat} {c : UInt8} (h : l[A]? = some c) : mat (quoteL (l.take A) ++ 63 :: quoteL (l.drop (A + 1))) l = noSl c.toNat := by
  have hA : A < l.length := (List.getElem?_eq_some_iff.1 h).1
  rw [mat_quote, List.length_take, Nat.min_eq_left (by omega), decide_eq_true rfl, Bool.true_and]
  have e : firstL (63 :: quoteL (l.drop (A + 1))) = some (⟨noSl, false⟩, quoteL (l.drop (A + 1))) := rfl
  rw [mat_one e, List.drop_eq_getElem_cons hA]
  have hc : l[A] = c := (List.getElem?_eq_some_iff.1 h).2
  rw [hc]
  show (noSl c.toNat && mat (quoteL (l.drop (A + 1))) (l.drop (A + 1))) = _
  rw [mat_quote_all, decide_eq_true rfl, Bool.and_true]
theorem mark_valid (l : List UInt8) (A : Nat) : (patL (quoteL (l.take A) ++ 63 :: quoteL (l.drop (A + 1)))).isSome = true := by
  apply quote_valid
  have e : firstL (63 :: quoteL (l.drop (A + 1))) = some (⟨noSl, false⟩, quoteL (l.drop (A + 1))) := rfl
  rw [patL_some e]
  have := quote_ok (l.drop (A + 1))
  cases h : patL (quoteL (l.drop (A + 1))) with
  | none => rw [h] at this; cases this
  | some l => rfl
theorem mat_tail (l : List UInt8) : mat (quoteL l ++ [42]) l = true := by
  rw [mat_quote, List.take_length, List.drop_length, decide_eq_true rfl, mat_star_nil]; rfl
theorem mat_rest (l : List UInt8) {A : Nat} (hA : A ≤ l.length) : mat (quoteL (l.take A) ++ [42, 42]) l = true := by
  rw [mat_quote, List.length_take, Nat.min_eq_left hA, decide_eq_true rfl, mat_all_nil]; rfl

set_option maxHeartbeats 2000000 in
theorem globWide_walk (a0 : ByteArray) (z0 : a0.size ≤ reachBytes) (a1 : Int) (w1 : (Lit.int .i64 a1).wf = true) (w : World) :
    Calls Try.prog 9 #[.string a0, .int .i64 a1] w fun e w' => e = .returned (.bool true) ∧ Below w.heap.size w w' := by
  obtain ⟨l, rfl⟩ : ∃ l, a0 = mkS l := ⟨a0.data.toList, (mkS_self a0).symm⟩
  have hsz := mkS_size l
  rw [hsz] at z0
  unfold reachBytes at z0
  have MT := Lib.hid (fun w => matched_true w)
  clear w1
  by_cases h0 : l = []
  · subst h0
    have e0 := mkS_emp_nil
    clear hsz z0
    go_enter Try.func9, Try.ntmps9
    go_wp2_with (go_at_call 14; with_reducible refine (MT.out _).mono ?_; rintro e w1 ⟨rfl, hb1⟩)
    go_ret
    exact ⟨rfl, hb1⟩
  · have e0 := mkS_emp l h0
    by_cases h : l.length ≤ 50
    · have hz : decide ((50 : Int) < ((mkS l).size : Int)) = false := decide_eq_false (by rw [hsz]; omega)
      have hl0 : 1 ≤ l.length := by cases l with | nil => exact absurd rfl h0 | cons _ _ => simp
      obtain ⟨p1, p2⟩ := pickG_range a1 (l.length : Int) (by omega)
      have PK := Lib.hid (fun w => pickg_any a1 (l.length : Int) w (by omega) (by omega))
      obtain ⟨A, hA⟩ := Int.eq_ofNat_of_zero_le p1
      rw [hA] at PK p2
      have hA2 : A < l.length := by omega
      obtain ⟨c, hc⟩ : ∃ c, l[A]? = some c := ⟨_, List.getElem?_eq_getElem hA2⟩
      have i0 : ∀ w, (Instr.index 9 (.string (mkS l)) (.int .i64 (A : Int))).run Try.prog w = .ok (.int .u8 (c.toNat : Int)) w := mkS_index l (A : Int) c (by omega) (by simpa using hc)
      have u0 := mkS_upto l A (by omega)
      have o0 := mkS_onward l (A + 1) (by omega)
      simp only [Int.natCast_add, Int.natCast_one] at o0
      have q1 := quoteL_len (l.take A)
      have q2 := quoteL_len (l.drop (A + 1))
      have q3 := quoteL_len l
      have t1 : (l.take A).length ≤ 50 := by simp; omega
      have t2 : (l.drop (A + 1)).length ≤ 50 := by simp; omega
      have t12 : (l.take A).length + (l.drop (A + 1)).length ≤ 50 := by simp; omega
      have Q1 := Lib.hid (fun w => quote_any (l.take A) (by omega) w)
      have Q2 := Lib.hid (fun w => quote_any (l.drop (A + 1)) (by omega) w)
      have Q3 := Lib.hid (fun w => quote_any l (by omega) w)
      have k1 : ∀ w, (Op.stringOp .add (mkS (quoteL (l.take A))) { data := #[63] }).run Try.prog w = .ok (.string (mkS (quoteL (l.take A) ++ [63]))) w := mkS_cat (quoteL (l.take A)) [63] (by simp; omega)
      have k2 := mkS_cat (quoteL (l.take A) ++ [63]) (quoteL (l.drop (A + 1))) (by simp; omega)
      rw [List.append_assoc] at k2
      have k3 : ∀ w, (Op.stringOp .add (mkS (quoteL l)) { data := #[42] }).run Try.prog w = .ok (.string (mkS (quoteL l ++ [42]))) w := mkS_cat (quoteL l) [42] (by simp; omega)
      have k4 : ∀ w, (Op.stringOp .add (mkS (quoteL (l.take A))) { data := #[42, 42] }).run Try.prog w = .ok (.string (mkS (quoteL (l.take A) ++ [42, 42]))) w := mkS_cat (quoteL (l.take A)) [42, 42] (by simp; omega)
      have M1 := Lib.hid (fun w => match_valid (quoteL (l.take A) ++ 63 :: quoteL (l.drop (A + 1))) l (by simp; omega) (by omega) (mark_valid l A) w)
      have M2 := Lib.hid (fun w => match_valid (quoteL l ++ [42]) l (by simp; omega) (by omega) (quote_valid _ star_valid l) w)
      have M3 := Lib.hid (fun w => match_valid (quoteL (l.take A) ++ [42, 42]) l (by simp; omega) (by omega) (quote_valid _ all_valid _) w)
      rw [mat_mark l hc] at M1
      rw [mat_tail] at M2
      rw [mat_rest l (by omega)] at M3
      have e63 : ([63] : List UInt8) ++ quoteL (l.drop (A + 1)) = 63 :: quoteL (l.drop (A + 1)) := rfl
      rw [e63] at k2
      have hn : ((c.toNat : Int) != 47) = noSl c.toNat := by
        unfold noSl
        by_cases h : c.toNat = 47
        · rw [h]; rfl
        · rw [decide_eq_false h]; exact bne_iff_ne.2 (by omega)
      have hAi : (A : Int) + 1 ≤ 9223372036854775807 := by omega
      generalize noSl c.toNat = v at *
      generalize (c.toNat : Int) = ci at *
      generalize quoteL (l.take A) ++ 63 :: quoteL (l.drop (A + 1)) = X1 at *
      generalize quoteL l ++ [42] = X2 at *
      generalize quoteL (l.take A) ++ [42, 42] = X3 at *
      generalize quoteL (l.take A) ++ [63] = X4 at *
      generalize quoteL (l.take A) = Y1 at *
      generalize quoteL (l.drop (A + 1)) = Y2 at *
      generalize quoteL l = Y3 at *
      generalize l.take A = Z1 at *
      generalize l.drop (A + 1) = Z2 at *
      rw [← hsz] at PK
      have HN := Lib.hid hn
      clear hn z0 h q1 q2 q3 t1 t2 t12 hA p1 p2 hc hA2 hl0 h0 e63 hsz
      generalize mkS l = S at *
      go_enter Try.func9, Try.ntmps9
      go_wp2_with (first
        | (go_at_call 14; with_reducible refine (MT.out _).mono ?_; rintro e w1 ⟨rfl, hb1⟩; have B1 := Lib.hid hb1; clear hb1)
        | (go_at_call 19; with_reducible refine (PK.out _).mono ?_; rintro e w' ⟨rfl, hw⟩; replace hw := hw.symm; subst hw))
      refine wp_region_quiet_below (by kernel_rfl) (by kernel_rfl) ?_
      repeat (go_big_quiet_step ((first
        | (go_at_call 12; with_reducible exact Calls.regrown_of (Q1.out _))
        | (go_at_call 12; with_reducible exact Calls.regrown_of (Q2.out _))
        | (go_at_call 15; with_reducible exact Calls.regrown_of (M1.out _)))))
      refine wpQuiet_nil ?_
      intro _ hw'
      obtain ⟨⟨dq, osq⟩, hw''⟩ := hw'
      subst hw''
      have B2 := Lib.hid (B1.out.trans ((below_regrown _ dq osq).mono B1.out.size))
      generalize Sort.grow (redrawn _ dq) osq = W at B2 ⊢
      have hn := HN.out
      cases v <;> (
        go_wp2_with (first
          | (go_at_call 12; with_reducible refine (Q3.out _).mono ?_; rintro e w3 ⟨rfl, hb3⟩; have B3 := Lib.hid (B2.out.trans (hb3.mono B2.out.size)); clear hb3)
          | (go_at_call 15; with_reducible refine (M2.out _).mono ?_; rintro e w4 ⟨rfl, hb4⟩; have B4 := Lib.hid (B3.out.trans (hb4.mono B3.out.size)); clear hb4)
          | (go_at_call 12; with_reducible refine (Q1.out _).mono ?_; rintro e w5 ⟨rfl, hb5⟩; have B5 := Lib.hid (B4.out.trans (hb5.mono B4.out.size)); clear hb5)
          | (go_at_call 15; with_reducible refine (M3.out _).mono ?_; rintro e w6 ⟨rfl, hb6⟩; have B6 := Lib.hid (B5.out.trans (hb6.mono B5.out.size)); clear hb6))
        go_ret
        exact ⟨by first | rfl | simp, B6.out⟩)
    · have hz : decide ((50 : Int) < ((mkS l).size : Int)) = true := decide_eq_true (by rw [hsz]; omega)
      clear hsz h z0 h0
      generalize mkS l = S at *
      go_enter Try.func9, Try.ntmps9
      go_wp2_with (go_at_call 14; with_reducible refine (MT.out _).mono ?_; rintro e w1 ⟨rfl, hb1⟩)
      go_ret
      exact ⟨rfl, hb1⟩
end Go.Proofs.Ytcdoiadmnckccaa
