/- The law GlobEither's walk. -/
import Derived.Test.YtcdoiadmnckccaaEll
import Derived.Test.YtcdoiadmnckccaaCob
import Derived.Test.YtcdoiadmnckccaaMny
namespace Go.Proofs.Ytcdoiadmnckccaa
set_option linter.unusedVariables false
set_option linter.unusedSimpArgs false
open Go.RowKit Go.Joins
set_option maxRecDepth 100000

theorem byte_one (c : UInt8) (W : World) : (convert 31 9 (.slice (some ⟨W.heap.size, 0, none⟩) 1 1)).run Try.prog (W.alloc (.cells #[.int .u8 (c.toNat : Int)] 5)) = .ok (.string (mkS [c])) (W.alloc (.cells #[.int .u8 (c.toNat : Int)] 5)) := by
  have := run_convert_bytes_arg (P := Try.prog) (w := W.alloc (.cells #[.int .u8 (c.toNat : Int)] 5)) 31 5 Try.underlying31 Try.underlying5 W.heap.size 0 1 1 [(c.toNat : Int)] rfl (fun i hi => by
    obtain rfl : i = 0 := by omega
    simp) 9 Try.underlying9
  rw [this]
  have e : strOfNums [(c.toNat : Int)] = mkS [c] := by simp [strOfNums, mkS]
  rw [e]
/-- whole. -/
theorem whole_any (s : List UInt8) (hs : s.length ≤ 1000) (w : World) : Calls Try.prog 18 #[.string (mkS s)] w fun e w' => e = .returned (.bool (!decide (s = []) && !hasBad s)) ∧ Below w.heap.size w w' := by
  have CA := Lib.hid (containsAny_any s (by omega))
  by_cases h0 : s = []
  · subst h0
    have e0 := mkS_emp_nil
    go_enter Try.func18, Try.ntmps18
    go_wp2
    go_ret
    exact ⟨rfl, Below.refl _ _⟩
  · have e0 := mkS_emp s h0
    rw [decide_eq_false h0]
    clear h0 hs
    generalize hasBad s = b at *
    generalize mkS s = S at *
    go_enter Try.func18, Try.ntmps18
    go_wp2_with (go_at_call 30; with_reducible refine (CA.out _).mono ?_; rintro e w1 ⟨rfl, hb1⟩)
    go_ret
    exact ⟨by first | rfl | simp, hb1⟩
/-- What Match tells: a bool, or that the pattern is bad. -/
def Told (p n : List UInt8) : Prop := ∃ b : Bool, ∀ w, Calls Try.prog 15 #[.string (mkS p), .string (mkS n)] w fun e w' => e = .returned (.tuple #[.bool b, .nilIface]) ∧ Below w.heap.size w w'
def Denied (p n : List UInt8) : Prop := ∀ w, Calls Try.prog 15 #[.string (mkS p), .string (mkS n)] w fun e w' => e = .returned (.tuple #[.bool false, .iface 50 (.int .i64 3)]) ∧ Below w.heap.size w w'
theorem told_or (p n : List UInt8) (hp : p.length ≤ 120) (hn : n.length ≤ 120) : Told p n ∨ Denied p n := by
  cases hv : (patL p).isSome with
  | false => exact Or.inr (fun w => match_bad p n hp hn hv w)
  | true => exact Or.inl ⟨_, fun w => match_valid p n hp hn hv w⟩

set_option maxHeartbeats 4000000 in
theorem globEither_at (a0 : ByteArray) (z0 : a0.size ≤ reachBytes) (c : UInt8) (w : World) :
    Calls Try.prog 7 #[.string a0, .int .u8 (c.toNat : Int)] w fun e w' => e = .returned (.bool true) ∧ Below w.heap.size w w' := by
  obtain ⟨s, rfl⟩ : ∃ l, a0 = mkS l := ⟨a0.data.toList, (mkS_self a0).symm⟩
  have hsz := mkS_size s
  rw [hsz] at z0
  unfold reachBytes at z0
  have MT := Lib.hid (fun w => matched_true w)
  by_cases h40 : s.length ≤ 40
  · have hz : decide ((40 : Int) < ((mkS s).size : Int)) = false := decide_eq_false (by rw [hsz]; omega)
    have PF1 := Lib.hid (fun w => prefix_c s 33 w)
    have PF2 := Lib.hid (fun w => prefix_c s 94 w)
    cases ha : ahead 33 s with
    | true =>
      rw [ha] at PF1
      clear hsz z0 h40 ha PF2
      generalize mkS s = S at *
      go_enter Try.func7, Try.ntmps7
      go_wp2_with (first
        | (go_at_call 14; with_reducible refine (MT.out _).mono ?_; rintro e w1 ⟨rfl, hb1⟩)
        | (go_at_call 17; with_reducible refine (PF1.out _).mono ?_; rintro e w' ⟨rfl, hw⟩; replace hw := hw.symm; subst hw))
      go_ret
      exact ⟨rfl, hb1⟩
    | false =>
    cases hb : ahead 94 s with
    | true =>
      rw [ha] at PF1
      rw [hb] at PF2
      clear hsz z0 h40 ha hb
      generalize mkS s = S at *
      go_enter Try.func7, Try.ntmps7
      go_wp2_with (first
        | (go_at_call 14; with_reducible refine (MT.out _).mono ?_; rintro e w1 ⟨rfl, hb1⟩)
        | (go_at_call 17; with_reducible refine (PF1.out _).mono ?_; rintro e w' ⟨rfl, hw⟩; replace hw := hw.symm; subst hw)
        | (go_at_call 17; with_reducible refine (PF2.out _).mono ?_; rintro e w' ⟨rfl, hw⟩; replace hw := hw.symm; subst hw))
      go_ret
      exact ⟨rfl, hb1⟩
    | false =>
    rw [ha] at PF1
    rw [hb] at PF2
    have k1 : ∀ w, (Op.stringOp .add { data := #[91] } (mkS s)).run Try.prog w = .ok (.string (mkS (91 :: s))) w := mkS_cat [91] s (by simp; omega)
    have k2 : ∀ w, (Op.stringOp .add (mkS (91 :: s)) { data := #[93] }).run Try.prog w = .ok (.string (mkS (91 :: s ++ [93]))) w := mkS_cat (91 :: s) [93] (by simp; omega)
    have k3 : ∀ w, (Op.stringOp .add { data := #[91, 33] } (mkS s)).run Try.prog w = .ok (.string (mkS (91 :: 33 :: s))) w := mkS_cat [91, 33] s (by simp; omega)
    have k4 : ∀ w, (Op.stringOp .add (mkS (91 :: 33 :: s)) { data := #[93] }).run Try.prog w = .ok (.string (mkS (91 :: 33 :: s ++ [93]))) w := mkS_cat (91 :: 33 :: s) [93] (by simp; omega)
    have k5 : ∀ w, (Op.stringOp .add (mkS (91 :: s)) { data := #[93, 120] }).run Try.prog w = .ok (.string (mkS (91 :: s ++ [93, 120]))) w := mkS_cat (91 :: s) [93, 120] (by simp; omega)
    have CV := fun W => byte_one c W
    have WH := Lib.hid (fun w => whole_any s (by omega) w)
    have RT := Lib.hid (show ∀ w, Calls Try.prog 10 #[.string (mkS (91 :: s ++ [93]))] w fun e w' => e = .returned (.bool (patL (91 :: s ++ [93])).isSome) ∧ Below w.heap.size w w' from fun w => by
      have h := right_any (91 :: s ++ [93]) w (by simp; omega)
      have hl : (91 :: s ++ [93]).length ≤ 120 := by simp; omega
      rw [decide_eq_true hl, Bool.true_and] at h
      exact h)
    cases hwh : (!decide (s = []) && !hasBad s) with
    | true =>
      rw [hwh] at WH
      simp only [Bool.and_eq_true, Bool.not_eq_true', decide_eq_false_iff_not] at hwh
      obtain ⟨F, p1, p2, p3⟩ := pat_free hwh.1 (by rw [negL_eq, ha, hb]; rfl) hwh.2
      have M1 := Lib.hid (fun w => match_valid (91 :: s ++ [93]) [c] (by simp; omega) (by simp) (by rw [p1]; rfl) w)
      have M2 := Lib.hid (fun w => match_valid (91 :: 33 :: s ++ [93]) [c] (by simp; omega) (by simp) (by rw [p2]; rfl) w)
      have M3 := Lib.hid (show ∀ w, Calls Try.prog 15 #[.string (mkS (91 :: s ++ [93, 120])), .string { data := #[97, 120] }] w fun e w' => e = .returned (.tuple #[.bool (mat (91 :: s ++ [93, 120]) [97, 120]), .nilIface]) ∧ Below w.heap.size w w' from fun w => match_valid (91 :: s ++ [93, 120]) [97, 120] (by simp; omega) (by simp) p3 w)
      rw [mat_single p1] at M1
      rw [mat_single p2] at M2
      rw [p1] at RT
      have hn : ((c.toNat : Int) != 47) = !decide (c.toNat = 47) := by
        by_cases h : c.toNat = 47
        · rw [h]; rfl
        · rw [decide_eq_false h]; exact bne_iff_ne.2 (by omega)
      unfold takesOf at M1 M2
      rw [if_neg (by simp)] at M1
      rw [if_pos rfl] at M2
      generalize mat (91 :: s ++ [93, 120]) [97, 120] = bx at *
      generalize F c.toNat = f at *
      generalize decide (c.toNat = 47) = d at *
      clear hsz z0 h40 ha hb p1 p2 p3 hwh
      generalize mkS (91 :: 33 :: s ++ [93]) = X5 at *
      generalize mkS (91 :: 33 :: s) = X4 at *
      generalize mkS (91 :: s ++ [93, 120]) = X3 at *
      generalize mkS (91 :: s ++ [93]) = X2 at *
      generalize mkS (91 :: s) = X1 at *
      generalize mkS [c] = XC at *
      generalize mkS s = S at *
      generalize (c.toNat : Int) = ci at *
      cases d <;> cases f <;> (
        go_enter Try.func7, Try.ntmps7
        go_wp2_with (first
          | (go_at_call 14; with_reducible refine (MT.out _).mono ?_; rintro e w1 ⟨rfl, hb1⟩)
          | (go_at_call 17; with_reducible refine (PF1.out _).mono ?_; rintro e w' ⟨rfl, hw⟩; replace hw := hw.symm; subst hw)
          | (go_at_call 17; with_reducible refine (PF2.out _).mono ?_; rintro e w' ⟨rfl, hw⟩; replace hw := hw.symm; subst hw)
          | (go_at_call 15; with_reducible refine (M1.out _).mono ?_; rintro e w2 ⟨rfl, hb2⟩)
          | (go_at_call 15; with_reducible refine (M2.out _).mono ?_; rintro e w3 ⟨rfl, hb3⟩)
          | (go_at_call 10; with_reducible refine (RT.out _).mono ?_; rintro e w4 ⟨rfl, hb4⟩)
          | (go_at_call 15; with_reducible refine (M3.out _).mono ?_; rintro e w5 ⟨rfl, hb5⟩)
          | (go_at_call 18; with_reducible refine (WH.out _).mono ?_; rintro e w6 ⟨rfl, hb6⟩))
        go_ret
        have A1 := hb1.alloc hb1.size (.cells #[.int .u8 ci] 5)
        have A2 := A1.trans (hb2.mono A1.size)
        have A3 := A2.alloc A2.size (.cells #[.int .u8 ci] 5)
        have A4 := A3.trans (hb3.mono A3.size)
        have A5 := A4.trans (hb4.mono A4.size)
        have A6 := A5.trans (hb5.mono A5.size)
        exact ⟨by first | rfl | simp, A6.trans (hb6.mono A6.size)⟩)
    | false =>
      rw [hwh] at WH
      have T1 := told_or (91 :: s ++ [93]) [c] (by simp; omega) (by simp)
      have T2 := told_or (91 :: 33 :: s ++ [93]) [c] (by simp; omega) (by simp)
      have T3 : (∃ b : Bool, ∀ w, Calls Try.prog 15 #[.string (mkS (91 :: s ++ [93, 120])), .string { data := #[97, 120] }] w fun e w' => e = .returned (.tuple #[.bool b, .nilIface]) ∧ Below w.heap.size w w') ∨ (∀ w, Calls Try.prog 15 #[.string (mkS (91 :: s ++ [93, 120])), .string { data := #[97, 120] }] w fun e w' => e = .returned (.tuple #[.bool false, .iface 50 (.int .i64 3)]) ∧ Below w.heap.size w w') := told_or (91 :: s ++ [93, 120]) [97, 120] (by simp; omega) (by simp)
      unfold Told Denied at T1 T2
      clear hsz z0 h40 ha hb hwh
      generalize (patL (91 :: s ++ [93])).isSome = rt at *
      generalize mkS (91 :: 33 :: s ++ [93]) = X5 at *
      generalize mkS (91 :: 33 :: s) = X4 at *
      generalize mkS (91 :: s ++ [93, 120]) = X3 at *
      generalize mkS (91 :: s ++ [93]) = X2 at *
      generalize mkS (91 :: s) = X1 at *
      generalize mkS [c] = XC at *
      generalize mkS s = S at *
      generalize (c.toNat : Int) = ci at *
      rcases T1 with ⟨b1, T1⟩ | T1
      · have M1 := Lib.hid T1
        clear T1
        rcases T2 with ⟨b2, T2⟩ | T2
        · have M2 := Lib.hid T2
          clear T2
          cases rt with
          | false =>
            go_enter Try.func7, Try.ntmps7
            go_wp2_with (first
          | (go_at_call 14; with_reducible refine (MT.out _).mono ?_; rintro e w1 ⟨rfl, hb1⟩)
          | (go_at_call 17; with_reducible refine (PF1.out _).mono ?_; rintro e w' ⟨rfl, hw⟩; replace hw := hw.symm; subst hw)
          | (go_at_call 17; with_reducible refine (PF2.out _).mono ?_; rintro e w' ⟨rfl, hw⟩; replace hw := hw.symm; subst hw)
          | (go_at_call 15; with_reducible refine (M1.out _).mono ?_; rintro e w2 ⟨rfl, hb2⟩)
          | (go_at_call 15; with_reducible refine (M2.out _).mono ?_; rintro e w3 ⟨rfl, hb3⟩)
          | (go_at_call 10; with_reducible refine (RT.out _).mono ?_; rintro e w4 ⟨rfl, hb4⟩)
          | (go_at_call 15; with_reducible refine (M3.out _).mono ?_; rintro e w5 ⟨rfl, hb5⟩)
          | (go_at_call 18; with_reducible refine (WH.out _).mono ?_; rintro e w6 ⟨rfl, hb6⟩))
            go_ret
            have A1 := hb1.alloc hb1.size (.cells #[.int .u8 ci] 5)
            have A2 := A1.trans (hb2.mono A1.size)
            have A3 := A2.alloc A2.size (.cells #[.int .u8 ci] 5)
            have A4 := A3.trans (hb3.mono A3.size)
            exact ⟨rfl, A4.trans (hb4.mono A4.size)⟩
          | true =>
            rcases T3 with ⟨b3, T3⟩ | T3
            all_goals
              have M3 := Lib.hid T3
              clear T3
              go_enter Try.func7, Try.ntmps7
              go_wp2_with (first
          | (go_at_call 14; with_reducible refine (MT.out _).mono ?_; rintro e w1 ⟨rfl, hb1⟩)
          | (go_at_call 17; with_reducible refine (PF1.out _).mono ?_; rintro e w' ⟨rfl, hw⟩; replace hw := hw.symm; subst hw)
          | (go_at_call 17; with_reducible refine (PF2.out _).mono ?_; rintro e w' ⟨rfl, hw⟩; replace hw := hw.symm; subst hw)
          | (go_at_call 15; with_reducible refine (M1.out _).mono ?_; rintro e w2 ⟨rfl, hb2⟩)
          | (go_at_call 15; with_reducible refine (M2.out _).mono ?_; rintro e w3 ⟨rfl, hb3⟩)
          | (go_at_call 10; with_reducible refine (RT.out _).mono ?_; rintro e w4 ⟨rfl, hb4⟩)
          | (go_at_call 15; with_reducible refine (M3.out _).mono ?_; rintro e w5 ⟨rfl, hb5⟩)
          | (go_at_call 18; with_reducible refine (WH.out _).mono ?_; rintro e w6 ⟨rfl, hb6⟩))
              go_ret
              have A1 := hb1.alloc hb1.size (.cells #[.int .u8 ci] 5)
              have A2 := A1.trans (hb2.mono A1.size)
              have A3 := A2.alloc A2.size (.cells #[.int .u8 ci] 5)
              have A4 := A3.trans (hb3.mono A3.size)
              have A5 := A4.trans (hb4.mono A4.size)
              have A6 := A5.trans (hb5.mono A5.size)
              first
                | exact ⟨rfl, A6.trans (hb6.mono A6.size)⟩
                | exact ⟨rfl, A6⟩
        · have M2 := Lib.hid T2
          clear T2 T3
          go_enter Try.func7, Try.ntmps7
          go_wp2_with (first
          | (go_at_call 14; with_reducible refine (MT.out _).mono ?_; rintro e w1 ⟨rfl, hb1⟩)
          | (go_at_call 17; with_reducible refine (PF1.out _).mono ?_; rintro e w' ⟨rfl, hw⟩; replace hw := hw.symm; subst hw)
          | (go_at_call 17; with_reducible refine (PF2.out _).mono ?_; rintro e w' ⟨rfl, hw⟩; replace hw := hw.symm; subst hw)
          | (go_at_call 15; with_reducible refine (M1.out _).mono ?_; rintro e w2 ⟨rfl, hb2⟩)
          | (go_at_call 15; with_reducible refine (M2.out _).mono ?_; rintro e w3 ⟨rfl, hb3⟩)
          | (go_at_call 10; with_reducible refine (RT.out _).mono ?_; rintro e w4 ⟨rfl, hb4⟩)
          | (go_at_call 15; with_reducible refine (M3.out _).mono ?_; rintro e w5 ⟨rfl, hb5⟩)
          | (go_at_call 18; with_reducible refine (WH.out _).mono ?_; rintro e w6 ⟨rfl, hb6⟩))
          go_ret
          have A1 := hb1.alloc hb1.size (.cells #[.int .u8 ci] 5)
          have A2 := A1.trans (hb2.mono A1.size)
          have A3 := A2.alloc A2.size (.cells #[.int .u8 ci] 5)
          exact ⟨rfl, A3.trans (hb3.mono A3.size)⟩
      · have M1 := Lib.hid T1
        clear T1 T3
        rcases T2 with ⟨b2, T2⟩ | T2
        all_goals
          have M2 := Lib.hid T2
          clear T2
          go_enter Try.func7, Try.ntmps7
          go_wp2_with (first
          | (go_at_call 14; with_reducible refine (MT.out _).mono ?_; rintro e w1 ⟨rfl, hb1⟩)
          | (go_at_call 17; with_reducible refine (PF1.out _).mono ?_; rintro e w' ⟨rfl, hw⟩; replace hw := hw.symm; subst hw)
          | (go_at_call 17; with_reducible refine (PF2.out _).mono ?_; rintro e w' ⟨rfl, hw⟩; replace hw := hw.symm; subst hw)
          | (go_at_call 15; with_reducible refine (M1.out _).mono ?_; rintro e w2 ⟨rfl, hb2⟩)
          | (go_at_call 15; with_reducible refine (M2.out _).mono ?_; rintro e w3 ⟨rfl, hb3⟩)
          | (go_at_call 10; with_reducible refine (RT.out _).mono ?_; rintro e w4 ⟨rfl, hb4⟩)
          | (go_at_call 15; with_reducible refine (M3.out _).mono ?_; rintro e w5 ⟨rfl, hb5⟩)
          | (go_at_call 18; with_reducible refine (WH.out _).mono ?_; rintro e w6 ⟨rfl, hb6⟩))
          go_ret
          have A1 := hb1.alloc hb1.size (.cells #[.int .u8 ci] 5)
          have A2 := A1.trans (hb2.mono A1.size)
          have A3 := A2.alloc A2.size (.cells #[.int .u8 ci] 5)
          exact ⟨rfl, A3.trans (hb3.mono A3.size)⟩
  · have hz : decide ((40 : Int) < ((mkS s).size : Int)) = true := decide_eq_true (by rw [hsz]; omega)
    clear hsz z0 h40
    generalize mkS s = S at *
    go_enter Try.func7, Try.ntmps7
    go_wp2_with (go_at_call 14; with_reducible refine (MT.out _).mono ?_; rintro e w1 ⟨rfl, hb1⟩)
    go_ret
    exact ⟨rfl, hb1⟩
theorem globEither_walk (a0 : ByteArray) (z0 : a0.size ≤ reachBytes) (a1 : Int) (w1 : (Lit.int .u8 a1).wf = true) (w : World) :
    Calls Try.prog 7 #[.string a0, .int .u8 a1] w fun e w' => e = .returned (.bool true) ∧ Below w.heap.size w w' := by
  have h12 : 0 ≤ a1 ∧ a1 ≤ 255 := by simpa [Lit.wf, IntKind.min, IntKind.max, IntKind.signed, IntKind.bits] using w1
  have e : ((UInt8.ofNat a1.toNat).toNat : Int) = a1 := by
    rw [UInt8.toNat_ofNat']
    omega
  have h := globEither_at a0 z0 (UInt8.ofNat a1.toNat) w
  rwa [e] at h
end Go.Proofs.Ytcdoiadmnckccaa
