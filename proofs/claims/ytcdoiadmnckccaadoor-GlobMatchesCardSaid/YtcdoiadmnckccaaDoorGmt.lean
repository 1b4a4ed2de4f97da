/- The reference's Glob; the law GlobMatches' walk. -/
import Derived.Test.YtcdoiadmnckccaaDoorGlo
import Derived.Test.YtcdoiadmnckccaaDoorMat
import Derived.Test.YtcdoiadmnckccaaDoorTell
namespace Go.Proofs.YtcdoiadmnckccaaDoor
set_option linter.unusedVariables false
set_option linter.unusedSimpArgs false
open Go.RowKit Go.Joins Go.Maps
set_option maxRecDepth 100000

set_option maxHeartbeats 1000000 in
theorem refGlob_valid (p n : List UInt8) (hp : p.length ≤ 120) (hn : n.length ≤ 120) (hv : (patL p).isSome = true) (w : World) :
    Calls Tryd.prog 4 #[.string (mkS p), .string (mkS n)] w fun e w' => e = .returned (.tuple #[.bool (mat p n), .int .i64 0]) ∧ Below w.heap.size w w' := by
  have sp := mkS_size p
  have sn := mkS_size n
  have z1 : decide ((120 : Int) < ((mkS p).size : Int)) = false := decide_eq_false (by rw [sp]; omega)
  have z2 : decide ((120 : Int) < ((mkS n).size : Int)) = false := decide_eq_false (by rw [sn]; omega)
  have GI := Lib.hid (fun w => globIs_any p (by omega) w)
  rw [hv] at GI
  have GA := Lib.hid (show ∀ W, Calls Tryd.prog 8 #[.string (mkS p), .string (mkS n), .map (some W.heap.size)] (W.alloc (.map #[] 0)) fun e w' => e = .returned (.bool (mat p n)) ∧ Below W.heap.size W w' from fun W =>
    (globAll_any p n hp hn W.heap.size _ p n (Nat.le_refl _) (List.suffix_refl _) (List.suffix_refl _) hv _ _ (Memo.new W _)).mono fun e w' ⟨he, H', _, _, hb⟩ => ⟨he, (below_alloc1 W _).trans ((hb.mono (m := W.heap.size) (by simp)).below (Nat.le_refl _))⟩)
  have hmm := @run_makeMap Tryd.prog
  generalize mat p n = x at *
  clear sp sn hp hn hv
  generalize mkS p = S at *
  generalize mkS n = T at *
  go_enter Tryd.func4, Tryd.ntmps4
  go_wp2_with (first
    | (go_at_call 7; with_reducible refine (GI.out _).mono ?_; rintro e w1 ⟨rfl, hb1⟩; have B1 := Lib.hid hb1; clear hb1)
    | (go_at_call 8; with_reducible refine (GA.out _).mono ?_; rintro e w2 ⟨rfl, hb2⟩; have B2 := Lib.hid (B1.out.trans (hb2.mono B1.out.size)); clear hb2))
  go_ret2
  exact ⟨rfl, B2.out⟩

set_option maxHeartbeats 1000000 in
theorem refGlob_bad (p n : List UInt8) (hp : p.length ≤ 120) (hn : n.length ≤ 120) (hv : (patL p).isSome = false) (w : World) :
    Calls Tryd.prog 4 #[.string (mkS p), .string (mkS n)] w fun e w' => e = .returned (.tuple #[.bool false, .int .i64 3]) ∧ Below w.heap.size w w' := by
  have sp := mkS_size p
  have sn := mkS_size n
  have z1 : decide ((120 : Int) < ((mkS p).size : Int)) = false := decide_eq_false (by rw [sp]; omega)
  have z2 : decide ((120 : Int) < ((mkS n).size : Int)) = false := decide_eq_false (by rw [sn]; omega)
  have GI := Lib.hid (fun w => globIs_any p (by omega) w)
  rw [hv] at GI
  clear sp sn hp hn hv
  generalize mkS p = S at *
  generalize mkS n = T at *
  go_enter Tryd.func4, Tryd.ntmps4
  go_wp2_with (go_at_call 7; with_reducible refine (GI.out _).mono ?_; rintro e w1 ⟨rfl, hb1⟩)
  go_ret2
  exact ⟨rfl, hb1⟩

set_option maxHeartbeats 1000000 in
theorem refGlob_long (S T : ByteArray) (h : decide ((120 : Int) < (S.size : Int)) = true ∨ (decide ((120 : Int) < (S.size : Int)) = false ∧ decide ((120 : Int) < (T.size : Int)) = true)) (w : World) :
    Calls Tryd.prog 4 #[.string S, .string T] w fun e w' => e = .returned (.tuple #[.bool false, .int .i64 4]) ∧ Below w.heap.size w w' := by
  rcases h with h | ⟨h, h2⟩ <;> (
    go_enter Tryd.func4, Tryd.ntmps4
    go_wp2
    go_ret2
    exact ⟨rfl, Below.refl _ _⟩)

set_option maxHeartbeats 1000000 in
theorem globMatches_walk (a0 : ByteArray) (z0 : a0.size ≤ reachBytes) (a1 : ByteArray) (z1 : a1.size ≤ reachBytes) (w : World) (hg : ErrLaid w) :
    Calls Tryd.prog 3 #[.string a0, .string a1] w fun e w' => e = .returned (.bool true) ∧ Below w.heap.size w w' := by
  obtain ⟨p, rfl⟩ : ∃ l, a0 = mkS l := ⟨a0.data.toList, (mkS_self a0).symm⟩
  obtain ⟨n, rfl⟩ : ∃ l, a1 = mkS l := ⟨a1.data.toList, (mkS_self a1).symm⟩
  have sp := mkS_size p
  have sn := mkS_size n
  have HG := Lib.hid hg
  clear z0 z1 hg
  by_cases hlim : p.length ≤ 130 ∧ n.length ≤ 130
  · have z1 : decide ((130 : Int) < ((mkS p).size : Int)) = false := decide_eq_false (by rw [sp]; omega)
    have z2 : decide ((130 : Int) < ((mkS n).size : Int)) = false := decide_eq_false (by rw [sn]; omega)
    have BN := Lib.hid bare_nil
    by_cases h : p.length ≤ 120 ∧ n.length ≤ 120
    · cases hp : patL p with
      | none =>
        have R := Lib.hid (fun w => refGlob_bad p n h.1 h.2 (by rw [hp]; rfl) w)
        have M := Lib.hid (show ∀ w, Calls Tryd.prog 5 #[.string (mkS p), .string (mkS n)] w fun e w' => e = .returned (.tuple #[.bool false, .iface 22 (.int .i64 3)]) ∧ Below w.heap.size w w' from fun w => match_none p n h.1 h.2 hp w)
        clear sp sn hlim h hp BN
        generalize mkS p = S at *
        generalize mkS n = T at *
        go_enter Tryd.func3, Tryd.ntmps3
        go_wp2_with (first
          | (go_at_call 4; with_reducible refine (R.out _).mono ?_; rintro e w1 ⟨rfl, hb1⟩; have B1 := Lib.hid hb1; clear hb1)
          | (go_at_call 5; with_reducible refine (M.out _).mono ?_; rintro e w2 ⟨rfl, hb2⟩; have B2 := Lib.hid (B1.out.trans (hb2.mono B1.out.size)); clear hb2)
          | (go_at_call 6; with_reducible refine (bare_err 3 _ (HG.out.below B2.out)).mono ?_; rintro e w3 ⟨rfl, hb3⟩; have B3 := Lib.hid (B2.out.trans (hb3.mono B2.out.size)); clear hb3))
        go_ret
        exact ⟨by first | rfl | simp, B3.out⟩
      | some l =>
        have hv : (patL p).isSome = true := by rw [hp]; rfl
        have e : mat p n = matL l n := by unfold mat; rw [hp]
        have R := Lib.hid (fun w => refGlob_valid p n h.1 h.2 hv w)
        have M := Lib.hid (fun w => match_some p n h.1 h.2 l hp w)
        rw [e] at R
        generalize matL l n = x at *
        clear sp sn hlim h hp hv e
        generalize mkS p = S at *
        generalize mkS n = T at *
        cases x <;> (
          go_enter Tryd.func3, Tryd.ntmps3
          go_wp2_with (first
            | (go_at_call 4; with_reducible refine (R.out _).mono ?_; rintro e w1 ⟨rfl, hb1⟩; have B1 := Lib.hid hb1; clear hb1)
            | (go_at_call 5; with_reducible refine (M.out _).mono ?_; rintro e w2 ⟨rfl, hb2⟩; have B2 := Lib.hid (B1.out.trans (hb2.mono B1.out.size)); clear hb2)
            | (go_at_call 6; with_reducible refine (BN.out _).mono ?_; rintro e w3 ⟨rfl, hw⟩; replace hw := hw.symm; subst hw))
          go_ret
          exact ⟨by first | rfl | simp, B2.out⟩)
    · have R := Lib.hid (fun w => refGlob_long (mkS p) (mkS n) (by
        rw [sp, sn]
        by_cases h1 : p.length ≤ 120
        · exact Or.inr ⟨decide_eq_false (by omega), decide_eq_true (by omega)⟩
        · exact Or.inl (decide_eq_true (by omega))) w)
      have M := Lib.hid (show ∀ w, Calls Tryd.prog 5 #[.string (mkS p), .string (mkS n)] w fun e w' => e = .returned (.tuple #[.bool false, .iface 22 (.int .i64 4)]) ∧ Below w.heap.size w w' from fun w => match_long p n (by omega) (by omega) h w)
      clear sp sn hlim h BN
      generalize mkS p = S at *
      generalize mkS n = T at *
      go_enter Tryd.func3, Tryd.ntmps3
      go_wp2_with (first
        | (go_at_call 4; with_reducible refine (R.out _).mono ?_; rintro e w1 ⟨rfl, hb1⟩; have B1 := Lib.hid hb1; clear hb1)
        | (go_at_call 5; with_reducible refine (M.out _).mono ?_; rintro e w2 ⟨rfl, hb2⟩; have B2 := Lib.hid (B1.out.trans (hb2.mono B1.out.size)); clear hb2)
        | (go_at_call 6; with_reducible refine (bare_err 4 _ (HG.out.below B2.out)).mono ?_; rintro e w3 ⟨rfl, hb3⟩; have B3 := Lib.hid (B2.out.trans (hb3.mono B2.out.size)); clear hb3))
      go_ret
      exact ⟨by first | rfl | simp, B3.out⟩
  · have hz : (decide ((130 : Int) < ((mkS p).size : Int)) = true) ∨ (decide ((130 : Int) < ((mkS p).size : Int)) = false ∧ decide ((130 : Int) < ((mkS n).size : Int)) = true) := by
      rw [sp, sn]
      by_cases h1 : p.length ≤ 130
      · exact Or.inr ⟨decide_eq_false (by omega), decide_eq_true (by omega)⟩
      · exact Or.inl (decide_eq_true (by omega))
    clear sp sn hlim HG
    generalize mkS p = S at *
    generalize mkS n = T at *
    rcases hz with hz | ⟨hz, hz2⟩ <;> (
      go_enter Tryd.func3, Tryd.ntmps3
      go_wp2
      go_ret
      exact ⟨rfl, Below.refl _ _⟩)
end Go.Proofs.YtcdoiadmnckccaaDoor
