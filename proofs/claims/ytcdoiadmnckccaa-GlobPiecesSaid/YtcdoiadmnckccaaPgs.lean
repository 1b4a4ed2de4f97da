/- The law GlobPieces' walk. -/
import Derived.Test.YtcdoiadmnckccaaApd
import Derived.Test.YtcdoiadmnckccaaMny
namespace Go.Proofs.Ytcdoiadmnckccaa
set_option linter.unusedVariables false
set_option linter.unusedSimpArgs false
open Go.RowKit Go.Joins
set_option maxRecDepth 100000
theorem match_either (p n : List UInt8) (hp : p.length ≤ 120) (hn : n.length ≤ 120) :
    (mat p n = true ∧ ∀ w, Calls Try.prog 15 #[.string (mkS p), .string (mkS n)] w fun e w' => e = .returned (.tuple #[.bool true, .nilIface]) ∧ Below w.heap.size w w') ∨
    (mat p n = false ∧ ∀ w, Calls Try.prog 15 #[.string (mkS p), .string (mkS n)] w fun e w' => e = .returned (.tuple #[.bool false, .nilIface]) ∧ Below w.heap.size w w') ∨
    (∀ w, Calls Try.prog 15 #[.string (mkS p), .string (mkS n)] w fun e w' => e = .returned (.tuple #[.bool false, .iface 50 (.int .i64 3)]) ∧ Below w.heap.size w w') := by
  cases hv : (patL p).isSome with
  | false => exact Or.inr (Or.inr fun w => match_bad p n hp hn hv w)
  | true =>
    cases hm : mat p n with
    | true => exact Or.inl ⟨rfl, fun w => by have h := match_valid p n hp hn hv w; rwa [hm] at h⟩
    | false => exact Or.inr (Or.inl ⟨rfl, fun w => by have h := match_valid p n hp hn hv w; rwa [hm] at h⟩)

set_option maxHeartbeats 4000000 in
theorem globPieces_walk (a0 : ByteArray) (z0 : a0.size ≤ reachBytes) (a1 : ByteArray) (z1 : a1.size ≤ reachBytes) (a2 : ByteArray) (z2 : a2.size ≤ reachBytes) (a3 : ByteArray) (z3 : a3.size ≤ reachBytes) (w : World) :
    Calls Try.prog 6 #[.string a0, .string a1, .string a2, .string a3] w fun e w' => e = .returned (.bool true) ∧ Below w.heap.size w w' := by
  obtain ⟨p, rfl⟩ : ∃ l, a0 = mkS l := ⟨a0.data.toList, (mkS_self a0).symm⟩
  obtain ⟨q, rfl⟩ : ∃ l, a1 = mkS l := ⟨a1.data.toList, (mkS_self a1).symm⟩
  obtain ⟨a, rfl⟩ : ∃ l, a2 = mkS l := ⟨a2.data.toList, (mkS_self a2).symm⟩
  obtain ⟨b, rfl⟩ : ∃ l, a3 = mkS l := ⟨a3.data.toList, (mkS_self a3).symm⟩
  have s0 := mkS_size p
  have s1 := mkS_size q
  have s2 := mkS_size a
  have s3 := mkS_size b
  rw [s0] at z0
  rw [s1] at z1
  rw [s2] at z2
  rw [s3] at z3
  unfold reachBytes at z0 z1 z2 z3
  have MT := Lib.hid (fun w => matched_true w)
  have b1 : ((mkS p).size : Int) + ((mkS q).size : Int) ≤ 9223372036854775807 := by rw [s0, s1]; omega
  have b2 : ((mkS a).size : Int) + ((mkS b).size : Int) ≤ 9223372036854775807 := by rw [s2, s3]; omega
  by_cases h : p.length + q.length ≤ 100 ∧ a.length + b.length ≤ 100
  · have hx : decide ((100 : Int) < ((mkS p).size : Int) + ((mkS q).size : Int)) = false := decide_eq_false (by rw [s0, s1]; omega)
    have hy : decide ((100 : Int) < ((mkS a).size : Int) + ((mkS b).size : Int)) = false := decide_eq_false (by rw [s2, s3]; omega)
    have MA := Lib.hid (show ∀ w, Calls Try.prog 15 #[.string { data := #[42, 42] }, .string (mkS a)] w fun e w' => e = .returned (.tuple #[.bool true, .nilIface]) ∧ Below w.heap.size w w' from fun w => by
      have h := match_valid [42, 42] a (by simp) (by omega) all_valid w
      rw [mat_all_nil] at h; exact h)
    have MO := Lib.hid (show ∀ w, Calls Try.prog 15 #[.string { data := #[42] }, .string (mkS a)] w fun e w' => e = .returned (.tuple #[.bool (!a.contains 47), .nilIface]) ∧ Below w.heap.size w w' from fun w => by
      have h := match_valid [42] a (by simp) (by omega) star_valid w
      rw [mat_star_nil] at h; exact h)
    have CT := Lib.hid (fun w => contains_any a w)
    have k1 := mkS_cat p q (by omega)
    have k2 := mkS_cat a b (by omega)
    have MZ := Lib.hid (show mat p a = true → mat q b = true → ∀ w, Calls Try.prog 15 #[.string (mkS (p ++ q)), .string (mkS (a ++ b))] w fun e w' => e = .returned (.tuple #[.bool true, .nilIface]) ∧ Below w.heap.size w w' from fun h1 h2 w => by
      have hm := mat_app q b h2 _ p a (Nat.le_refl _) h1
      have h := match_valid (p ++ q) (a ++ b) (by simp; omega) (by simp; omega) (mat_valid hm) w
      rw [hm] at h; exact h)
    have C1 := match_either p a (by omega) (by omega)
    have C2 := match_either q b (by omega) (by omega)
    generalize mkS (p ++ q) = PQ at *
    generalize mkS (a ++ b) = AB at *
    generalize a.contains 47 = ct at *
    clear s0 s1 s2 s3 h z0 z1 z2 z3
    generalize mkS p = S at *
    generalize mkS q = T at *
    generalize mkS a = U at *
    generalize mkS b = V at *
    rcases C1 with ⟨m1, M1⟩ | ⟨m1, M1⟩ | M1 <;> rcases C2 with ⟨m2, M2⟩ | ⟨m2, M2⟩ | M2
    all_goals
      have M1 := Lib.hid M1
      have M2 := Lib.hid M2
      try (have M3 := Lib.hid (MZ.out m1 m2))
      clear MZ
      try clear m1
      try clear m2
      cases ct
      all_goals
        go_enter Try.func6, Try.ntmps6
        go_wp2_with (first
          | (go_at_call 14; with_reducible refine (MT.out _).mono ?_; rintro e w1 ⟨rfl, hb1⟩; have B1 := Lib.hid hb1; clear hb1)
          | (go_at_call 15; with_reducible refine (M1.out _).mono ?_; rintro e w2 ⟨rfl, hb2⟩; have B2 := Lib.hid (B1.out.trans (hb2.mono B1.out.size)); clear hb2)
          | (go_at_call 15; with_reducible refine (M2.out _).mono ?_; rintro e w3 ⟨rfl, hb3⟩; have B3 := Lib.hid (B2.out.trans (hb3.mono B2.out.size)); clear hb3)
          | (go_at_call 15; with_reducible refine (MA.out _).mono ?_; rintro e w4 ⟨rfl, hb4⟩; have B4 := Lib.hid (B3.out.trans (hb4.mono B3.out.size)); clear hb4)
          | (go_at_call 15; with_reducible refine (MO.out _).mono ?_; rintro e w5 ⟨rfl, hb5⟩; have B5 := Lib.hid (B4.out.trans (hb5.mono B4.out.size)); clear hb5)
          | (go_at_call 15; with_reducible refine (M3.out _).mono ?_; rintro e w6 ⟨rfl, hb6⟩; have B6 := Lib.hid (B5.out.trans (hb6.mono B5.out.size)); clear hb6)
          | (go_at_call 16; with_reducible refine (CT.out _).mono ?_; rintro e w' ⟨rfl, hw⟩; replace hw := hw.symm; subst hw))
        go_ret
        first
          | exact ⟨by first | rfl | simp, B6.out⟩
          | exact ⟨by first | rfl | simp, B5.out⟩
  · have hz : (decide ((100 : Int) < ((mkS p).size : Int) + ((mkS q).size : Int)) = true) ∨ (decide ((100 : Int) < ((mkS p).size : Int) + ((mkS q).size : Int)) = false ∧ decide ((100 : Int) < ((mkS a).size : Int) + ((mkS b).size : Int)) = true) := by
      rw [s0, s1, s2, s3]
      by_cases h1 : p.length + q.length ≤ 100
      · exact Or.inr ⟨decide_eq_false (by omega), decide_eq_true (by omega)⟩
      · exact Or.inl (decide_eq_true (by omega))
    clear s0 s1 s2 s3 h z0 z1 z2 z3
    generalize mkS p = S at *
    generalize mkS q = T at *
    generalize mkS a = U at *
    generalize mkS b = V at *
    rcases hz with hz | ⟨hz, hz2⟩ <;> (
      go_enter Try.func6, Try.ntmps6
      go_wp2_with (go_at_call 14; with_reducible refine (MT.out _).mono ?_; rintro e w1 ⟨rfl, hb1⟩)
      go_ret
      exact ⟨rfl, hb1⟩)
end Go.Proofs.Ytcdoiadmnckccaa
