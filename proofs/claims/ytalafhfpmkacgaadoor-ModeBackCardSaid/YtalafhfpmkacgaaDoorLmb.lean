/- The law ModeBack: its walk. -/
import Derived.Test.YtalafhfpmkacgaaDoorKmd
namespace Go.Proofs.YtalafhfpmkacgaaDoor
open Go.RowKit Go.Joins
set_option linter.unusedVariables false
set_option linter.unusedSimpArgs false
set_option maxRecDepth 100000

theorem parsR_text (m : Nat) (hm : m < 4096) : parsR (textL (Nat.testBit m)) = (0, m) := by
  unfold parsR
  rw [parse_text m hm, if_pos rfl]
theorem parsR_back (l : List UInt8) (k : Nat) (h : parsR l = (0, k)) : textL (Nat.testBit k) = l := by
  unfold parsR at h
  split at h
  · next hh => injection h with _ h; rw [← h]; exact hh
  · injection h with h; cases h
theorem parsR_two (l : List UInt8) : (∃ k, parsR l = (0, k)) ∨ parsR l = (3, 0) := by
  unfold parsR
  split
  · exact .inl ⟨_, rfl⟩
  · exact .inr rfl

set_option maxHeartbeats 2000000 in
theorem modeBack_walk (a0 : Int) (w0 : (Lit.int .i64 a0).wf = true) (a1 : ByteArray) (z1 : a1.size ≤ reachBytes) (w : World) (hA : AtoiLaid w) :
    Calls Tryd.prog 6 #[.int .i64 a0, .string a1] w fun e w' => e = .returned (.bool true) ∧ Below w.heap.size w w' := by
  obtain ⟨l, rfl⟩ : ∃ l, a1 = mkS l := ⟨a1.data.toList, (mkS_self a1).symm⟩
  have hz := mkS_size l
  rw [hz] at z1
  unfold reachBytes at z1
  obtain ⟨m, hm, PK⟩ := pick_nat a0 4096 (by omega) (by omega)
  have MO := Lib.hid (fun w h => moded_true w h)
  have PK := Lib.hid (show ∀ w, Calls Tryd.prog 18 #[.int .i64 a0, .int .i64 4096] w fun e w' => e = .returned (.int .i64 (m : Int)) ∧ w' = w from PK)
  have T1 := Lib.hid (fun w => text_any (m : Int) w)
  rw [bitI_fun] at T1
  have P1 := Lib.hid (fun w => parse_ok (parsR_text m hm) (by rw [textL_length]; omega) w)
  have O1 := Lib.hid (fun w => octalK_any m hm w)
  have CO := Lib.hid (fun (T : List UInt8) (h : OcI m 0 T ∧ T ≠ []) w hA => change_ok (oc_octal hm h.1 h.2 false 0 (by omega)) (by have := h.1.2.2; omega) w hA)
  have CO := Lib.hid (show ∀ (T : List UInt8), (OcI m 0 T ∧ T ≠ []) → ∀ w, AtoiLaid w → Calls Tryd.prog 11 #[.int .i64 0, .string (mkS T), .bool false] w fun e W' => e = .returned (.tuple #[.int .i64 (m : Int), .nilIface]) ∧ Below w.heap.size w W' from CO.out)
  have HA := Lib.hid hA
  have HM := Lib.hid hm
  clear hA w0 hm
  generalize hXX : textL (Nat.testBit m) = XT at *
  rcases parsR_two l with ⟨k, hk⟩ | hk
  · have P2 := Lib.hid (fun w => parse_ok hk (by omega) w)
    have T2 := Lib.hid (fun w => text_any (k : Int) w)
    rw [bitI_fun, parsR_back l k hk] at T2
    have hq : ((mkS l).toList == (mkS l).toList) = true := by rw [beq_self_eq_true]
    clear hz z1 hk hXX
    generalize mkS l = S at *
    generalize mkS XT = ST at *
    go_enter Tryd.func6, Tryd.ntmps6
    go_wp2_with (first
      | (go_at_call 17; with_reducible refine (MO.out _ HA.out).mono ?_; rintro e w1 ⟨rfl, hb1⟩; have B1 := Lib.hid hb1; clear hb1)
      | (go_at_call 18; with_reducible refine (PK.out _).mono ?_; rintro e w' ⟨rfl, hw⟩; replace hw := hw.symm; subst hw)
      | (go_at_call 13; with_reducible refine (T1.out _).mono ?_; rintro e w2 ⟨rfl, hb2⟩; have B2 := Lib.hid (B1.out.trans (hb2.mono B1.out.size)); clear hb2)
      | (go_at_call 16; with_reducible refine (P1.out _).mono ?_; rintro e w3 ⟨rfl, hb3⟩; have B3 := Lib.hid (B2.out.trans (hb3.mono B2.out.size)); clear hb3)
      | (go_at_call 19; with_reducible refine (O1.out _).mono ?_; rintro e w4 ⟨⟨TT, rfl, hoc⟩, hb4⟩; have B4 := Lib.hid (B3.out.trans (hb4.mono B3.out.size)); have HOC := Lib.hid hoc; clear hb4 hoc)
      | (go_at_call 11; with_reducible refine (CO.out _ HOC.out _ (HA.out.below B4.out)).mono ?_; rintro e w5 ⟨rfl, hb5⟩; have B5 := Lib.hid (B4.out.trans (hb5.mono B4.out.size)); clear hb5)
      | (go_at_call 16; with_reducible refine (P2.out _).mono ?_; rintro e w6 ⟨rfl, hb6⟩; have B6 := Lib.hid (B5.out.trans (hb6.mono B5.out.size)); clear hb6)
      | (go_at_call 13; with_reducible refine (T2.out _).mono ?_; rintro e w7 ⟨rfl, hb7⟩; have B7 := Lib.hid (B6.out.trans (hb7.mono B6.out.size)); clear hb7))
    go_ret
    exact ⟨by first | rfl | simp, B7.out⟩
  · have P2 := Lib.hid (fun w => parse_form hk (by omega) w)
    clear hz z1 hk hXX
    generalize mkS l = S at *
    generalize mkS XT = ST at *
    go_enter Tryd.func6, Tryd.ntmps6
    go_wp2_with (first
      | (go_at_call 17; with_reducible refine (MO.out _ HA.out).mono ?_; rintro e w1 ⟨rfl, hb1⟩; have B1 := Lib.hid hb1; clear hb1)
      | (go_at_call 18; with_reducible refine (PK.out _).mono ?_; rintro e w' ⟨rfl, hw⟩; replace hw := hw.symm; subst hw)
      | (go_at_call 13; with_reducible refine (T1.out _).mono ?_; rintro e w2 ⟨rfl, hb2⟩; have B2 := Lib.hid (B1.out.trans (hb2.mono B1.out.size)); clear hb2)
      | (go_at_call 16; with_reducible refine (P1.out _).mono ?_; rintro e w3 ⟨rfl, hb3⟩; have B3 := Lib.hid (B2.out.trans (hb3.mono B2.out.size)); clear hb3)
      | (go_at_call 19; with_reducible refine (O1.out _).mono ?_; rintro e w4 ⟨⟨TT, rfl, hoc⟩, hb4⟩; have B4 := Lib.hid (B3.out.trans (hb4.mono B3.out.size)); have HOC := Lib.hid hoc; clear hb4 hoc)
      | (go_at_call 11; with_reducible refine (CO.out _ HOC.out _ (HA.out.below B4.out)).mono ?_; rintro e w5 ⟨rfl, hb5⟩; have B5 := Lib.hid (B4.out.trans (hb5.mono B4.out.size)); clear hb5)
      | (go_at_call 16; with_reducible refine (P2.out _).mono ?_; rintro e w6 ⟨rfl, hb6⟩; have B6 := Lib.hid (B5.out.trans (hb6.mono B5.out.size)); clear hb6))
    go_ret
    exact ⟨by first | rfl | simp, B6.out⟩
end Go.Proofs.YtalafhfpmkacgaaDoor
