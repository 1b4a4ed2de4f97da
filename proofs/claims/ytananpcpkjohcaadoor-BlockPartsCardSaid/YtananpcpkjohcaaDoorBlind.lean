/- The law NumberBlind's walk. -/
import Derived.Test.YtananpcpkjohcaaDoorBack
import Derived.Test.YtananpcpkjohcaaDoorSeal
import Derived.Deep.RegionWith
namespace Go.Proofs.YtananpcpkjohcaaDoor
open Go.RowKit
set_option linter.unusedVariables false

theorem repeat_any (c : UInt8) (n : Nat) (w : World) (h2 : n ≤ 1000) :
    Calls Tryd.prog 33 #[.string ⟨#[c]⟩, .int .i64 n] w fun e w' => e = .returned (.string (mkS (List.replicate n c))) ∧ Below w.heap.size w w' := by
  have h := Tryd.strings_Repeat ⟨#[c]⟩ n w (by omega) (by show 1 * n ≤ _; omega)
  have e : (⟨(Lib.repeatL [c] n).toArray⟩ : ByteArray) = mkS (List.replicate n c) := by
    have hc : ∀ m, Lib.repeatL [c] m = List.replicate m c := by
      intro m
      induction m with
      | zero => rfl
      | succ m ih => rw [Lib.repeatL, ih]; rfl
    unfold mkS
    rw [hc]
  rwa [e] at h

theorem cat_mkS (x y : List UInt8) (h : x.length + y.length ≤ 1000000) (w : World) : (Op.stringOp .add (mkS x) (mkS y)).run Tryd.prog w = .ok (.string (mkS (x ++ y))) w := cat_lists x y h w

theorem chain {w a b : World} (h : Below w.heap.size w a) (k : Below a.heap.size a b) : Below w.heap.size w b := h.trans (k.mono h.size)

/-- The pieces of the field that is read, joined one by one; opaque. -/
theorem blind_pieces (a0 a1 a2 a3 : Int) (c : UInt8) (hc : c = 32 ∨ c = 0) (V : Nat) (hV : 2 + pickF a1 19 = (V : Int)) (h1 : 0 ≤ a0) (h2 : a0 ≤ mostF V) : ∃ A B C D F : ByteArray, F.size ≤ 1000 ∧ readS F = (a0, 0) ∧
    (∀ w, Calls Tryd.prog 33 #[.string ⟨#[32]⟩, .int .i64 (pickF a2 9)] w fun e w' => e = .returned (.string A) ∧ Below w.heap.size w w') ∧
    (∀ w, (Instr.slice 9 (.string (strOfNums (octNums a0 V))) none (some (.int .i64 (2 + pickF a1 19 - 1))) none).run Tryd.prog w = .ok (.string B) w) ∧
    (∀ w, (Op.stringOp .add A B).run Tryd.prog w = .ok (.string C) w) ∧
    (∀ w, Calls Tryd.prog 33 #[.string ⟨#[c]⟩, .int .i64 (pickF a3 9)] w fun e w' => e = .returned (.string D) ∧ Below w.heap.size w w') ∧
    (∀ w, (Op.stringOp .add C D).run Tryd.prog w = .ok (.string F) w) := by
  have hp := pickF_range a1 19 (by omega)
  have hp2 := pickF_range a2 9 (by omega)
  have hp3 := pickF_range a3 9 (by omega)
  have hV1 : 2 ≤ V := by omega
  have hV2 : V ≤ 20 := by omega
  obtain ⟨p, hpp⟩ := Int.eq_ofNat_of_zero_le hp2.1
  obtain ⟨q, hq⟩ := Int.eq_ofNat_of_zero_le hp3.1
  have hU : ((octB a0 (V - 1)).map u8).length = V - 1 := by simp [octB_length]
  have hs : strOfNums (octNums a0 V) = mkS ((octB a0 (V - 1)).map u8 ++ [0]) := by
    rw [← mkS_self (strOfNums (octNums a0 V)), strOf_list]
    unfold octNums
    rw [List.map_append]; rfl
  refine ⟨mkS (List.replicate p 32), mkS ((octB a0 (V - 1)).map u8), _, mkS (List.replicate q c), _, ?_, ?_, fun w => ?_, fun w => ?_, fun w => cat_mkS _ _ ?_ w, fun w => ?_, fun w => cat_mkS _ _ ?_ w⟩
  · rw [mkS_size]; simp [octB_length]; omega
  · unfold readS
    rw [mkS_list, List.append_assoc]
    exact readF_digits a0 (V - 1) p q c hc h1 ((mostF_lt a0 V hV1 hV2 h1).1 h2) (by omega) (by omega)
  · rw [hpp]; exact repeat_any 32 p w (by omega)
  · rw [hs]; exact mkS_to _ 0 w _ (by rw [hU]; omega)
  · simp [octB_length]; omega
  · rw [hq]; exact repeat_any c q w (by omega)
  · simp [octB_length]; omega

set_option maxRecDepth 100000 in
set_option maxHeartbeats 4000000 in
theorem numberBlind_ok (a0 a1 a2 a3 : Int) (a4 : Bool) (V : Nat) (hV : 2 + pickF a1 19 = (V : Int)) (h1 : 0 ≤ a0) (h2 : a0 ≤ mostF V) (w : World) :
    Calls Tryd.prog 9 #[.int .i64 a0, .int .i64 a1, .int .i64 a2, .int .i64 a3, .bool a4] w fun e w' => e = .returned (.bool true) ∧ Below w.heap.size w w' := by
  obtain ⟨hp1, hp2⟩ := pickF_range a1 19 (by omega)
  have hV1 : 2 ≤ V := by omega
  have hV2 : V ≤ 20 := by omega
  have ca : ∀ w, Calls Tryd.prog 24 #[.int .i64 a0, .int .i64 (2 + pickF a1 19)] w fun e w' => e = .returned (.tuple #[.string (strOfNums (octNums a0 V)), .nilIface]) ∧ Below w.heap.size w w' := fun w => by rw [hV]; exact octal_ok a0 V w hV1 hV2 h1 h2
  have Ca := Lib.hid ca
  obtain ⟨c, hc, hcc⟩ : ∃ c : UInt8, (c = 32 ∨ c = 0) ∧ (a4 = false ∧ c = 32 ∨ a4 = true ∧ c = 0) := by
    cases a4
    · exact ⟨32, .inl rfl, .inl ⟨rfl, rfl⟩⟩
    · exact ⟨0, .inr rfl, .inr ⟨rfl, rfl⟩⟩
  obtain ⟨A, B, C, D, F, hF, hrd, ra, hsl, hac, rd, hcd⟩ := blind_pieces a0 a1 a2 a3 c hc V hV h1 h2
  have hm : F.size ≤ 9223372036854775807 := by omega
  have hwr : IntKind.i64.wrap (2 + pickF a1 19 - 1) = 2 + pickF a1 19 - 1 := IntWalk.i64_in _ ⟨by omega, by omega⟩
  have Ra := Lib.hid ra
  have Rd := Lib.hid rd
  have Hrd := Lib.hid hrd
  have HV := Lib.hid hV
  clear ca hV ra rd hrd hc
  rcases hcc with ⟨rfl, rfl⟩ | ⟨rfl, rfl⟩
  all_goals
    go_enter Tryd.func9, Tryd.ntmps9
    go_wp2_with (first
      | (go_at_call 29; refine (fielded_true _).mono ?_; rintro x w1 ⟨rfl, hb1⟩)
      | (go_at_call 30; refine (pick_any _ _ _ (by omega) (by omega)).mono ?_; rintro x w2 ⟨rfl, hw⟩; replace hw := hw.symm; subst hw))
    refine (Ca.out _).mono ?_; rintro x w2 ⟨rfl, hb2⟩
    go_wp2_with fail
    have hb12 := hb1.trans (hb2.mono hb1.size)
    clear hb1 hb2
    go_region_with (first
      | (go_at_call 30; refine (pick_any _ _ _ ?_ ?_).mono ?_; omega; omega; rintro x w3 ⟨rfl, rfl⟩)
      | (go_at_call_of 33 (pickF a2 9); refine (Ra.out _).mono ?_; rintro x w4 ⟨rfl, hb4⟩)
      | (go_at_call_of 33 (pickF a3 9); refine (Rd.out _).mono ?_; rintro x w5 ⟨rfl, hb5⟩)
      | (go_at_call 21; refine (read_ok _ _ Hrd.out _ hm).mono ?_; rintro x w6 ⟨rfl, hb6⟩))
    all_goals
      clear hsl hac hcd hwr Ra Rd Ca
      go_wp2_with fail
      go_ret
      exact ⟨rfl, chain (chain (chain hb12.drew hb4) hb5) hb6⟩

theorem numberBlind_no (a0 a1 a2 a3 : Int) (a4 : Bool) (V : Nat) (hV : 2 + pickF a1 19 = (V : Int)) (h : a0 < 0 ∨ mostF V < a0) (w : World) :
    Calls Tryd.prog 9 #[.int .i64 a0, .int .i64 a1, .int .i64 a2, .int .i64 a3, .bool a4] w fun e w' => e = .returned (.bool true) ∧ Below w.heap.size w w' := by
  obtain ⟨hp1, hp2⟩ := pickF_range a1 19 (by omega)
  have ca : ∀ w, Calls Tryd.prog 24 #[.int .i64 a0, .int .i64 (2 + pickF a1 19)] w fun e w' => e = .returned (.tuple #[.string ByteArray.empty, .iface 22 (.int .i64 2)]) ∧ w' = w := fun w => by rw [hV]; exact octal_range a0 V w (by omega) (by omega) h
  have Ca := Lib.hid ca
  clear ca hV h
  go_enter Tryd.func9, Tryd.ntmps9
  go_wp2_with (first
    | (go_at_call 29; refine (fielded_true _).mono ?_; rintro x w1 ⟨rfl, hb1⟩)
    | (go_at_call 30; refine (pick_any _ _ _ (by omega) (by omega)).mono ?_; rintro x w2 ⟨rfl, hw⟩; replace hw := hw.symm; subst hw))
  refine (Ca.out _).mono ?_; rintro x w2 ⟨rfl, hw⟩; replace hw := hw.symm; subst hw
  go_wp2_with fail
  go_ret
  exact ⟨rfl, hb1⟩

theorem numberBlind_walk (a0 : Int) (w0 : (Lit.int .i64 a0).wf = true) (a1 : Int) (w1 : (Lit.int .i64 a1).wf = true) (a2 : Int) (w2 : (Lit.int .i64 a2).wf = true) (a3 : Int) (w3 : (Lit.int .i64 a3).wf = true) (a4 : Bool) (w : World) :
    Calls Tryd.prog 9 #[.int .i64 a0, .int .i64 a1, .int .i64 a2, .int .i64 a3, .bool a4] w fun e w' => e = .returned (.bool true) ∧ Below w.heap.size w w' := by
  obtain ⟨hp1, hp2⟩ := pickF_range a1 19 (by omega)
  obtain ⟨V, hV⟩ : ∃ V : Nat, 2 + pickF a1 19 = (V : Int) := ⟨(2 + pickF a1 19).toNat, by omega⟩
  rcases octal_case a0 V (by omega) (by omega) with ⟨h1, h2⟩ | h
  · exact numberBlind_ok a0 a1 a2 a3 a4 V hV h1 h2 w
  · exact numberBlind_no a0 a1 a2 a3 a4 V hV h w
end Go.Proofs.YtananpcpkjohcaaDoor
