/- The law BlockBent: its walk. -/
import Derived.Test.YtananpcpkjohcaaDoorSwap
namespace Go.Proofs.YtananpcpkjohcaaDoor
open Go.RowKit
set_option linter.unusedVariables false
set_option linter.unusedSimpArgs false

/-- where the byte stands. -/
theorem mkS_bent (T : List UInt8) (i : Nat) (c : UInt8) (h : i < T.length) : T.take i ++ [c] ++ T.drop (i + 1) = T.set i c := by
  rw [List.set_eq_take_append_cons_drop, if_pos h, List.append_assoc]; rfl
theorem mkS_inj (x y : List UInt8) : mkS x = mkS y ↔ x = y := by
  constructor
  · intro h; have := congrArg (fun s : ByteArray => s.data.toList) h; simpa [mkS_list] using this
  · rintro rfl; rfl

/-- one byte as a text. -/
theorem one_conv (c : UInt8) (w : World) : (convert 55 9 (.slice (some ⟨w.heap.size, 0, none⟩) 1 1)).run Tryd.prog (w.alloc (.cells #[.int .u8 (c.toNat : Int)] 5)).drew = .ok (.string (mkS [c])) (w.alloc (.cells #[.int .u8 (c.toNat : Int)] 5)).drew := by
  refine bytesAt_conv (l := [c]) ?_ 1 1 rfl
  intro j hj
  have : j = 0 := by simpa using hj
  subst this
  refine ⟨?_, ?_⟩
  · rw [World.cell?_drew, World.cell?_alloc_new]; rfl
  · rw [World.frozen?_drew, World.frozen?_alloc_new]

set_option maxRecDepth 100000 in
set_option maxHeartbeats 2000000 in
theorem blockBent_at (l : List UInt8) (hl : l.length ≤ 600) (a1 : Int) (n A : Nat) (hA : A < 512) (hn : n < 504) (hAn : (A = n ∧ n < 148) ∨ (A = n + 8 ∧ 148 ≤ n)) (c1 : ∀ w, Calls Tryd.prog 30 #[.int .i64 a1, .int .i64 504] w fun e w' => e = .returned (.int .i64 (n : Int)) ∧ w' = w) (c : UInt8) (w : World) :
    Calls Tryd.prog 15 #[.string (mkS l), .int .i64 a1, .int .u8 (c.toNat : Int)] w fun e w' => e = .returned (.bool true) ∧ Below w.heap.size w w' := by
  have hsz := mkS_size l
  have d : decide ((600 : Int) < (l.length : Int)) = false := by simp; omega
  have c3 := fun w => header_any l w hl
  have hT := sealL_length _ (headL_length l)
  have hbent := rightL_bent _ (headL_length l) A c hA (by omega)
  have hrT := rightL_seal _ (headL_length l)
  generalize sealL (headL l) = T at *
  have hset := mkS_bent T A c (by omega)
  have z1 := fun w => mkS_upto T A (by omega) w
  have z2 := fun w => cat_mkS (T.take A) [c] (by rw [List.length_take]; simp; omega) w
  have z3 := fun w => mkS_onward T (A + 1) (by omega) w
  have z4 := fun w => cat_mkS (T.take A ++ [c]) (T.drop (A + 1)) (by rw [List.length_append, List.length_take, List.length_drop]; simp; omega) w
  rw [hset] at z4
  have hUl : (T.set A c).length = 512 := by rw [List.length_set]; exact hT
  obtain ⟨b, hb⟩ : ∃ b : Bool, b = true ↔ rightL (T.set A c) := ⟨@decide (rightL (T.set A c)) (Classical.propDecidable _), by simp⟩
  have hb2 : ((mkS (T.set A c)).toList == (mkS T).toList) = b := by
    rw [ByteArray.toList_eq, ByteArray.toList_eq, mkS_list, mkS_list]
    cases b with
    | true => rw [beq_iff_eq]; exact hbent.1 (hb.1 rfl)
    | false => rw [beq_eq_false_iff_ne]; intro e; have := hb.2 (hbent.2 e); cases this
  have c4 := fun w => right_mkS _ true (iff_of_true rfl hrT) hT w
  have c5 := fun w => right_mkS _ b hb hUl w
  have hTs : (mkS T).size = 512 := by rw [mkS_size, hT]
  clear hset hUl hT hbent hrT hb
  generalize mkS (T.set A c) = U at *
  generalize mkS (T.take A ++ [c]) = S2 at *
  generalize mkS (T.take A) = S1 at *
  generalize mkS (T.drop (A + 1)) = S3 at *
  generalize mkS T = V at *
  generalize hC : mkS [c] = C at *
  have hcc := fun w => one_conv c w
  rw [hC] at hcc
  have C1 := Lib.hid c1
  have C3 := Lib.hid c3
  have C4 := Lib.hid c4
  have C5 := Lib.hid c5
  have Hsz := Lib.hid hsz
  clear c1 c3 c4 c5 hC hsz
  rcases hAn with ⟨rfl, h148⟩ | ⟨rfl, h148⟩
  · rw [show ((A + 1 : Nat) : Int) = (A : Int) + 1 by omega] at z3
    have hlt : (A : Int) < 148 := by omega
    go_enter Tryd.func15, Tryd.ntmps15
    go_wp2_with (first
      | (go_at_call 44; refine (blocked_true _).mono ?_; rintro x w1 ⟨rfl, hb1⟩)
      | (go_at_call 45; refine (C3.out _).mono ?_; rintro x w2 ⟨rfl, hb2⟩)
      | (go_at_call 30; refine (C1.out _).mono ?_; rintro x w9 ⟨rfl, hw⟩; replace hw := hw.symm; subst hw))
    go_region
    all_goals
      have hbb := ((chain hb1 hb2).alloc (chain hb1 hb2).size (.cells #[.int .u8 (c.toNat : Int)] 5)).drew
      clear z1 z2 z3 z4 hcc
      generalize (w2.alloc (.cells #[.int .u8 (c.toNat : Int)] 5)).drew = w4 at *
      go_wp2_with fail
      refine (C4.out _).mono ?_; rintro x w5 ⟨rfl, hb5⟩
      go_wp2_with fail
      refine (C5.out _).mono ?_; rintro x w6 ⟨rfl, hb6⟩
      go_wp2_with fail
      go_ret
      exact ⟨rfl, chain (chain hbb hb5) hb6⟩
  · rw [show ((n + 8 + 1 : Nat) : Int) = (n : Int) + 8 + 1 by omega] at z3
    rw [show ((n + 8 : Nat) : Int) = (n : Int) + 8 by omega] at z1
    have hge : ¬ (n : Int) < 148 := by omega
    have hge2 : (148 : Int) ≤ (n : Int) := by omega
    go_enter Tryd.func15, Tryd.ntmps15
    go_wp2_with (first
      | (go_at_call 44; refine (blocked_true _).mono ?_; rintro x w1 ⟨rfl, hb1⟩)
      | (go_at_call 45; refine (C3.out _).mono ?_; rintro x w2 ⟨rfl, hb2⟩)
      | (go_at_call 30; refine (C1.out _).mono ?_; rintro x w9 ⟨rfl, hw⟩; replace hw := hw.symm; subst hw))
    go_region
    all_goals
      have hbb := ((chain hb1 hb2).alloc (chain hb1 hb2).size (.cells #[.int .u8 (c.toNat : Int)] 5)).drew
      clear z1 z2 z3 z4 hcc
      generalize (w2.alloc (.cells #[.int .u8 (c.toNat : Int)] 5)).drew = w4 at *
      go_wp2_with fail
      refine (C4.out _).mono ?_; rintro x w5 ⟨rfl, hb5⟩
      go_wp2_with fail
      refine (C5.out _).mono ?_; rintro x w6 ⟨rfl, hb6⟩
      go_wp2_with fail
      go_ret
      exact ⟨rfl, chain (chain hbb hb5) hb6⟩

set_option maxRecDepth 100000 in
set_option maxHeartbeats 2000000 in
theorem blockBent_walk (a0 : ByteArray) (w0 : a0.size ≤ maxLen) (a1 : Int) (w1 : (Lit.int .i64 a1).wf = true) (a2 : Int) (w2 : (Lit.int .u8 a2).wf = true) (w : World) :
    Calls Tryd.prog 15 #[.string a0, .int .i64 a1, .int .u8 a2] w fun e w' => e = .returned (.bool true) ∧ Below w.heap.size w w' := by
  have hm : a0.size ≤ 9223372036854775807 := by unfold maxLen at w0; omega
  clear w0 w1
  by_cases hlen : (600 : Int) < (a0.size : Int)
  · clear w2
    go_enter Tryd.func15, Tryd.ntmps15
    go_wp2_with (first
      | (go_at_call 44; refine (blocked_true _).mono ?_; rintro x w1 ⟨rfl, hb1⟩)
      | (go_at_call 45; refine (header_long _ _ hm hlen).mono ?_; rintro x w2 ⟨rfl, hw⟩; replace hw := hw.symm; subst hw))
    go_ret
    exact ⟨rfl, hb1⟩
  · obtain ⟨l, rfl⟩ : ∃ l, a0 = mkS l := ⟨a0.data.toList, (mkS_self a0).symm⟩
    have hsz := mkS_size l
    have h12 : 0 ≤ a2 ∧ a2 ≤ 255 := by simpa [Lit.wf, IntKind.min, IntKind.max, IntKind.signed, IntKind.bits] using w2
    have hc := u8_toNat a2 (by omega) (by omega)
    rw [← hc]
    obtain ⟨p1, p2⟩ := pickF_range a1 504 (by omega)
    obtain ⟨n, hn⟩ := Int.eq_ofNat_of_zero_le p1
    have c1 := fun w => pick_any a1 504 w (by omega) (by omega)
    rw [hn] at c1
    by_cases h148 : n < 148
    · exact blockBent_at l (by omega) a1 n n (by omega) (by omega) (.inl ⟨rfl, h148⟩) c1 _ w
    · exact blockBent_at l (by omega) a1 n (n + 8) (by omega) (by omega) (.inr ⟨rfl, by omega⟩) c1 _ w
end Go.Proofs.YtananpcpkjohcaaDoor
