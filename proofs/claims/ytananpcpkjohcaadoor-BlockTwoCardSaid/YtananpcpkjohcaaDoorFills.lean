/- The laws BlockFills and BlockTwo: their walks. -/
import Derived.Test.YtananpcpkjohcaaDoorBlocked
namespace Go.Proofs.YtananpcpkjohcaaDoor
open Go.RowKit
set_option linter.unusedVariables false
set_option linter.unusedSimpArgs false

theorem fillL_length (l : List UInt8) : ((fillL l).length : Int) = (l.length : Int) + padF l.length ∧ ((l.length : Int) + padF l.length) % 512 = 0 := by
  obtain ⟨h1, h2⟩ := padF_range (l.length : Int)
  refine ⟨by unfold fillL; rw [List.length_append, List.length_replicate]; omega, ?_⟩
  unfold padF
  rw [if_neg (by omega)]
  omega
theorem padF_add (a b : Int) (ha : a % 512 = 0) (h1 : 0 ≤ a) (h2 : 0 ≤ b) : padF (a + b) = padF b := by
  unfold padF
  rw [if_neg (by omega), if_neg (by omega)]
  omega
theorem fillL_again (l : List UInt8) : fillL (fillL l) = fillL l := by
  obtain ⟨h1, h2⟩ := fillL_length l
  obtain ⟨h3, h4⟩ := padF_range (l.length : Int)
  have : padF ((fillL l).length : Int) = 0 := by
    have := padF_add ((fillL l).length : Int) 0 (by omega) (by omega) (by omega)
    rw [Int.add_zero] at this
    rw [this]; decide
  rw [show fillL (fillL l) = fillL l ++ List.replicate (padF (fillL l).length).toNat 0 from rfl, this]
  simp
theorem fillL_two (l m : List UInt8) : fillL (fillL l ++ m) = fillL l ++ fillL m := by
  obtain ⟨h1, h2⟩ := fillL_length l
  obtain ⟨h3, h4⟩ := padF_range (l.length : Int)
  have : padF ((fillL l ++ m).length : Int) = padF (m.length : Int) := by
    rw [List.length_append]
    have := padF_add ((fillL l).length : Int) (m.length : Int) (by omega) (by omega) (by omega)
    rw [← this]; congr 1
  rw [show fillL (fillL l ++ m) = fillL l ++ m ++ List.replicate (padF (fillL l ++ m).length).toNat 0 from rfl, this, List.append_assoc]
  rfl
theorem prefix_fill (l m : List UInt8) : Lib.hasPrefix (l ++ m) l = true := by
  unfold Lib.hasPrefix; rw [List.isPrefixOf_iff_prefix]; exact ⟨m, rfl⟩

theorem prefix_any (l m : List UInt8) (w : World) :
    Calls Tryd.prog 47 #[.string (mkS (l ++ m)), .string (mkS l)] w fun e w' => e = .returned (.bool true) ∧ w' = w := by
  have := Tryd.strings_HasPrefix (mkS (l ++ m)) (mkS l) w
  rwa [mkS_list, mkS_list, prefix_fill] at this

set_option maxRecDepth 100000 in
set_option maxHeartbeats 1000000 in
theorem blockFills_walk (a0 : ByteArray) (w0 : a0.size ≤ maxLen) (w : World) :
    Calls Tryd.prog 17 #[.string a0] w fun e w' => e = .returned (.bool true) ∧ Below w.heap.size w w' := by
  have hm : a0.size ≤ 9223372036854775807 := by unfold maxLen at w0; omega
  clear w0
  by_cases hlen : (2000 : Int) < (a0.size : Int)
  · go_enter Tryd.func17, Tryd.ntmps17
    go_wp2_with (go_at_call 44; refine (blocked_true _).mono ?_; rintro x w1 ⟨rfl, hb1⟩)
    go_ret
    exact ⟨rfl, hb1⟩
  · obtain ⟨l, rfl⟩ : ∃ l, a0 = mkS l := ⟨a0.data.toList, (mkS_self a0).symm⟩
    have hsz := mkS_size l
    rw [hsz] at hlen hm
    have d : decide ((2000 : Int) < (l.length : Int)) = false := by simpa using hlen
    have hl : l.length ≤ 2000 := by omega
    obtain ⟨g1, g2⟩ := fillL_length l
    obtain ⟨g3, g4⟩ := padF_range (l.length : Int)
    have hT := mkS_size (fillL l)
    have hTl : (fillL l).length ≤ 2511 := by omega
    have c1 := fun w => fill_any l w (by omega)
    have c2 := fun w => fill_any (fillL l) w (by omega)
    rw [fillL_again] at c2
    have c3 := fun w => pad_any (l.length : Int) w (by omega)
    have c4 := fun w => prefix_any l (List.replicate (padF l.length).toNat 0) w
    have hsl : ∀ w, (Instr.slice 9 (.string (mkS (fillL l))) (some (.int .i64 (l.length : Int))) none none).run Tryd.prog w = .ok (.string (mkS (List.replicate (padF l.length).toNat 0))) w := fun w => by
      have := mkS_onward (fillL l) l.length (by omega) w
      rwa [show (fillL l).drop l.length = List.replicate (padF l.length).toNat 0 from List.drop_left] at this
    have c5 := fun w => trim_any (List.replicate (padF l.length).toNat 0) w (by rw [List.length_replicate]; omega)
    rw [trimB_all _ (fun c hc => (List.mem_replicate.1 hc).2)] at c5
    have hE : (mkS []).toList.isEmpty = true := mkS_emp_nil
    have hE2 : mkS [] = ByteArray.empty := rfl
    rw [show l ++ List.replicate (padF l.length).toNat 0 = fillL l from rfl] at c4
    generalize List.replicate (padF l.length).toNat (0 : UInt8) = R at hsl c5
    generalize fillL l = T at *
    generalize padF (l.length : Int) = P at *
    have q1 : ((T.length : Int).tmod 512 == 0) = true := by rw [beq_iff_eq, Int.tmod_eq_emod_of_nonneg (by omega)]; omega
    have q2 : ((T.length : Int) == (l.length : Int) + P) = true := by rw [beq_iff_eq]; omega
    have C1 := Lib.hid c1
    have C2 := Lib.hid c2
    have C3 := Lib.hid c3
    have C4 := Lib.hid c4
    have C5 := Lib.hid c5
    clear c1 c2 c3 c4 c5 hlen
    go_enter Tryd.func17, Tryd.ntmps17
    go_wp2_with (go_at_call 44; refine (blocked_true _).mono ?_; rintro x w1 ⟨rfl, hb1⟩)
    refine (C1.out _).mono ?_; rintro x w2 ⟨rfl, hb2⟩
    go_wp2_with (first
      | (go_at_call 46; refine (C3.out _).mono ?_; rintro x w9 ⟨rfl, hw⟩; replace hw := hw.symm; subst hw)
      | (go_at_call 47; refine (C4.out _).mono ?_; rintro x w9 ⟨rfl, hw⟩; replace hw := hw.symm; subst hw))
    refine (C5.out _).mono ?_; rintro x w3 ⟨rfl, hb3⟩
    go_wp2_with fail
    refine (C2.out _).mono ?_; rintro x w4 ⟨rfl, hb4⟩
    go_wp2_with fail
    go_ret
    exact ⟨rfl, chain (chain (chain hb1 hb2) hb3) hb4⟩

set_option maxRecDepth 100000 in
set_option maxHeartbeats 1000000 in
theorem blockTwo_walk (a0 : ByteArray) (w0 : a0.size ≤ 140737488351232) (a1 : ByteArray) (w1 : a1.size ≤ 140737488351232) (w : World) :
    Calls Tryd.prog 18 #[.string a0, .string a1] w fun e w' => e = .returned (.bool true) ∧ Below w.heap.size w w' := by
  have hm0 : a0.size ≤ 140737488355328 := by omega
  have hm1 : a1.size ≤ 140737488355328 := by omega
  clear w0 w1
  by_cases hlen : (3000 : Int) < (a0.size : Int) + (a1.size : Int)
  · go_enter Tryd.func18, Tryd.ntmps18
    go_wp2_with (go_at_call 44; refine (blocked_true _).mono ?_; rintro x w1 ⟨rfl, hb1⟩)
    go_ret
    exact ⟨rfl, hb1⟩
  · obtain ⟨l, rfl⟩ : ∃ l, a0 = mkS l := ⟨a0.data.toList, (mkS_self a0).symm⟩
    obtain ⟨m, rfl⟩ : ∃ m, a1 = mkS m := ⟨a1.data.toList, (mkS_self a1).symm⟩
    have hsz := mkS_size l
    have hsm := mkS_size m
    rw [hsz] at hlen hm0
    rw [hsm] at hlen hm1
    have d : decide ((3000 : Int) < (l.length : Int) + (m.length : Int)) = false := by simpa using hlen
    have hl : (l.length : Int) + (m.length : Int) ≤ 3000 := by omega
    obtain ⟨g1, g2⟩ := fillL_length l
    obtain ⟨g3, g4⟩ := padF_range (l.length : Int)
    obtain ⟨k1, k2⟩ := fillL_length m
    obtain ⟨k3, k4⟩ := padF_range (m.length : Int)
    have hT := mkS_size (fillL l)
    have hU := mkS_size (fillL m)
    have c1 := fun w => fill_any l w (by omega)
    have c2 := fun w => fill_any m w (by omega)
    have c3 := fun w => fill_any (fillL l ++ m) w (by rw [List.length_append]; omega)
    rw [fillL_two] at c3
    have n1 := fun w => cat_mkS (fillL l) m (by omega) w
    have n2 := fun w => cat_mkS (fillL l) (fillL m) (by omega) w
    have c4 := fun w => pad_any (l.length : Int) w (by omega)
    have c5 := fun w => pad_any ((l.length : Int) + (m.length : Int)) w (by omega)
    have c6 : ∀ w, Calls Tryd.prog 46 #[.int .i64 ((l.length : Int) + padF l.length + (m.length : Int) - padF l.length)] w fun e w' => e = .returned (.int .i64 (padF ((l.length : Int) + (m.length : Int)))) ∧ w' = w := fun w => by
      rw [show (l.length : Int) + padF l.length + (m.length : Int) - padF l.length = (l.length : Int) + (m.length : Int) by omega]
      exact c5 w
    generalize fillL l ++ fillL m = X at *
    generalize fillL l ++ m = Y at *
    generalize fillL l = T at *
    generalize fillL m = U at *
    generalize padF ((l.length : Int) + (m.length : Int)) = Q at *
    generalize padF (l.length : Int) = P at *
    generalize padF (m.length : Int) = R at *
    have C1 := Lib.hid c1
    have C2 := Lib.hid c2
    have C3 := Lib.hid c3
    have C4 := Lib.hid c4
    have C5 := Lib.hid c5
    have C6 := Lib.hid c6
    clear c1 c2 c3 c4 c5 c6 hlen
    go_enter Tryd.func18, Tryd.ntmps18
    go_wp2_with (go_at_call 44; refine (blocked_true _).mono ?_; rintro x w1 ⟨rfl, hb1⟩)
    refine (C1.out _).mono ?_; rintro x w2 ⟨rfl, hb2⟩
    go_wp2_with fail
    refine (C3.out _).mono ?_; rintro x w3 ⟨rfl, hb3⟩
    go_wp2_with fail
    refine (C1.out _).mono ?_; rintro x w4 ⟨rfl, hb4⟩
    go_wp2_with fail
    refine (C2.out _).mono ?_; rintro x w5 ⟨rfl, hb5⟩
    go_wp2_with fail
    refine (C5.out _).mono ?_; rintro x w9 ⟨rfl, hw⟩; replace hw := hw.symm; subst hw
    go_wp2_with fail
    refine (C1.out _).mono ?_; rintro x w6 ⟨rfl, hb6⟩
    go_wp2_with fail
    refine (C4.out _).mono ?_; rintro x w9 ⟨rfl, hw⟩; replace hw := hw.symm; subst hw
    go_wp2_with fail
    refine (C6.out _).mono ?_; rintro x w9 ⟨rfl, hw⟩; replace hw := hw.symm; subst hw
    go_wp2_with fail
    go_ret
    exact ⟨rfl, chain (chain (chain (chain (chain hb1 hb2) hb3) hb4) hb5) hb6⟩
end Go.Proofs.YtananpcpkjohcaaDoor
