/- keep.blocked answers true; keep.header: a sealed block. -/
import Derived.Test.YtananpcpkjohcaaDoorPlainS
import Derived.Test.YtananpcpkjohcaaDoorRight
import Derived.Test.YtananpcpkjohcaaDoorBlind
import Derived.Test.YtananpcpkjohcaaDoorWhole
namespace Go.Proofs.YtananpcpkjohcaaDoor
open Go.RowKit
set_option linter.unusedVariables false
set_option linter.unusedSimpArgs false

theorem fieldS_list (s : ByteArray) : (fieldS s).data.toList = fieldL s.data.toList := by
  unfold fieldS fieldL; rw [Lib.extract_data]
theorem rightP_iff (s : ByteArray) : rightP s ↔ rightL s.data.toList := by
  unfold rightP rightL readS sumH
  rw [fieldS_list]
  constructor
  · rintro ⟨h1, h2⟩; exact ⟨by simpa using h1, h2⟩
  · rintro ⟨h1, h2⟩; exact ⟨by simpa using h1, h2⟩
theorem sealB_mk (s : ByteArray) : sealB s = mkS (sealL s.data.toList) := rfl
theorem sealB_mkS (l : List UInt8) : sealB (mkS l) = mkS (sealL l) := by rw [sealB_mk, mkS_list]

theorem rep_size : (List.replicate 512 (97 : UInt8)).length = 512 := List.length_replicate

theorem seal_mkS (l : List UInt8) (h : l.length = 512) (w : World) :
    Calls Tryd.prog 41 #[.string (mkS l)] w fun e w' => e = .returned (.tuple #[.string (mkS (sealL l)), .nilIface]) ∧ Below w.heap.size w w' := by
  have := seal_ok (mkS l) w (by rw [mkS_size, h])
  rwa [sealB_mkS] at this
theorem sum_mkS (l : List UInt8) (sg : Bool) (h : l.length = 512) (w : World) :
    Calls Tryd.prog 39 #[.string (mkS l), .bool sg] w fun e w' => e = .returned (.tuple #[.int .i64 (sumC sg l 512), .nilIface]) ∧ w' = w := by
  have := sum_ok (mkS l) sg w (by rw [mkS_size, h])
  rwa [show sumH sg (mkS l) = sumC sg l 512 by unfold sumH; rw [mkS_list]] at this
theorem right_mkS (l : List UInt8) (b : Bool) (hb : b = true ↔ rightL l) (hl : l.length = 512) (w : World) :
    Calls Tryd.prog 42 #[.string (mkS l)] w fun e w' => e = .returned (.bool b) ∧ Below w.heap.size w w' := by
  have hi : rightP (mkS l) ↔ rightL l := by rw [rightP_iff, mkS_list]
  cases b with
  | true => exact right_yes _ w (hi.2 (hb.1 rfl))
  | false => exact right_no _ w (by rw [mkS_size]; omega) (fun h => by have := hb.2 (hi.1 h); cases this)

set_option maxRecDepth 100000 in
set_option maxHeartbeats 1000000 in
theorem blocked_true (w : World) :
    Calls Tryd.prog 44 #[] w fun e w' => e = .returned (.bool true) ∧ Below w.heap.size w w' := by
  have hp : padF 513 = 511 := by decide +kernel
  have c1 := fun w => seal_mkS _ rep_size w
  have c2 := fun w => sum_mkS _ false (sealL_length _ rep_size) w
  have c3 := fun w => right_mkS _ true (iff_of_true rfl (rightL_seal _ rep_size)) (sealL_length _ rep_size) w
  have c4 := fun w => right_mkS _ false (iff_of_false (by decide) right_rep) rep_size w
  rw [sumC_seal _ _ rep_size, show sumC false (List.replicate 512 97) 512 = 49144 by rw [sumC_rep _ _ (by omega)]; rfl] at c2
  have c5 := fun w => repeat_any 97 512 w (by omega)
  have c6 := fun w => pad_any 513 w (by omega)
  rw [hp] at c6
  generalize List.replicate 512 (97 : UInt8) = R at c1 c2 c3 c4 c5
  generalize sealL R = T at c1 c2 c3
  have C1 := Lib.hid c1
  have C2 := Lib.hid c2
  have C3 := Lib.hid c3
  have C4 := Lib.hid c4
  have C5 := Lib.hid c5
  have C6 := Lib.hid c6
  clear c1 c2 c3 c4 c5 c6 hp
  go_enter Tryd.func44, Tryd.ntmps44
  go_wp2_with fail
  refine (C5.out _).mono ?_; rintro x w1 ⟨rfl, hb1⟩
  go_wp2_with (first
    | (go_at_call 41; refine (C1.out _).mono ?_; rintro x w2 ⟨rfl, hb2⟩)
    | (go_at_call 39; refine (C2.out _).mono ?_; rintro x w9 ⟨rfl, hw⟩; replace hw := hw.symm; subst hw))
  refine (C3.out _).mono ?_; rintro x w3 ⟨rfl, hb3⟩
  go_wp2_with fail
  refine (C5.out _).mono ?_; rintro x w4 ⟨rfl, hb4⟩
  go_wp2_with fail
  refine (C4.out _).mono ?_; rintro x w5 ⟨rfl, hb5⟩
  go_wp2_with (go_at_call 46; refine (C6.out _).mono ?_; rintro x w6 ⟨rfl, hw⟩; replace hw := hw.symm; subst hw)
  go_ret
  exact ⟨rfl, chain (chain (chain (chain hb1 hb2) hb3) hb4) hb5⟩

/-- what header makes of a text. -/
def headL (l : List UInt8) : List UInt8 := (l ++ List.replicate 512 0).take 512
theorem headL_length (l : List UInt8) : (headL l).length = 512 := by unfold headL; rw [List.length_take, List.length_append, List.length_replicate]; omega
theorem mkS_upto (l : List UInt8) (j : Nat) (h : j ≤ l.length) (w : World) : (Instr.slice 9 (.string (mkS l)) none (some (.int .i64 (j : Int))) none).run Tryd.prog w = .ok (.string (mkS (l.take j))) w := by
  rw [run_slice_string_to_if w 9 _ .i64 _ Tryd.underlying9, if_pos ⟨by omega, by rw [mkS_size]; omega⟩]
  have : (mkS l).extract 0 (j : Int).toNat = mkS (l.take j) := by
    rw [← mkS_self ((mkS l).extract 0 (j : Int).toNat), Lib.extract_data, mkS_list]
    simp
  rw [this]
theorem mkS_onward (l : List UInt8) (j : Nat) (h : j ≤ l.length) (w : World) : (Instr.slice 9 (.string (mkS l)) (some (.int .i64 (j : Int))) none none).run Tryd.prog w = .ok (.string (mkS (l.drop j))) w := by
  rw [run_slice_string_from_if w 9 _ .i64 _ Tryd.underlying9, if_pos ⟨by omega, by rw [mkS_size]; omega⟩]
  have : (mkS l).extract (j : Int).toNat (mkS l).size = mkS (l.drop j) := by
    rw [← mkS_self ((mkS l).extract (j : Int).toNat (mkS l).size), Lib.extract_to_end, mkS_list]
    simp
  rw [this]

theorem header_long (s : ByteArray) (w : World) (hm : s.size ≤ 9223372036854775807) (h : (600 : Int) < (s.size : Int)) :
    Calls Tryd.prog 45 #[.string s] w fun e w' => e = .returned (.tuple #[.string ByteArray.empty, .bool false]) ∧ w' = w := by
  go_enter Tryd.func45, Tryd.ntmps45
  go_wp2
  go_ret2
  exact ⟨rfl, rfl⟩

set_option maxRecDepth 100000 in
set_option maxHeartbeats 1000000 in
theorem header_any (l : List UInt8) (w : World) (hl : l.length ≤ 600) :
    Calls Tryd.prog 45 #[.string (mkS l)] w fun e w' => e = .returned (.tuple #[.string (mkS (sealL (headL l))), .bool true]) ∧ Below w.heap.size w w' := by
  have hsz := mkS_size l
  have d : decide ((600 : Int) < (l.length : Int)) = false := by simp; omega
  have c5 := fun w => repeat_any 0 512 w (by omega)
  have hcat := fun w => cat_mkS l (List.replicate 512 0) (by rw [List.length_replicate]; omega) w
  have hto : ∀ w, (Instr.slice 9 (.string (mkS (l ++ List.replicate 512 0))) none (some (.int .i64 512)) none).run Tryd.prog w = .ok (.string (mkS (headL l))) w := fun w => mkS_upto (l ++ List.replicate 512 0) 512 (by rw [List.length_append, List.length_replicate]; omega) w
  have c1 := fun w => seal_mkS _ (headL_length l) w
  have hz : (mkS (sealL (headL l))).size = 512 := by rw [mkS_size, sealL_length _ (headL_length l)]
  generalize l ++ List.replicate 512 0 = U at hcat hto
  generalize List.replicate 512 (0 : UInt8) = R at c5 hcat
  generalize sealL (headL l) = T at c1 hz ⊢
  generalize headL l = V at hto c1
  have C1 := Lib.hid c1
  have C5 := Lib.hid c5
  clear c1 c5
  go_enter Tryd.func45, Tryd.ntmps45
  go_wp2_with fail
  refine (C5.out _).mono ?_; rintro x w1 ⟨rfl, hb1⟩
  go_wp2_with (go_at_call 41; refine (C1.out _).mono ?_; rintro x w2 ⟨rfl, hb2⟩)
  go_ret2
  exact ⟨rfl, chain hb1 hb2⟩
end Go.Proofs.YtananpcpkjohcaaDoor
