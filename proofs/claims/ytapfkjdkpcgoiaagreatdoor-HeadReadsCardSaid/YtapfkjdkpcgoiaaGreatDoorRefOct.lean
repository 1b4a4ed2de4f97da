/- The reference's NumberRead at octal digits; the law NumberReads' walk. -/
import Derived.Test.YtapfkjdkpcgoiaaGreatDoorMk
import Derived.Test.YtapfkjdkpcgoiaaGreatDoorRefRead
namespace Go.Proofs.YtapfkjdkpcgoiaaGreatDoor
open Go.RowKit

theorem mkS_from (c : UInt8) (r : List UInt8) (w : World) : (Instr.slice 9 (.string (mkS (c :: r))) (some (.int .i64 1)) none none).run Tryz.prog w = .ok (.string (mkS r)) w := by
  rw [run_slice_string_from_if w 9 _ .i64 _ Tryz.underlying9, if_pos ⟨by omega, by rw [mkS_size]; simp only [List.length_cons]; omega⟩]
  have : (mkS (c :: r)).extract (1 : Int).toNat (mkS (c :: r)).size = mkS r := by
    rw [← mkS_self ((mkS (c :: r)).extract (1 : Int).toNat (mkS (c :: r)).size)]
    congr 1
    rw [mkS_size]
    simp [mkS, ByteArray.data_extract]
  rw [this]
theorem mkS_to (r : List UInt8) (c : UInt8) (w : World) (j : Int) (hj : j = (r.length : Int)) : (Instr.slice 9 (.string (mkS (r ++ [c]))) none (some (.int .i64 j)) none).run Tryz.prog w = .ok (.string (mkS r)) w := by
  subst hj
  rw [run_slice_string_to_if w 9 _ .i64 _ Tryz.underlying9, if_pos ⟨by omega, by rw [mkS_size, List.length_append]; simp only [List.length_cons, List.length_nil]; omega⟩]
  have : (mkS (r ++ [c])).extract 0 (r.length : Int).toNat = mkS r := by
    rw [← mkS_self ((mkS (r ++ [c])).extract 0 (r.length : Int).toNat)]
    congr 1
    simp [mkS, ByteArray.data_extract]
  rw [this]
theorem trimL_nil : trimL [] = [] := rfl
theorem trimL_stay (c : UInt8) (r : List UInt8) (h : c ≠ 32) : trimL (c :: r) = c :: r := by
  have : (c == 32) = false := by rw [beq_eq_false_iff_ne]; exact h
  simp [trimL, Lib.trimLeftB, List.dropWhile, this]
theorem trimL_go (c : UInt8) (r : List UInt8) (h : c = 32) : trimL (c :: r) = trimL r := by subst h; simp [trimL, Lib.trimLeftB, List.dropWhile]
theorem trimR_nil : trimR [] = [] := rfl
theorem trimR_stay (c : UInt8) (r : List UInt8) (h : c ≠ 32) (h0 : c ≠ 0) : trimR (r ++ [c]) = r ++ [c] := by
  simp [trimR, Lib.trimRightS, h, h0]
theorem trimR_go (c : UInt8) (r : List UInt8) (h : c = 32 ∨ c = 0) : trimR (r ++ [c]) = trimR r := by
  rcases h with rfl | rfl <;> simp [trimR, Lib.trimRightS]
theorem snoc_of (l : List UInt8) (h : l ≠ []) : ∃ r c, l = r ++ [c] := ⟨l.dropLast, l.getLast h, (List.dropLast_concat_getLast h).symm⟩

theorem mul8_low (n : Int) (h0 : 0 ≤ n) (h : n < 2305843009213693952) (w : World) :
    Calls Tryz.prog 26 #[.int .u64 n, .int .u64 8] w fun e w' => e = .returned (.tuple #[.int .u64 0, .int .u64 (n * 8)]) ∧ w' = w := by
  obtain ⟨n, rfl⟩ := Int.eq_ofNat_of_zero_le h0
  have := Tryz.bits_Mul64 n 8 (by omega) (by omega) w
  rw [show ((n * 8 / 18446744073709551616 : Nat) : Int) = 0 by omega, show ((n * 8 % 18446744073709551616 : Nat) : Int) = (n : Int) * 8 by omega] at this
  exact this
theorem mul8_high (n : Int) (h : 2305843009213693952 ≤ n) (h2 : n ≤ 9223372036854775807) (w : World) :
    ∃ a b : Int, 0 < a ∧ Calls Tryz.prog 26 #[.int .u64 n, .int .u64 8] w fun e w' => e = .returned (.tuple #[.int .u64 a, .int .u64 b]) ∧ w' = w := by
  obtain ⟨n, rfl⟩ := Int.eq_ofNat_of_zero_le (show 0 ≤ n by omega)
  exact ⟨_, _, by omega, Tryz.bits_Mul64 n 8 (by omega) (by omega) w⟩

theorem c_eq (c : UInt8) (n : Nat) (hn : n < 256) : c = UInt8.ofNat n ↔ (c.toNat : Int) = n := by
  constructor
  · rintro rfl
    rw [UInt8.toNat_ofNat']; omega
  · intro h
    apply UInt8.toNat_inj.1
    rw [UInt8.toNat_ofNat']; omega

set_option maxRecDepth 100000 in
set_option maxHeartbeats 2000000 in
theorem refRead_oct (c0 : UInt8) (l0 : List UInt8) (w : World) (hs : l0.length ≤ 1000000) (hc : (c0.toNat : Int) < 128) :
    Calls Tryz.prog 13 #[.string (mkS (c0 :: l0))] w fun e w' => NumNo (readS (mkS (c0 :: l0))) e ∧ Below w.heap.size w w' := by
  have hS : readS (mkS (c0 :: l0)) = roF 0 (trimR (trimL (c0 :: l0))) := by
    unfold readS
    rw [mkS_list, readF_oct _ _ (by omega)]
  have HS := Lib.hid hS
  clear hS
  have z1 := mkS_emp (c0 :: l0) (by simp)
  have z2 := mkS_index (c0 :: l0) 0 c0 (by omega) rfl
  have d16 : decide ((128 : Int) ≤ (c0.toNat : Int)) = false := by simp; omega
  go_enter Tryz.func13, Tryz.ntmps13
  go_wp2
  clear z1 z2
  go_loop [0] (fun v => ∃ l, l.length ≤ 1000001 ∧ v = .string (mkS l) ∧ trimL (c0 :: l0) = trimL l) (fun v => match v with | .string s => s.size | _ => 0)
  case atStart => exact ⟨_, by simp only [List.length_cons]; omega, rfl, rfl⟩
  case round =>
    obtain ⟨l, hl, rfl, ht⟩ := hrel
    have Ht := Lib.hid ht
    clear ht
    have hx : (∃ r, l = 32 :: r) ∨ trimL l = l ∧ ((mkS l).toList.isEmpty = true ∨ ∃ c : UInt8, (mkS l).toList.isEmpty = false ∧ (∀ w, (Instr.index 9 (.string (mkS l)) (.int .i64 0)).run Tryz.prog w = .ok (.int .u8 (c.toNat : Int)) w) ∧ ((c.toNat : Int) == 32) = false) := by
      cases l with
      | nil => exact .inr ⟨rfl, .inl mkS_emp_nil⟩
      | cons c r =>
        by_cases h : c = 32
        · exact .inl ⟨r, by rw [h]⟩
        · exact .inr ⟨trimL_stay c r h, .inr ⟨c, mkS_emp _ (by simp), mkS_index (c :: r) 0 c (by omega) rfl, by rw [beq_eq_false_iff_ne]; intro e; exact h ((c_eq c 32 (by omega)).2 e)⟩⟩
    rcases hx with ⟨r, rfl⟩ | ⟨hst, hx⟩
    · have n1 := mkS_emp (32 :: r) (by simp)
      have n2 := mkS_index (32 :: r) 0 32 (by omega) rfl
      have n4 := mkS_from 32 r
      go_wp2
      go_round
      case rel => exact ⟨r, by simp only [List.length_cons] at hl; omega, rfl, by rw [Ht.out, trimL_go 32 r rfl]⟩
      case measure => simp only [mkS_size, List.length_cons]; omega
    · have hr : readS (mkS (c0 :: l0)) = roF 0 (trimR l) := by rw [HS.out, Ht.out, hst]
      have Hr := Lib.hid hr
      clear hr hst Ht HS
      rcases hx with x1 | ⟨c, x1, x2, x3⟩
      all_goals
        go_wp2
        clear x1
        go_loop [0] (fun v => ∃ l, l.length ≤ 1000001 ∧ v = .string (mkS l) ∧ readS (mkS (c0 :: l0)) = roF 0 (trimR l)) (fun v => match v with | .string s => s.size | _ => 0)
        case atStart => exact ⟨_, hl, rfl, Hr.out⟩
        case round =>
          obtain ⟨l, hl, rfl, ht⟩ := hrel
          clear Hr
          have Ht := Lib.hid ht
          clear ht
          have hx : (∃ r c, l = r ++ [c] ∧ ((c.toNat : Int) == 32) = true) ∨ (∃ r c, l = r ++ [c] ∧ ((c.toNat : Int) == 32) = false ∧ ((c.toNat : Int) == 0) = true) ∨ trimR l = l ∧ ((mkS l).toList.isEmpty = true ∨ ∃ (m : Nat) (c : UInt8), (mkS l).size = m + 1 ∧ m ≤ 1000001 ∧ (mkS l).toList.isEmpty = false ∧ (∀ w, (Instr.index 9 (.string (mkS l)) (.int .i64 (m : Int))).run Tryz.prog w = .ok (.int .u8 (c.toNat : Int)) w) ∧ ((c.toNat : Int) == 32) = false ∧ ((c.toNat : Int) == 0) = false) := by
            by_cases h : l = []
            · subst h; exact .inr (.inr ⟨rfl, .inl mkS_emp_nil⟩)
            · obtain ⟨r, c, rfl⟩ := snoc_of l h
              by_cases h1 : (c.toNat : Int) = 32
              · exact .inl ⟨r, c, rfl, by rw [beq_iff_eq]; exact h1⟩
              · by_cases h2 : (c.toNat : Int) = 0
                · exact .inr (.inl ⟨r, c, rfl, by rw [beq_eq_false_iff_ne]; exact h1, by rw [beq_iff_eq]; exact h2⟩)
                · exact .inr (.inr ⟨trimR_stay c r (fun e => h1 ((c_eq c 32 (by omega)).1 e)) (fun e => h2 ((c_eq c 0 (by omega)).1 e)), .inr ⟨r.length, c, by rw [mkS_size]; simp, by simp only [List.length_append, List.length_cons, List.length_nil] at hl; omega, mkS_emp _ h, mkS_index _ _ c (by omega) (by simp), by rw [beq_eq_false_iff_ne]; exact h1, by rw [beq_eq_false_iff_ne]; exact h2⟩⟩)
          rcases hx with ⟨r, c, rfl, n3⟩ | ⟨r, c, rfl, n3, n4⟩ | ⟨hst, hx⟩
          · have n1 := mkS_emp (r ++ [c]) (by simp)
            have n5 : (mkS (r ++ [c])).size = r.length + 1 := by rw [mkS_size]; simp
            have n2 := mkS_index (r ++ [c]) (r.length : Int) c (by omega) (by simp)
            have n6 := fun w => mkS_to r c w (r.length : Int) rfl
            have N3 := Lib.hid n3
            have hrl : r.length ≤ 1000000 := by simp only [List.length_append, List.length_cons, List.length_nil] at hl; omega
            go_wp2
            go_round
            case rel => exact ⟨r, by omega, rfl, by rw [Ht.out, trimR_go c r (.inl ((c_eq c 32 (by omega)).2 (beq_iff_eq.1 N3.out)))]⟩
            case measure => simp only [mkS_size, List.length_append, List.length_cons]; omega
          · have n1 := mkS_emp (r ++ [c]) (by simp)
            have n5 : (mkS (r ++ [c])).size = r.length + 1 := by rw [mkS_size]; simp
            have n2 := mkS_index (r ++ [c]) (r.length : Int) c (by omega) (by simp)
            have n6 := fun w => mkS_to r c w (r.length : Int) rfl
            have N4 := Lib.hid n4
            have hrl : r.length ≤ 1000000 := by simp only [List.length_append, List.length_cons, List.length_nil] at hl; omega
            go_wp2
            go_round
            case rel => exact ⟨r, by omega, rfl, by rw [Ht.out, trimR_go c r (.inr ((c_eq c 0 (by omega)).2 (beq_iff_eq.1 N4.out)))]⟩
            case measure => simp only [mkS_size, List.length_append, List.length_cons]; omega
          · have hr : readS (mkS (c0 :: l0)) = roF 0 l := by rw [Ht.out, hst]
            have Hr := Lib.hid hr
            clear hr hst Ht
            rcases hx with y1 | ⟨m, c2, y0, hm, y1, y2, y3, y4⟩
            all_goals
              go_wp2
              clear y1
              have hsz : (mkS l).size = l.length := mkS_size l
              go_loop [8, 9] (fun v i => ∃ (k : Nat) (n : Int), k ≤ l.length ∧ i = .int .i64 (k : Int) ∧ v = .int .u64 n ∧ 0 ≤ n ∧ n ≤ 9223372036854775807 ∧ readS (mkS (c0 :: l0)) = roF n (l.drop k)) (fun _ i => l.length - (intOf i).toNat)
              case atStart => exact ⟨0, 0, by omega, rfl, rfl, by omega, by omega, Hr.out⟩
              case round =>
                obtain ⟨k, n, hk, rfl, rfl, hn0, hn, hr⟩ := hrel
                clear Hr
                have Hr := Lib.hid hr
                clear hr
                by_cases hlt : k < l.length
                · have hd := List.drop_eq_getElem_cons hlt
                  generalize hcc : l[k] = cc at hd
                  have z1 := mkS_index l (k : Int) cc (by omega) (by rw [Int.toNat_natCast, List.getElem?_eq_getElem hlt, hcc])
                  have Hd := Lib.hid hd
                  clear hd hcc
                  have hu : (cc.toNat : Int) ≤ 255 := by have := cc.toNat_lt; omega
                  by_cases hdig : (48 : Int) ≤ (cc.toNat : Int) ∧ (cc.toNat : Int) ≤ 55
                  · obtain ⟨g1, g2⟩ := hdig
                    by_cases hb : n < 1152921504606846976
                    · have q8 : n * 8 < 9223372036854775808 := by omega
                      have q9 : 0 ≤ n * 8 + ((cc.toNat : Int) - 48) := by omega
                      have q10 : n * 8 + ((cc.toNat : Int) - 48) ≤ 9223372036854775807 := by omega
                      go_wp2_with (first
                        | (go_at_call 25; refine (within_yes _ _ _ _ g1 g2).mono ?_; rintro e w' ⟨rfl, rfl⟩)
                        | (go_at_call 26; refine (mul8_low n hn0 (by omega) _).mono ?_; rintro e w' ⟨rfl, rfl⟩))
                      go_round
                      case rel => exact ⟨k + 1, _, by omega, by go_num, rfl, q9, q10, by rw [Hr.out, Hd.out, roF_go (by omega) (by omega)]⟩
                      case measure => simp [intOf]; omega
                    · by_cases hb2 : n < 2305843009213693952
                      · have q8 : (9223372036854775808 : Int) ≤ n * 8 := by omega
                        go_wp2_with (first
                          | (go_at_call 25; refine (within_yes _ _ _ _ g1 g2).mono ?_; rintro e w' ⟨rfl, rfl⟩)
                          | (go_at_call 26; refine (mul8_low n hn0 hb2 _).mono ?_; rintro e w' ⟨rfl, rfl⟩))
                        go_ret2
                        exact ⟨by unfold NumNo; rw [Hr.out, Hd.out, roF_big (by omega) (by omega)]; rfl, Below.refl _ _⟩
                      · obtain ⟨a, b, ha, hcall⟩ := mul8_high n (by omega) hn w
                        have Hc := Lib.hid hcall
                        clear hcall
                        go_wp2_with fail
                        refine (within_yes _ _ _ _ g1 g2).mono ?_; rintro e w' ⟨rfl, hw⟩; replace hw := hw.symm; subst hw
                        go_wp2_with (go_at_call 26; refine Hc.out.mono ?_; rintro e w' ⟨rfl, rfl⟩)
                        go_ret2
                        exact ⟨by unfold NumNo; rw [Hr.out, Hd.out, roF_big (by omega) (by omega)]; rfl, Below.refl _ _⟩
                  · have hno : (cc.toNat : Int) < 48 ∨ 55 < (cc.toNat : Int) := by omega
                    have Hno := Lib.hid hno
                    clear hno hdig
                    go_wp2_with (go_at_call 25; refine (within_no _ _ _ _ Hno.out).mono ?_; rintro e w' ⟨rfl, rfl⟩)
                    go_ret2
                    exact ⟨by unfold NumNo; rw [Hr.out, Hd.out, roF_bad Hno.out]; rfl, Below.refl _ _⟩
                · obtain rfl : k = l.length := by omega
                  go_wp2
                  go_ret2
                  exact ⟨by unfold NumNo; rw [Hr.out, List.drop_length]; rfl, Below.refl _ _⟩
end Go.Proofs.YtapfkjdkpcgoiaaGreatDoor
