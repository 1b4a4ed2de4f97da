/- block.Sum and the reference's Sum: what each returns; the law BlockSums' walk. -/
import Derived.Test.YtapfkjdkpcgoiaaDoorPlainB
import Derived.Test.YtapfkjdkpcgoiaaDoorLow
import Derived.Test.YtapfkjdkpcgoiaaDoorTell
import Derived.Lib.ConvBytes
namespace Go.Proofs.YtapfkjdkpcgoiaaDoor
open Go.RowKit

theorem sum_arg (s : ByteArray) (sg : Bool) (w : World) (_hs : s.size ≤ 9223372036854775807) (h : s.size ≠ 512) :
    Calls Tryd.prog 39 #[.string s, .bool sg] w fun e w' => e = .returned (.tuple #[.int .i64 0, .iface 25 (.int .i64 1)]) ∧ w' = w := by
  have q1 : ((s.size : Int) == 512) = false := by rw [beq_eq_false_iff_ne]; omega
  have q2 : ((s.size : Int) != 512) = true := by rw [bne_iff_ne]; omega
  clear h
  go_enter Tryd.func39, Tryd.ntmps39
  go_wp2
  go_ret2
  exact ⟨rfl, rfl⟩

set_option maxRecDepth 100000 in
set_option maxHeartbeats 1000000 in
theorem sum_ok (s : ByteArray) (sg : Bool) (w : World) (h : s.size = 512) :
    Calls Tryd.prog 39 #[.string s, .bool sg] w fun e w' => e = .returned (.tuple #[.int .i64 (sumH sg s), .nilIface]) ∧ w' = w := by
  have q1 : ((s.size : Int) == 512) = true := by rw [beq_iff_eq]; omega
  have q2 : ((s.size : Int) != 512) = false := by rw [bne_eq_false_iff_eq]; omega
  have H := Lib.hid h
  have hs1 : s.size ≤ 512 := by omega
  clear h
  go_enter Tryd.func39, Tryd.ntmps39
  go_wp2
  go_loop [6, 14] (fun v i => ∃ k : Nat, k ≤ 512 ∧ i = .int .i64 (k : Int) ∧ v = .int .i64 (sumC sg s.data.toList k)) (fun _ i => 512 - (intOf i).toNat)
  case atStart => exact ⟨0, by omega, rfl, rfl⟩
  case round =>
    obtain ⟨k, hk, rfl, rfl⟩ := hrel
    obtain ⟨hr1, hr2⟩ := sumC_range sg s.data.toList k
    by_cases hlt : k < 512
    · have hlt2 : k < s.size := by have := H.out; omega
      have hlt3 : (k : Int) < (s.size : Int) := by omega
      have hba := bAt_get s k hlt2
      have Hba := Lib.hid hba
      have hu : (s[k].toNat : Int) ≤ 255 := by have := s[k].toNat_lt; omega
      clear hba
      have hu0 : 0 ≤ (s[k].toNat : Int) := by omega
      by_cases c1 : 148 ≤ k ∧ k < 156
      · obtain ⟨c2, c3⟩ := c1
        go_wp2
        go_round
        case rel => exact ⟨k + 1, by omega, by go_num, by rw [sumC_in sg _ k ⟨c2, c3⟩]⟩
        case measure => simp [intOf]; omega
      · have hside : k < 148 ∨ 156 ≤ k := by omega
        have c9 : ¬ (148 ≤ k ∧ k < 156) := c1
        have C9 := Lib.hid c9
        clear c1 c9
        cases sg
        · rcases hside with c2 | c2
          all_goals
            go_wp2
            go_round
            case rel => exact ⟨k + 1, by omega, by go_num, by rw [sumC_out false _ k C9.out, bv_u, ← Hba.out]⟩
            case measure => simp [intOf]; omega
        · by_cases c4 : (s[k].toNat : Int) < 128
          · rcases hside with c2 | c2
            all_goals
              go_wp2
              go_round
              case rel => exact ⟨k + 1, by omega, by go_num, by rw [sumC_out true _ k C9.out, bv_low true _ (by rw [← Hba.out]; exact c4), ← Hba.out]⟩
              case measure => simp [intOf]; omega
          · have e8 := i8_high (s[k].toNat : Int) (by omega) hu
            rcases hside with c2 | c2
            all_goals
              go_wp2
              go_round
              case rel => exact ⟨k + 1, by omega, by go_num, by rw [sumC_out true _ k C9.out, bv_high _ (by rw [← Hba.out]; omega), ← Hba.out]⟩
              case measure => simp [intOf]; omega
    · obtain rfl : k = 512 := by omega
      have hnl : ¬ ((512 : Nat) : Int) < (s.size : Int) := by omega
      go_wp2
      go_ret2
      exact ⟨rfl, rfl⟩

theorem below_bytesWorld (w : World) (e : TypeId) (s : ByteArray) : Below w.heap.size w (Lib.bytesWorld w e s) :=
  ⟨rfl, rfl, rfl, by rw [Lib.bytesWorld_size]; omega, fun k hk => Lib.bytesWorld_at_old w e s k hk⟩

theorem refSum_arg (s : ByteArray) (sg : Bool) (w : World) (_hs : s.size ≤ 9223372036854775807) (h : s.size ≠ 512) :
    Calls Tryd.prog 51 #[.string s, .bool sg] w fun e w' => e = .returned (.tuple #[.int .i64 0, .int .i64 1]) ∧ w' = w := by
  have q1 : ((s.size : Int) == 512) = false := by rw [beq_eq_false_iff_ne]; omega
  have q2 : ((s.size : Int) != 512) = true := by rw [bne_iff_ne]; omega
  clear h
  go_enter Tryd.func51, Tryd.ntmps51
  go_wp2
  go_ret2
  exact ⟨rfl, rfl⟩

set_option maxRecDepth 100000 in
set_option maxHeartbeats 1000000 in
theorem refSum_ok (s : ByteArray) (sg : Bool) (w : World) (h : s.size = 512) :
    Calls Tryd.prog 51 #[.string s, .bool sg] w fun e w' => e = .returned (.tuple #[.int .i64 (sumH sg s), .int .i64 0]) ∧ Below w.heap.size w w' := by
  have q1 : ((s.size : Int) == 512) = true := by rw [beq_iff_eq]; omega
  have q2 : ((s.size : Int) != 512) = false := by rw [bne_eq_false_iff_eq]; omega
  have H := Lib.hid h
  have hs1 : s.size ≤ 512 := by omega
  have hcv := Lib.run_convert_string_bytes (P := Tryd.prog) w 9 42 5 s Tryd.underlying9 Tryd.underlying42 Tryd.underlying5
  have hbl := below_bytesWorld w 5 s
  have hcells := Lib.bytesWorld_cell w 5 s
  generalize Lib.bytesWorld w 5 s = w1 at hcv hbl hcells
  generalize grownCap w s.size 0 5 = cap at hcv
  have Hc := Lib.hid hcells
  clear h hcells
  go_enter Tryd.func51, Tryd.ntmps51
  go_wp2
  go_loop [6, 15] (fun v i => ∃ k : Nat, k ≤ 512 ∧ i = .int .i64 (k : Int) ∧ v = .int .i64 (sumR sg s.data.toList k)) (fun _ i => 512 - (intOf i).toNat)
  case atStart => exact ⟨0, by omega, rfl, rfl⟩
  case round =>
    obtain ⟨k, hk, rfl, rfl⟩ := hrel
    obtain ⟨hr1, hr2⟩ := sumR_range sg s.data.toList k
    by_cases hlt : k < 512
    · have hlt2 : k < s.size := by have := H.out; omega
      have hlt3 : (k : Int) < (s.size : Int) := by omega
      have hcell : w1.cell? ⟨w.heap.size, k, none⟩ = some (.int .u8 (bAt s.data.toList k)) := Hc.out k hlt2
      obtain ⟨hu0, hu⟩ := bAt_range s.data.toList k
      by_cases c1 : 148 ≤ k ∧ k < 156
      · obtain ⟨c2, c3⟩ := c1
        go_wp2_with (go_at_call 20; refine (within_yes _ _ _ _ (by omega) (by omega)).mono ?_; rintro e w' ⟨rfl, rfl⟩)
        go_round
        case rel => exact ⟨k + 1, by omega, by go_num, by rw [sumR_in sg _ k ⟨c2, c3⟩]⟩
        case measure => simp [intOf]; omega
      · have hside : (k : Int) < 148 ∨ 155 < (k : Int) := by omega
        have c9 : ¬ (148 ≤ k ∧ k < 156) := c1
        have C9 := Lib.hid c9
        have Hs := Lib.hid hside
        clear c1 c9 hside
        cases sg
        · go_wp2_with (go_at_call 20; refine (within_no _ _ _ _ Hs.out).mono ?_; rintro e w' ⟨rfl, rfl⟩)
          go_round
          case rel => exact ⟨k + 1, by omega, by go_num, by rw [sumR_out false _ k C9.out, bv_u]⟩
          case measure => simp [intOf]; omega
        · by_cases c4 : bAt s.data.toList k < 128
          · have d4 : decide ((128 : Int) ≤ bAt s.data.toList k) = false := by simp; omega
            go_wp2_with (go_at_call 20; refine (within_no _ _ _ _ Hs.out).mono ?_; rintro e w' ⟨rfl, rfl⟩)
            go_round
            case rel => exact ⟨k + 1, by omega, by go_num, by rw [sumR_out true _ k C9.out, bv_low true _ c4]⟩
            case measure => simp [intOf]; omega
          · have c5 : (128 : Int) ≤ bAt s.data.toList k := by omega
            go_wp2_with (go_at_call 20; refine (within_no _ _ _ _ Hs.out).mono ?_; rintro e w' ⟨rfl, rfl⟩)
            go_round
            case rel => exact ⟨k + 1, by omega, by go_num, by rw [sumR_out true _ k C9.out, bv_high _ c5, Int.add_sub_assoc]⟩
            case measure => simp [intOf]; omega
    · obtain rfl : k = 512 := by omega
      have hnl : ¬ ((512 : Nat) : Int) < (s.size : Int) := by omega
      have hd := sumR_done sg s
      have Hd := Lib.hid hd
      clear hd
      go_wp2
      go_ret2
      exact ⟨by rw [← Hd.out]; rfl, hbl⟩

end Go.Proofs.YtapfkjdkpcgoiaaDoor
