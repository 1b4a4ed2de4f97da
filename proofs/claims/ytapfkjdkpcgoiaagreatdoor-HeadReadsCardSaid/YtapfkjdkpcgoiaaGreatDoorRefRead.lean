/- The reference's NumberRead: what it returns. -/
import Derived.Test.YtapfkjdkpcgoiaaGreatDoorRead
import Derived.Deep.QuietTactic
import Derived.BigQuiet
namespace Go.Proofs.YtapfkjdkpcgoiaaGreatDoor
open Go.RowKit

/-- A number and an error's number. -/
def NumNo (p : Int × Int) (e : Ending) : Prop := e = .returned (.tuple #[.int .i64 p.1, .int .i64 p.2])

theorem below_drewN {B : Nat} {a w : World} (h : Below B a w) (n : Nat) : Below B a (w.drewN n) := ⟨h.os, h.tape, h.output, h.size, h.block⟩

set_option maxRecDepth 100000 in
set_option maxHeartbeats 2000000 in
theorem refRead_pos (s : ByteArray) (w : World) (h0 : 0 < s.size) (hs : s.size ≤ 9223372036854775807) (hc : (128 : Int) ≤ (s[0].toNat : Int)) (hc2 : (s[0].toNat : Int) < 255) :
    Calls Tryz.prog 13 #[.string s] w fun e w' => NumNo (readS s) e ∧ Below w.heap.size w w' := by
  have hd : s.data.toList = s[0] :: s.data.toList.drop 1 := drop_get s 0 h0
  have hl2 : s.toList.isEmpty = false := by rw [ByteArray.toList_eq, hd]; rfl
  have hl3 : (s.toList == []) = false := by rw [ByteArray.toList_eq, hd]; rfl
  have hS : readS s = rbF ((s[0].toNat : Int) - 128) (s.data.toList.drop 1) := by
    unfold readS
    rw [show readF s.data.toList = readF (s[0] :: s.data.toList.drop 1) by rw [← hd], readF_bin _ _ (by omega)]
    unfold firstF
    rw [if_neg (by omega)]
  have q1 : ((s[0].toNat : Int) == 255) = false := by rw [beq_eq_false_iff_ne]; omega
  have HS := Lib.hid hS
  clear hS hd
  have d16 : decide ((128 : Int) ≤ (s[0].toNat : Int)) = true := by simpa using hc
  go_enter Tryz.func13, Tryz.ntmps13
  go_wp2
  go_loopw [5, 6, 7] (fun h v i wr => ∃ (k : Nat) (n : Int), k ≤ s.size - 1 ∧ i = .int .i64 ((k : Int) + 1) ∧ h = .int .u64 0 ∧ v = .int .u64 n ∧ 0 ≤ n ∧ n ≤ 9223372036854775807 ∧ readS s = rbF n (s.data.toList.drop (k + 1)) ∧ Below w.heap.size w wr) (fun _ _ i _ => s.size - (intOf i).toNat)
  case atStart => exact ⟨0, _, by omega, rfl, rfl, rfl, by omega, by omega, HS.out, Below.refl _ _⟩
  case round =>
    obtain ⟨k, n, hk, rfl, rfl, rfl, hn1, hn2, hr, hb⟩ := hrel
    have Hr := Lib.hid hr
    clear hr HS
    by_cases hlt : k < s.size - 1
    · have hlt3 : k + 1 < s.size := by omega
      have hlt2 : (k : Int) + 1 < (s.size : Int) := by omega
      have hu2 : (s[k + 1].toNat : Int) ≤ 255 := by have := s[k + 1].toNat_lt; omega
      have hix : ∀ w, (Instr.index 9 (.string s) (.int .i64 ((k : Int) + 1))).run Tryz.prog w = .ok (.int .u8 (s[k + 1].toNat : Int)) w := fun w => by
        rw [run_index_string w 9 s .i64 _ Tryz.underlying9, dif_pos ⟨by omega, by omega⟩]
        congr 3
      have e1 : IntKind.u64.wrap 0 = 0 := IntWalk.u64_in _ ⟨by omega, by omega⟩
      have hd := drop_get s (k + 1) hlt3
      have Hd := Lib.hid hd
      clear hd
      by_cases c1 : n ≤ 72057594037927935
      · have e2 : bits .or .u64 0 (n / 72057594037927936) = 0 := by rw [show n / 72057594037927936 = 0 by omega]; exact oru_0 0 (by omega) (by omega)
        have e3 : IntKind.u64.wrap (n * 256) = n * 256 := IntWalk.u64_in _ ⟨by omega, by omega⟩
        have e4 := oru_256 n (s[k + 1].toNat : Int) hn1 c1 (by omega) (by omega)
        by_cases c2 : n ≤ 36028797018963967
        · have h7 : n * 256 + (s[k + 1].toNat : Int) < 9223372036854775808 := by omega
          have h8 : 0 ≤ n * 256 + (s[k + 1].toNat : Int) := by omega
          go_wp2
          go_quiet (fail)
          clear e2 e3 e4
          go_wp2
          go_roundw
          case rel => exact ⟨k + 1, _, by omega, by go_num, rfl, rfl, h8, by omega, by rw [Hr.out, Hd.out, rbF_go (by omega)], below_drewN hb _⟩
          case measure => simp [intOf]; omega
        · have h7 : (9223372036854775808 : Int) ≤ n * 256 + (s[k + 1].toNat : Int) := by omega
          go_wp2
          go_quiet (fail)
          clear e2 e3 e4
          go_wp2
          go_ret2
          exact ⟨by unfold NumNo; rw [Hr.out, Hd.out, rbF_big (by omega)]; rfl, below_drewN hb _⟩
      · have e2 : bits .or .u64 0 (n / 72057594037927936) = n / 72057594037927936 := oru_0 _ (by omega) (by omega)
        have e5 : (n / 72057594037927936 == 0) = false := by rw [beq_eq_false_iff_ne]; omega
        have e6 : (n / 72057594037927936 != 0) = true := by rw [bne_iff_ne]; omega
        go_wp2
        go_quiet (fail)
        clear e2
        go_wp2
        go_ret2
        exact ⟨by unfold NumNo; rw [Hr.out, Hd.out, rbF_big (by omega)]; rfl, below_drewN hb _⟩
    · obtain rfl : k = s.size - 1 := by omega
      have hnl : ¬ ((s.size - 1 : Nat) : Int) + 1 < (s.size : Int) := by omega
      go_wp2
      go_ret2
      exact ⟨by unfold NumNo; rw [Hr.out, show s.size - 1 + 1 = s.size by omega, drop_end]; rfl, hb⟩

/-- the low half of a negative number's two's complement. -/
def lowN (n : Int) : Int := n + 18446744073709551616
theorem lowN_quo (n : Int) (h1 : -72057594037927936 ≤ n) (h2 : n < 0) : bits .or .u64 18446744073709551360 (lowN n / 72057594037927936) = 18446744073709551615 := by
  rw [show lowN n / 72057594037927936 = 255 by unfold lowN; omega]
  exact oru_256 72057594037927935 255 (by omega) (by omega) (by omega) (by omega)
theorem lowN_quo2 (n : Int) (h1 : -9223372036854775808 ≤ n) (h2 : n < -72057594037927936) : ∃ x, bits .or .u64 18446744073709551360 (lowN n / 72057594037927936) = x ∧ (x == 18446744073709551615) = false ∧ (x != 18446744073709551615) = true := by
  have h := oru_256 72057594037927935 (lowN n / 72057594037927936) (by omega) (by omega) (by unfold lowN; omega) (by unfold lowN; omega)
  have hx : lowN n / 72057594037927936 ≤ 254 := by unfold lowN; omega
  refine ⟨_, h, ?_, ?_⟩
  · rw [beq_eq_false_iff_ne]; omega
  · rw [bne_iff_ne]; omega
theorem lowN_shl (n : Int) (h1 : -72057594037927936 ≤ n) (h2 : n < 0) : IntKind.u64.wrap (lowN n * 256) = (n + 72057594037927936) * 256 := by
  have : IntKind.u64.wrap (lowN n * 256) = (lowN n * 256) % 18446744073709551616 := by
    simp only [IntKind.wrap, IntKind.bits, IntKind.signed]; simp
  rw [this]; unfold lowN; omega
theorem lowN_join (n b : Int) (h1 : -72057594037927936 ≤ n) (h2 : n < 0) (h3 : 0 ≤ b) (h4 : b < 256) : bits .or .u64 ((n + 72057594037927936) * 256) b = lowN (n * 256 + b) := by
  rw [oru_256 _ b (by omega) (by omega) h3 h4]; unfold lowN; omega
theorem high_shl : IntKind.u64.wrap 4722366482869645213440 = 18446744073709551360 := by
  simp only [IntKind.wrap, IntKind.bits, IntKind.signed]; simp
theorem lowN_neg1 : (18446744073709551615 : Int) = lowN (-1) := by unfold lowN; omega
theorem lowN_back (n : Int) (h1 : -9223372036854775808 ≤ n) (h2 : n < 0) : IntKind.i64.wrap (lowN n) = n := by
  rw [IntKind.wrap_i64]; unfold lowN; omega

set_option maxRecDepth 100000 in
set_option maxHeartbeats 2000000 in
theorem refRead_neg (s : ByteArray) (w : World) (h0 : 0 < s.size) (hs : s.size ≤ 9223372036854775807) (hc : (s[0].toNat : Int) = 255) :
    Calls Tryz.prog 13 #[.string s] w fun e w' => NumNo (readS s) e ∧ Below w.heap.size w w' := by
  have hd : s.data.toList = s[0] :: s.data.toList.drop 1 := drop_get s 0 h0
  have hl2 : s.toList.isEmpty = false := by rw [ByteArray.toList_eq, hd]; rfl
  have hl3 : (s.toList == []) = false := by rw [ByteArray.toList_eq, hd]; rfl
  have hS : readS s = rbF (-1) (s.data.toList.drop 1) := by
    unfold readS
    rw [show readF s.data.toList = readF (s[0] :: s.data.toList.drop 1) by rw [← hd], readF_bin _ _ (by omega)]
    unfold firstF
    rw [if_pos hc]
  have q1 : ((s[0].toNat : Int) == 255) = true := by rw [beq_iff_eq]; exact hc
  have d16 : decide ((128 : Int) ≤ (s[0].toNat : Int)) = true := by simp; omega
  have hc2 : (128 : Int) ≤ (s[0].toNat : Int) := by omega
  have HS := Lib.hid hS
  clear hS hd hc
  go_enter Tryz.func13, Tryz.ntmps13
  go_wp2
  go_loopw [5, 6, 7] (fun h v i wr => ∃ (k : Nat) (n : Int), k ≤ s.size - 1 ∧ i = .int .i64 ((k : Int) + 1) ∧ h = .int .u64 18446744073709551615 ∧ v = .int .u64 (lowN n) ∧ -9223372036854775808 ≤ n ∧ n < 0 ∧ readS s = rbF n (s.data.toList.drop (k + 1)) ∧ Below w.heap.size w wr) (fun _ _ i _ => s.size - (intOf i).toNat)
  case atStart => exact ⟨0, -1, by omega, rfl, rfl, by rw [lowN_neg1], by omega, by omega, HS.out, Below.refl _ _⟩
  case round =>
    obtain ⟨k, n, hk, rfl, rfl, rfl, hn1, hn2, hr, hb⟩ := hrel
    have Hr := Lib.hid hr
    clear hr HS
    by_cases hlt : k < s.size - 1
    · have hlt3 : k + 1 < s.size := by omega
      have hlt2 : (k : Int) + 1 < (s.size : Int) := by omega
      have hu2 : (s[k + 1].toNat : Int) ≤ 255 := by have := s[k + 1].toNat_lt; omega
      have hix : ∀ w, (Instr.index 9 (.string s) (.int .i64 ((k : Int) + 1))).run Tryz.prog w = .ok (.int .u8 (s[k + 1].toNat : Int)) w := fun w => by
        rw [run_index_string w 9 s .i64 _ Tryz.underlying9, dif_pos ⟨by omega, by omega⟩]
        congr 3
      have hd := drop_get s (k + 1) hlt3
      have Hd := Lib.hid hd
      clear hd
      have e1 := high_shl
      by_cases c1 : -72057594037927936 ≤ n
      · have e2 := lowN_quo n c1 hn2
        have e3 := lowN_shl n c1 hn2
        have e4 := lowN_join n (s[k + 1].toNat : Int) c1 hn2 (by omega) (by omega)
        by_cases c2 : -36028797018963968 ≤ n
        · have h7 : (9223372036854775808 : Int) ≤ lowN (n * 256 + (s[k + 1].toNat : Int)) := by unfold lowN; omega
          have h8 : -9223372036854775808 ≤ n * 256 + (s[k + 1].toNat : Int) := by omega
          have h9 : n * 256 + (s[k + 1].toNat : Int) < 0 := by omega
          go_wp2
          go_quiet (fail)
          clear e2 e3 e4
          go_wp2
          go_roundw
          case rel => exact ⟨k + 1, _, by omega, by go_num, rfl, rfl, h8, h9, by rw [Hr.out, Hd.out, rbF_go (by omega)], below_drewN hb _⟩
          case measure => simp [intOf]; omega
        · have h7 : lowN (n * 256 + (s[k + 1].toNat : Int)) < 9223372036854775808 := by unfold lowN; omega
          go_wp2
          go_quiet (fail)
          clear e2 e3 e4
          go_wp2
          go_ret2
          exact ⟨by unfold NumNo; rw [Hr.out, Hd.out, rbF_big (by omega)]; rfl, below_drewN hb _⟩
      · obtain ⟨x, e2, e5, e6⟩ := lowN_quo2 n hn1 (by omega)
        go_wp2
        go_quiet (fail)
        clear e2
        go_wp2
        go_ret2
        exact ⟨by unfold NumNo; rw [Hr.out, Hd.out, rbF_big (by omega)]; rfl, below_drewN hb _⟩
    · obtain rfl : k = s.size - 1 := by omega
      have hnl : ¬ ((s.size - 1 : Nat) : Int) + 1 < (s.size : Int) := by omega
      have e7 := lowN_back n hn1 hn2
      go_wp2
      go_ret2
      exact ⟨by unfold NumNo; rw [Hr.out, show s.size - 1 + 1 = s.size by omega, drop_end]; rfl, hb⟩
end Go.Proofs.YtapfkjdkpcgoiaaGreatDoor
