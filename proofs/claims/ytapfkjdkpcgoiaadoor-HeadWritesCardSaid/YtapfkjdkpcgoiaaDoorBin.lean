/- number.Binary and the reference's Binary: what each returns. -/
import Derived.Test.YtapfkjdkpcgoiaaDoorPlain
import Derived.Test.YtapfkjdkpcgoiaaDoorProg
import Derived.WalkKit
import Derived.ProofKit
import Derived.LoopTactic
import Derived.Lib.Hide
import Derived.Handy
import Derived.Outline
namespace Go.Proofs.YtapfkjdkpcgoiaaDoor
open Go.RowKit

theorem Tryd.infoU8 : (Tryd.prog.info? 5).map (fun i => (i.zero, i.size, i.bytes)) = some (some (.int .u8 0), 1, 1) := by kernel_rfl

theorem ret2_eq {a b : Value} (h : a = b) : Ending.returned (.tuple #[a, .nilIface]) = Ending.returned (.tuple #[b, .nilIface]) := by rw [h]

theorem binary_arg (n W : Int) (w : World) (h : W < 8 ∨ 20 < W) :
    Calls Tryd.prog 53 #[.int .i64 n, .int .i64 W] w fun e w' => e = .returned (.tuple #[.string ByteArray.empty, .iface 25 (.int .i64 1)]) ∧ w' = w := by
  rcases h with h | h
  · go_enter Tryd.func53, Tryd.ntmps53
    go_wp2
    go_ret2
    exact ⟨rfl, rfl⟩
  · have h' : ¬ W < 8 := by omega
    go_enter Tryd.func53, Tryd.ntmps53
    go_wp2
    go_ret2
    exact ⟨rfl, rfl⟩

theorem binary_range (n : Int) (w : World) (h : n < -36028797018963968 ∨ 36028797018963967 < n) :
    Calls Tryd.prog 53 #[.int .i64 n, .int .i64 8] w fun e w' => e = .returned (.tuple #[.string ByteArray.empty, .iface 25 (.int .i64 2)]) ∧ w' = w := by
  rcases h with h | h
  · go_enter Tryd.func53, Tryd.ntmps53
    go_wp2
    go_ret2
    exact ⟨rfl, rfl⟩
  · have h' : ¬ n < -36028797018963968 := by omega
    go_enter Tryd.func53, Tryd.ntmps53
    go_wp2
    go_ret2
    exact ⟨rfl, rfl⟩

theorem ints_set (xs : List Int) (j : Nat) (x : Int) : (xs.map (Value.int .u8)).set j (.int .u8 x) = (xs.set j x).map (Value.int .u8) := by rw [List.map_set]

set_option maxRecDepth 100000 in
set_option maxHeartbeats 2000000 in
theorem binary_ok (n : Int) (W : Nat) (w : World) (hW1 : 8 ≤ W) (hW2 : W ≤ 20) (hn1 : -9223372036854775808 ≤ n) (hn2 : n ≤ 9223372036854775807) (hr : W = 8 → -36028797018963968 ≤ n ∧ n ≤ 36028797018963967) :
    Calls Tryd.prog 53 #[.int .i64 n, .int .i64 W] w fun e w' => e = .returned (.tuple #[.string (strOfNums (binNums n W)), .nilIface]) ∧ Below w.heap.size w w' := by
  obtain ⟨i0, hi, hz0, hz1, hz2⟩ := info_parts Tryd.infoU8
  have d1 : decide ((W : Int) < 8) = false := by simp; omega
  have d2 : decide (20 < (W : Int)) = false := by simp; omega
  have e8 : (((W : Int) == 8) = true ∧ decide (n < -36028797018963968) = false ∧ decide (36028797018963967 < n) = false) ∨ ((W : Int) == 8) = false := by
    by_cases h8 : W = 8
    · have := hr h8
      exact .inl ⟨by rw [beq_iff_eq]; omega, by simp; omega, by simp; omega⟩
    · exact .inr (by rw [beq_eq_false_iff_ne]; omega)
  clear hr
  rcases e8 with ⟨q1, q2, q3⟩ | q1 <;> by_cases hn : n < 0
  all_goals
    go_enter Tryd.func53, Tryd.ntmps53
    go_wp2_with (at_make; refine wpList_make_full _ rfl _ _ 42 rfl w.heap.size 5 i0 (.int .u8 0) 1 Tryd.underlying42 hi hz0 hz1 _ _ _ _ W rfl rfl rfl rfl (by rw [hz2]; omega) (by unfold maxLen; omega) (Nat.le_refl _) ?_)
    intro w1 hown1 hgrow1
    rw [show (madeCells #[Value.int .u8 0] W).toList = (List.replicate W (0 : Int)).map (Value.int .u8) from (toList_madeCells_one _ _).trans (by simp)] at hown1
    have hb1 : Below w.heap.size w w1 := (Below.refl _ _).grown hgrow1 (Nat.le_refl _) (by intro k hk; cases hk)
    have hc0 : w1.cell? ⟨w.heap.size, 0, none⟩ = some (.int .u8 0) := by
      rw [hown1.cellAt 0 (by omega), List.getElem?_map, List.getElem?_replicate, if_pos (by omega)]; rfl
    have hf0 := hown1.frozenAt 0
    have HP : Hid (¬ n < 0 → (w1.setCell ⟨w.heap.size, 0, none⟩ (.int .u8 128)).ownsRow w.heap.size 5 1 (.slice (some ⟨w.heap.size, 0, none⟩) W W) W ((binRow n W 0).map (Value.int .u8))) := Lib.hid (fun h => by
      have := (hown1.stored 0 (.int .u8 128)).1
      rw [ints_set] at this
      rw [← binRow_start n W (by omega), show markB n = 128 by unfold markB; rw [if_neg h]]
      exact this)
    have HN : Hid (n < 0 → ((w1.setCell ⟨w.heap.size, 0, none⟩ (.int .u8 128)).setCell ⟨w.heap.size, 0, none⟩ (.int .u8 255)).ownsRow w.heap.size 5 1 (.slice (some ⟨w.heap.size, 0, none⟩) W W) W ((binRow n W 0).map (Value.int .u8))) := Lib.hid (fun h => by
      have := ((hown1.stored 0 (.int .u8 128)).1.stored 0 (.int .u8 255)).1
      rw [ints_set, ints_set, List.set_set] at this
      rw [← binRow_start n W (by omega), show markB n = 255 by unfold markB; rw [if_pos h]]
      exact this)
    have hbl1 : Below w.heap.size w (w1.setCell ⟨w.heap.size, 0, none⟩ (.int .u8 128)) := hb1.setCell (Nat.le_refl _) _
    have hbl2 : Below w.heap.size w ((w1.setCell ⟨w.heap.size, 0, none⟩ (.int .u8 128)).setCell ⟨w.heap.size, 0, none⟩ (.int .u8 255)) := hbl1.setCell (Nat.le_refl _) _
    clear hown1 hgrow1
    go_wp2
    clear hc0 hf0 hb1
    go_loopw [0, 36] (fun v i wr => ∃ k : Nat, k ≤ W - 1 ∧ i = .int .i64 k ∧ v = .int .i64 (shn n k) ∧ wr.ownsRow w.heap.size 5 1 (.slice (some ⟨w.heap.size, 0, none⟩) W W) W ((binRow n W k).map (Value.int .u8)) ∧ Below w.heap.size w wr) (fun _ i _ => W - (intOf i).toNat)
    case atStart => first | exact ⟨0, by omega, rfl, by rw [shn_zero], HN.out hn, hbl2⟩ | exact ⟨0, by omega, rfl, by rw [shn_zero], HP.out hn, hbl1⟩
    case round =>
      obtain ⟨k, hk, rfl, rfl, hown, hb⟩ := hrel
      clear HN HP hbl1 hbl2
      have hs := shn_le n hn1 hn2 k
      obtain ⟨hs1, hs2⟩ := hs
      by_cases hlt : k < W - 1
      · have hlt2 : (k : Int) < (W : Int) - 1 := by omega
        have hbr := binRow_length n W k hk (by omega)
        have hcell : ∃ c, wr.cell? ⟨w.heap.size, W - 1 - k, none⟩ = some c := by
          rw [hown.cellAt (W - 1 - k) (by omega)]
          exact ⟨_, List.getElem?_eq_getElem (by simp; omega)⟩
        obtain ⟨c, hcell⟩ := hcell
        have hfr := hown.frozenAt (W - 1 - k)
        have hst := (hown.stored (W - 1 - k) (.int .u8 (shn n k % 256))).1
        rw [ints_set, binRow_step n W k hlt] at hst
        have Hst := Lib.hid hst
        clear hst hown hbr
        go_wp2
        go_roundw
        case rel => exact ⟨k + 1, by omega, by go_num, by rw [shn_succ], Hst.out, hb.setCell (Nat.le_refl _) _⟩
        case measure => simp [intOf]; omega
      · obtain rfl : k = W - 1 := by omega
        have hnl : ¬ ((W - 1 : Nat) : Int) < (W : Int) - 1 := by omega
        rw [binRow_done] at hown
        have hlen := binNums_length n W (by omega)
        have hconv := run_convert_bytes_arg (P := Tryd.prog) wr 42 5 Tryd.underlying42 Tryd.underlying5 w.heap.size 0 W W (binNums n W) hlen (fun i hi => by
          rw [show 0 + i = i by omega, hown.cellAt i (by omega), List.getElem?_map, List.getElem?_eq_getElem (by omega)]
          simp [List.getD, List.getElem?_eq_getElem (show i < (binNums n W).length by omega)]) 9 Tryd.underlying9
        clear hown hlen
        go_wp2
        go_ret2
        exact ⟨rfl, hb⟩
end Go.Proofs.YtapfkjdkpcgoiaaDoor
