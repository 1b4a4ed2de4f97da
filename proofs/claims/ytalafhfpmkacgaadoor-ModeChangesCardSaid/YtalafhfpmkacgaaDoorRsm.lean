/- The reference's within, power, only. -/
import Derived.Test.YtalafhfpmkacgaaDoorTrm
import Derived.Deep.LoopGhost
import Derived.BigQuiet
namespace Go.Proofs.YtalafhfpmkacgaaDoor
open Go.RowKit Go.Joins
set_option linter.unusedVariables false
set_option linter.unusedSimpArgs false
set_option maxRecDepth 100000

theorem within_any (m : Int) (w : World) :
    Calls Tryd.prog 23 #[.int .i64 m, .int .i64 0, .int .i64 4095] w fun e w' => e = .returned (.bool (decide (0 ≤ m ∧ m ≤ 4095))) ∧ w' = w := by
  by_cases h0 : 0 ≤ m
  · by_cases h1 : m ≤ 4095
    · rw [decide_eq_true ⟨h0, h1⟩]
      go_enter Tryd.func23, Tryd.ntmps23
      go_wp2
      go_ret
      exact ⟨by first | rfl | simp [h1], rfl⟩
    · rw [decide_eq_false (fun h => h1 h.2)]
      go_enter Tryd.func23, Tryd.ntmps23
      go_wp2
      go_ret
      exact ⟨by first | rfl | simp [h1], rfl⟩
  · rw [decide_eq_false (fun h => h0 h.1)]
    go_enter Tryd.func23, Tryd.ntmps23
    go_wp2
    go_ret
    exact ⟨by first | rfl | simp [h0], rfl⟩

theorem power_any (k : Nat) (hk : k ≤ 11) (w : World) :
    Calls Tryd.prog 26 #[.int .i64 2, .int .i64 (k : Int)] w fun e w' => e = .returned (.int .i64 ((2 ^ k : Nat) : Int)) ∧ w' = w := by
  have hp : 2 ^ k < 2 ^ 12 := Nat.pow_lt_pow_right (by decide) (by omega)
  have HP := Lib.hid (show 2 ^ k < 4096 from hp)
  clear hp
  go_enter Tryd.func26, Tryd.ntmps26
  go_wp2
  go_loopg [1, 5] k (fun g s1 s5 wr => ∃ (j p : Nat), j ≤ g ∧ j ≤ k ∧ p < 4096 ∧ s1 = .int .i64 j ∧ s5 = .int .i64 p ∧ Aside (p * 2 ^ j = 2 ^ k ∧ wr = w))
  case atStart => exact ⟨k, 1, Nat.le_refl _, Nat.le_refl _, by omega, rfl, rfl, by simp, rfl⟩
  case round =>
    obtain ⟨j, p, hj, hjk, hp, rfl, rfl, A⟩ := hrel
    by_cases h0 : 0 < j
    · have h0' : (0 : Int) < (j : Int) := by omega
      obtain ⟨i, rfl⟩ : ∃ i, j = i + 1 := ⟨j - 1, by omega⟩
      have e1 : ((i + 1 : Nat) : Int) - 1 = (i : Int) := by omega
      have HN := Lib.hid (show (p * 2) * 2 ^ i = 2 ^ k ∧ wr = w from ⟨by rw [← A.out.1, Nat.pow_succ']; rw [Nat.mul_assoc], A.out.2⟩)
      have hlt : p * 2 < 4096 := by
        have h1 := HN.out.1
        have h2 := HP.out
        have h3 : 1 ≤ 2 ^ i := Nat.one_le_pow _ _ (by decide)
        have h4 : p * 2 * 1 ≤ p * 2 * 2 ^ i := Nat.mul_le_mul_left _ h3
        omega
      clear A
      go_wp2
      go_roundg i
      case measure => omega
      case rel => exact ⟨i, p * 2, Nat.le_refl _, by omega, hlt, by first | rfl | simp, by first | rfl | simp, HN.out⟩
    · obtain rfl : j = 0 := by omega
      have HE := Lib.hid (show p = 2 ^ k ∧ wr = w from ⟨by have := A.out.1; simpa using this, A.out.2⟩)
      clear A
      go_wp2
      go_ret
      exact ⟨by rw [← HE.out.1]; rfl, HE.out.2⟩

theorem head_at (S : List UInt8) : ∀ (l : List UInt8) (n : Nat), n < (headS S l).length → ∃ c, l[n]? = some c ∧ S.contains c = true := fun l n h => by
  obtain ⟨c, hc⟩ : ∃ c, (headS S l)[n]? = some c := ⟨_, List.getElem?_eq_getElem h⟩
  refine ⟨c, ?_, List.all_eq_true.1 List.all_takeWhile c (List.mem_of_getElem? hc)⟩
  conv => lhs; rw [← head_rest S l]
  rw [List.getElem?_append_left h]; exact hc
theorem head_end (S : List UInt8) : ∀ (l : List UInt8) (c : UInt8), l[(headS S l).length]? = some c → S.contains c = false
  | [], c, h => by simp [headS] at h
  | d :: l, c, h => by
    by_cases hd : S.contains d = true
    · have e : headS S (d :: l) = d :: headS S l := by unfold headS; rw [List.takeWhile_cons_of_pos hd]
      rw [e] at h
      exact head_end S l c (by simpa using h)
    · have e : headS S (d :: l) = [] := by unfold headS; rw [List.takeWhile_cons_of_neg hd]
      rw [e] at h
      simp at h
      rw [← h]; simpa using hd
theorem head_take (S l : List UInt8) : l.take (headS S l).length = headS S l := by
  conv => lhs; rw [← head_rest S l]
  rw [List.take_left']
  rw [head_rest]
theorem rest_drop (S l : List UInt8) : l.drop (headS S l).length = restS S l := by
  conv => lhs; rw [← head_rest S l]
  rw [List.drop_left']
  rw [head_rest]

set_option maxHeartbeats 2000000 in
theorem only_any (S l : List UInt8) (hS : S.length ≤ 100) (hl : l.length ≤ 1000000) (w : World) :
    Calls Tryd.prog 24 #[.string (mkS l), .string (mkS S)] w fun e w' => e = .returned (.tuple #[.string (mkS (headS S l)), .string (mkS (restS S l))]) ∧ Below w.heap.size w w' := by
  have hz := mkS_size l
  have HI := Lib.hid (fun (i : Nat) (c : UInt8) (h : l[i]? = some c) => mkS_index l (i : Int) c (by omega) (by simpa using h))
  obtain ⟨n, hn⟩ : ∃ n, l.length = n := ⟨_, rfl⟩
  have hK0 := headS_le S l
  obtain ⟨K, hK⟩ : ∃ K, (headS S l).length = K := ⟨_, rfl⟩
  have HH := Lib.hid (fun (i : Nat) (h : i < K) => head_at S l i (by rw [hK]; exact h))
  have HE := Lib.hid (fun (c : UInt8) (h : l[K]? = some c) => head_end S l c (by rw [hK]; exact h))
  have u0 := mkS_upto l K (by omega)
  have o0 := mkS_onward l K (by omega)
  have ht := head_take S l
  have hd := rest_drop S l
  rw [hK] at ht hd
  rw [ht] at u0
  rw [hd] at o0
  rw [hn] at hz hl hK0
  rw [hK] at hK0
  have HL := Lib.hid hn
  clear hn hK ht hd
  generalize headS S l = HD at *
  generalize restS S l = RS at *
  go_enter Tryd.func24, Tryd.ntmps24
  go_wp2
  go_loopg [6] K (fun g s6 wr => ∃ i : Nat, i ≤ K ∧ K - i ≤ g ∧ s6 = .int .i64 i ∧ Aside (wr = w))
  case atStart => exact ⟨0, by omega, by omega, rfl, rfl⟩
  case round =>
    obtain ⟨i, hi, hg, rfl, A⟩ := hrel
    obtain rfl := A.out
    clear A
    by_cases hik : i < K
    · obtain ⟨c, hc, hS1⟩ := HH.out i hik
      have ix := HI.out i c hc
      have hin : (i : Int) < (n : Int) := by omega
      have N1 := Lib.hid (indexB_any S c)
      have y := (indexByte_in S c).2
      rw [hS1] at y
      rw [decide_eq_true_eq] at y
      generalize Lib.indexByte S c = x at *
      clear hc hS1
      go_wp2_with (go_at_call 35; with_reducible refine (N1.out _).mono ?_; rintro e w' ⟨rfl, hw⟩; replace hw := hw.symm; subst hw)
      go_roundg (K - (i + 1))
      case measure => omega
      case rel => exact ⟨i + 1, by omega, Nat.le_refl _, by first | rfl | simp, by first | rfl | trivial⟩
    · obtain rfl : i = K := by omega
      by_cases hin : i < n
      · obtain ⟨c, hc⟩ : ∃ c, l[i]? = some c := ⟨_, List.getElem?_eq_getElem (by rw [HL.out]; exact hin)⟩
        have ix := HI.out i c hc
        have hS1 := HE.out c hc
        have hin' : (i : Int) < (n : Int) := by omega
        have N1 := Lib.hid (indexB_any S c)
        have y := (indexByte_in S c).2
        rw [hS1] at y
        rw [decide_eq_false_iff_not] at y
        generalize Lib.indexByte S c = x at *
        clear hc hS1
        go_wp2_with (go_at_call 35; with_reducible refine (N1.out _).mono ?_; rintro e w' ⟨rfl, hw⟩; replace hw := hw.symm; subst hw)
        go_quiet (fail)
        go_wp2
        go_ret2
        exact ⟨rfl, below_draws _ _ _⟩
      · have hin' : ¬ (i : Int) < (n : Int) := by omega
        go_wp2
        go_quiet (fail)
        go_wp2
        go_ret2
        exact ⟨rfl, below_draws _ _ _⟩
end Go.Proofs.YtalafhfpmkacgaaDoor
