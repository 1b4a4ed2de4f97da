/- The keeps' decimal and pick. -/
import Derived.Test.YtheiamidochooaaDoorRec
import Derived.Deep.LoopGhost
import Derived.Laws.BytesArg
namespace Go.Proofs.YtheiamidochooaaDoor
open Go.RowKit Go.Joins
set_option linter.unusedVariables false

/-- The digits that stand ahead of what is written. -/
def aheadL (m : Nat) (T : List UInt8) : List UInt8 := if m = 0 ∧ T ≠ [] then [] else Lib.decDigits m
theorem ahead_step (m : Nat) (T : List UInt8) (h : 0 < m ∨ T = []) : aheadL m T ++ T = aheadL (m / 10) (UInt8.ofNat (48 + m % 10) :: T) ++ UInt8.ofNat (48 + m % 10) :: T := by
  have e1 : aheadL m T = Lib.decDigits m := by
    unfold aheadL
    rw [if_neg]
    rintro ⟨h1, h2⟩
    rcases h with h | h
    · omega
    · exact h2 h
  rw [e1]
  by_cases hm : m < 10
  · have : m / 10 = 0 := by omega
    rw [this, dec_small m hm, show m % 10 = m by omega]
    simp [aheadL]
  · rw [dec_step m hm]
    have : m / 10 ≠ 0 := by omega
    unfold aheadL
    rw [if_neg (by simp [this])]
    simp

/-- How much is left to do. -/
def leftD (m : Nat) (T : List UInt8) : Nat := m + (if T = [] then 1 else 0)
theorem byte_string (W : World) (d : Nat) (hd : d < 10) : (convert 77 9 (.slice (some ⟨W.heap.size, 0, none⟩) 1 1)).run Tryd.prog (W.alloc (.cells #[.int .u8 (48 + (d : Int))] 5)) = .ok (.string { data := #[UInt8.ofNat (48 + d)] }) (W.alloc (.cells #[.int .u8 (48 + (d : Int))] 5)) := by
  have := run_convert_bytes_arg (P := Tryd.prog) (w := W.alloc (.cells #[.int .u8 (48 + (d : Int))] 5)) 77 5 Tryd.underlying77 Tryd.underlying5 W.heap.size 0 1 1 [48 + (d : Int)] rfl (fun i hi => by
    obtain rfl : i = 0 := by omega
    simp) 9 Tryd.underlying9
  rw [this]
  have e : strOfNums [48 + (d : Int)] = { data := #[UInt8.ofNat (48 + d)] } := by
    have h : (48 + (d : Int)).toNat = 48 + d := by omega
    simp [strOfNums, h]
  rw [e]

set_option maxHeartbeats 2000000 in
theorem decimal_any (n : Nat) (hn : n ≤ 100000) (w : World) :
    Calls Tryd.prog 26 #[.int .i64 (n : Int)] w fun e w' => e = .returned (.string (mkS (Lib.decDigits n))) ∧ Below w.heap.size w w' := by
  have HC := Lib.hid (show ∀ (b : UInt8) (T : List UInt8), T.length ≤ 20 → ∀ w, (Op.stringOp .add { data := #[b] } (mkS T)).run Tryd.prog w = .ok (.string (mkS (b :: T))) w from fun b T hT w => mkS_cat [b] T (by simp; omega) w)
  go_enter Tryd.func26, Tryd.ntmps26
  go_wp2
  go_loopg [0, 3] (n + 1) (fun g s0 s3 wr => ∃ (m : Nat) (T : List UInt8), s0 = .int .i64 m ∧ s3 = .string (mkS T) ∧ m ≤ n ∧ leftD m T ≤ g ∧ Aside (Lib.decDigits n = aheadL m T ++ T ∧ Below w.heap.size w wr))
  case atStart => exact ⟨n, [], rfl, rfl, Nat.le_refl _, by simp [leftD], by simp [aheadL], Below.refl _ _⟩
  case round =>
    obtain ⟨m, T, rfl, rfl, hm, hg, A⟩ := hrel
    have hT : T.length ≤ 20 := by
      have h1 := congrArg List.length A.out.1
      rw [List.length_append] at h1
      have h2 := (digs_pad 12 n (by omega)).1
      omega
    by_cases h0 : (0 : Int) < (m : Int)
    · obtain ⟨d, hd⟩ : ∃ d, m % 10 = d := ⟨_, rfl⟩
      have hd9 : d < 10 := by omega
      have E1 : (m : Int) % 10 = (d : Int) := by omega
      have E2 : (m : Int).tmod 10 = (d : Int) := by rw [Int.tmod_eq_emod_of_nonneg (by omega)]; exact E1
      obtain ⟨c, hc⟩ : ∃ c, UInt8.ofNat (48 + d) = c := ⟨_, rfl⟩
      have C := HC.out c T hT
      have HA := Lib.hid A.out
      have CV := fun W => byte_string W d hd9
      rw [hc] at CV
      have HN := Lib.hid (show Lib.decDigits n = aheadL (m / 10) (c :: T) ++ c :: T from by rw [HA.out.1, ahead_step m T (Or.inl (by omega)), hd, hc])
      have hb0 := below_alloc1 wr (.cells #[.int .u8 (48 + (d : Int))] 5)
      have HL := Lib.hid hg
      clear A hd hc hg
      go_wp2
      go_roundg (leftD (m / 10) (c :: T))
      case measure =>
        have := HL.out
        unfold leftD at this ⊢
        split at this <;> simp <;> omega
      case rel => exact ⟨m / 10, c :: T, by first | rfl | simp, rfl, by omega, Nat.le_refl _, HN.out, HA.out.2.trans (hb0.mono HA.out.2.size)⟩
    · obtain rfl : m = 0 := by omega
      cases T with
      | nil =>
        obtain ⟨c, hc⟩ : ∃ c, UInt8.ofNat (48 + 0) = c := ⟨_, rfl⟩
        have C := HC.out c [] (by simp)
        have CV : ∀ W : World, (convert 77 9 (.slice (some ⟨W.heap.size, 0, none⟩) 1 1)).run Tryd.prog (W.alloc (.cells #[.int .u8 48] 5)) = .ok (.string { data := #[c] }) (W.alloc (.cells #[.int .u8 48] 5)) := fun W => by
          have h := byte_string W 0 (by omega)
          rw [hc] at h
          exact h
        have HA := Lib.hid A.out
        have E : (mkS []).toList = [] := by rw [ByteArray.toList_eq, mkS_list]
        have HN := Lib.hid (show Lib.decDigits n = aheadL 0 [c] ++ [c] from by rw [HA.out.1, ahead_step 0 [] (Or.inr rfl), ← hc])
        have hb0 := below_alloc1 wr (.cells #[.int .u8 48] 5)
        have HL := Lib.hid hg
        clear A hc hg
        go_wp2
        go_roundg 0
        case measure =>
          have := HL.out
          unfold leftD at this
          simp at this
          omega
        case rel => exact ⟨0, [c], by first | rfl | simp, rfl, by omega, by simp [leftD], HN.out, HA.out.2.trans (hb0.mono HA.out.2.size)⟩
      | cons x r =>
        have E : (mkS (x :: r)).toList = x :: r := by rw [ByteArray.toList_eq, mkS_list]
        go_wp2
        go_ret
        refine ⟨?_, A.out.2⟩
        rw [A.out.1]
        simp [aheadL]
end Go.Proofs.YtheiamidochooaaDoor
