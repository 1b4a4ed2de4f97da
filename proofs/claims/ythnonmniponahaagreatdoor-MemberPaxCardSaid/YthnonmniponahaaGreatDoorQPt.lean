/- Pt: what the texts of the name hold, joined. -/
import Derived.Test.YthnonmniponahaaGreatDoorQPp
set_option linter.unusedSimpArgs false
set_option linter.unusedVariables false
section
/- The reference's cutTo and piecesText. -/
namespace Go.Proofs.YthnonmniponahaaGreatDoor
open Go.RowKit Go.Joins
set_option linter.unusedVariables false
set_option linter.unusedSimpArgs false

set_option maxHeartbeats 2000000 in
theorem cutTo_any (l : List UInt8) (hl : l.length ≤ 1000000) (w : World) :
    Calls Tryz.prog 158 #[.string (mkS l), .int .i64 100] w fun e w' => e = .returned (.string (mkS (l.take 100))) ∧ Below w.heap.size w w' := by
  have s1 := mkS_size l
  by_cases h : (l.length : Int) < 100
  · have hm : min (100 : Int) (l.length : Int) = (l.length : Int) := by omega
    have e : l.take 100 = l := List.take_of_length_le (by omega)
    have k1 : ∀ W, (Instr.slice 9 (.string (mkS l)) none (some (.int .i64 (l.length : Int))) none).run Tryz.prog W = .ok (.string (mkS l)) W := fun W => by
      have := mkS_upto l l.length (Nat.le_refl _) W
      rwa [List.take_length] at this
    rw [e]
    go_enter Tryz.func158, Tryz.ntmps158
    go_wp2_with fail
    go_ret
    exact ⟨rfl, Below.refl _ _⟩
  · have hm : min (100 : Int) (l.length : Int) = 100 := by omega
    have k1 : ∀ W, (Instr.slice 9 (.string (mkS l)) none (some (.int .i64 100)) none).run Tryz.prog W = .ok (.string (mkS (l.take 100))) W := fun W => mkS_upto l 100 (by omega) W
    go_enter Tryz.func158, Tryz.ntmps158
    go_wp2_with fail
    go_ret
    exact ⟨rfl, Below.refl _ _⟩
theorem refOctal_mem (n : Int) (h0 : 0 ≤ n) (h1 : n ≤ 8589934591) (w : World) :
    Calls Tryz.prog 159 #[.int .i64 n, .int .i64 12] w fun e w' => e = .returned (.tuple #[.string (mkS (octL n)), .int .i64 0]) ∧ Below w.heap.size w w' := by
  rw [← octL_str]; exact refOctal_ok n 12 w (by omega) (by omega) h0 (by omega) (by rw [most12]; exact h1)

/-! ### piecesText -/
def pzL (l : List Pc) (k : Nat) : List UInt8 := match l[k]? with
  | some p => octL p.1 ++ octL p.2
  | none => List.replicate 24 0
def pzT (l : List Pc) (a : Nat) : Nat → List UInt8
  | 0 => []
  | i + 1 => pzT l a i ++ pzL l (a + i)
theorem pzL_len (l : List Pc) (k : Nat) : (pzL l k).length = 24 := by
  unfold pzL
  split
  · rw [List.length_append, octL_length, octL_length]
  · rw [List.length_replicate]
theorem pzT_len (l : List Pc) (a : Nat) : ∀ i, (pzT l a i).length = 24 * i
  | 0 => rfl
  | i + 1 => by
    unfold pzT
    rw [List.length_append, pzT_len l a i, pzL_len]
    omega
theorem pzT_eq (l : List Pc) (a : Nat) : ∀ i, pzT l a i = pcsL ((l.drop a).take i) ++ List.replicate ((i - min i (l.drop a).length) * 24) 0
  | 0 => by simp [pzT, pcsL]
  | i + 1 => by
    have ih := pzT_eq l a i
    unfold pzT
    rw [ih]
    unfold pzL
    have hd : (l.drop a).length = l.length - a := List.length_drop ..
    have hg : l[a + i]? = (l.drop a)[i]? := by rw [List.getElem?_drop]
    cases h : l[a + i]? with
    | some p =>
      rw [hg] at h
      have hlt := (List.getElem?_eq_some_iff.1 h).1
      rw [pcsL_take h, show i - min i (l.drop a).length = 0 by omega, show (i + 1) - min (i + 1) (l.drop a).length = 0 by omega]
      simp only [Nat.zero_mul, List.replicate_zero, List.append_nil, List.append_assoc]
    | none =>
      have hle := List.getElem?_eq_none_iff.1 h
      rw [List.take_of_length_le (by omega), List.take_of_length_le (by omega), List.append_assoc, List.replicate_append_replicate]
      rw [show (i - min i (l.drop a).length) * 24 + 24 = ((i + 1) - min (i + 1) (l.drop a).length) * 24 by omega]
theorem listF_pz (l : List Pc) (a n : Nat) : listF (l.drop a) n = pzT l a n ++ [if n < (l.drop a).length then 1 else 0] := by
  rw [pzT_eq]
  unfold listF
  rw [List.append_assoc]
set_option maxRecDepth 100000 in
set_option maxHeartbeats 8000000 in
theorem piecesText_any (ad : Option Addr) (cap : Nat) (l : List Pc) (a n : Nat) (A N : Int) (hA : A = (a : Int)) (hN : N = (n : Int)) (ha : a ≤ 1000) (hn : n ≤ 100) (hl : l.length ≤ 1000) (ho : Octs l) (w : World) (hM : PiecesAt w ad l) :
    Calls Tryz.prog 161 #[.slice ad l.length cap, .int .i64 A, .int .i64 N] w fun e w' => e = .returned (.string (mkS (pzT l a n))) ∧ Below w.heap.size w w' := by
  subst hA hN
  have HM := Lib.hid (fun W (h : Below w.heap.size w W) => hM.below h)
  have HO := Lib.hid ho
  have HL := Lib.hid (pzT_len l a)
  have HS := Lib.hid (fun i => show pzT l a (i + 1) = pzT l a i ++ pzL l (a + i) from rfl)
  have RP := Lib.hid (fun W => show Calls Tryz.prog 121 #[.string ⟨#[0]⟩, .int .i64 24] W fun e w' => e = .returned (.string (mkS (List.replicate 24 0))) ∧ Below W.heap.size W w' from rep_zero 24 W (by omega))
  have H0 := Lib.hid (show (⟨#[]⟩ : ByteArray) = mkS (pzT l a 0) from rfl)
  obtain ⟨m, hm⟩ : ∃ m, l.length = m := ⟨_, rfl⟩
  clear hM ho
  go_enter Tryz.func161, Tryz.ntmps161
  go_wp2_with fail
  rw [hm]
  go_loopg [8, 7] n (fun g s8 s7 wr => ∃ i : Nat, i ≤ n ∧ n - i ≤ g ∧ s8 = .int .i64 ((a : Int) + (i : Int)) ∧ s7 = .string (mkS (pzT l a i)) ∧ Aside (Below w.heap.size w wr))
  case atStart => exact ⟨0, by omega, by omega, by first | rfl | simp, H0.out ▸ rfl, Below.refl _ _⟩
  case round =>
    obtain ⟨i, hi, hg, rfl, rfl, A⟩ := hrel
    have hll := HL.out i
    by_cases hin : i < n
    · have HT := Lib.hid (HS.out i)
      by_cases him : a + i < m
      · obtain ⟨p, hpp⟩ : ∃ p, l[a + i]? = some p := ⟨_, List.getElem?_eq_getElem (by omega)⟩
        obtain ⟨b, off, rfl, hlt, c1, c2⟩ := HM.out wr A.out (a + i) p hpp
        obtain ⟨⟨z1, z2⟩, z3, z4⟩ := HO.out p (List.mem_of_getElem? hpp)
        have O1 := Lib.hid (fun W => refOctal_mem p.1 z1 z2 W)
        have O2 := Lib.hid (fun W => refOctal_mem p.2 z3 z4 W)
        have hix : ∀ W, (Instr.indexAt 26 (.slice (some ⟨b, off, none⟩) m cap) (.int .i64 ((a : Int) + (i : Int)))).run Tryz.prog W = .ok (.pointer (some ⟨b, off + (a + i) * 2, none⟩)) W := fun W => by
          have := idx_piece W b off m cap (a + i) him
          rwa [Int.natCast_add] at this
        have l1 := octL_length p.1
        have l2 := octL_length p.2
        have HP := Lib.hid (show pzL l (a + i) = octL p.1 ++ octL p.2 by unfold pzL; rw [hpp])
        have HC2 := Lib.hid (fun W (h : Below wr.heap.size wr W) => (h.cell (p := ⟨b, off + (a + i) * 2 + 1, none⟩) hlt).trans c2)
        clear hpp z1 z2 z3 z4
        generalize octL p.1 = X at *
        generalize octL p.2 = Y at *
        generalize pzT l a i = S at *
        have k1 := fun W => mkS_cat X Y (by omega) W
        have k2 := fun W => mkS_cat S (X ++ Y) (by rw [List.length_append]; omega) W
        have hc1 : ¬ ((m : Int) ≤ (a : Int) + (i : Int)) := by omega
        go_wp2_with (first
          | (go_at_call 159; (with_reducible refine (O1.out _).mono ?_); rintro e w2 ⟨rfl, h2⟩; have c3 := HC2.out _ h2; have hB2 := Lib.hid (A.out.trans (h2.mono A.out.size)); clear h2)
          | (go_at_call 159; (with_reducible refine (O2.out _).mono ?_); rintro e w4 ⟨rfl, h5⟩; have hB4 := Lib.hid (hB2.out.trans (h5.mono hB2.out.size)); clear h5)
          | fail)
        go_roundg (n - (i + 1))
        case measure => omega
        case rel => exact ⟨i + 1, by omega, by omega, by first | rfl | (simp; omega), by rw [HT.out, HP.out], hB4.out⟩
      · have HP := Lib.hid (show pzL l (a + i) = List.replicate 24 0 by unfold pzL; rw [List.getElem?_eq_none (by omega)])
        have hz : (List.replicate 24 (0 : UInt8)).length = 24 := by simp
        generalize List.replicate 24 (0 : UInt8) = Y at *
        generalize pzT l a i = S at *
        have k2 := fun W => mkS_cat S Y (by omega) W
        have hc1 : ((m : Int) ≤ (a : Int) + (i : Int)) := by omega
        go_wp2_with (first
          | (go_at_call 121; (with_reducible refine (RP.out _).mono ?_); rintro e w2 ⟨rfl, h2⟩; have hB2 := Lib.hid (A.out.trans (h2.mono A.out.size)); clear h2)
          | fail)
        go_roundg (n - (i + 1))
        case measure => omega
        case rel => exact ⟨i + 1, by omega, by omega, by first | rfl | (simp; omega), by rw [HT.out, HP.out], hB2.out⟩
    · obtain rfl : i = n := by omega
      go_wp2_with fail
      go_ret
      exact ⟨rfl, A.out⟩
end Go.Proofs.YthnonmniponahaaGreatDoor
end
