/- Ep: what the texts of the name hold, joined. -/
import Derived.Test.YtnjcefmmdghbmaaEo
set_option linter.unusedSimpArgs false
set_option linter.unusedVariables false
section
/- member.Right and the reference's EntryRight: what each returns of any member. -/
namespace Go.Proofs.Ytnjcefmmdghbmaa
open Go.RowKit Go.Joins
set_option linter.unusedVariables false
set_option linter.unusedSimpArgs false

set_option maxRecDepth 100000 in
set_option maxHeartbeats 8000000 in
theorem rightData_none (e : EntL) (k : UInt8) (hk : e.kind = k) (h5 : k = 49 ∨ k = 50 ∨ k = 51 ∨ k = 52 ∨ k = 53 ∨ k = 54) (ad : Option Addr) (cap : Nat) (ho : EntOk e) (w : World) :
    Calls Try.prog 13 #[entV e (.slice ad e.map.length cap)] w fun r w' => r = .returned (.bool (decide (e.size = 0) && !sparseE e)) ∧ Below w.heap.size w w' := by
  have hdt : e.data.length ≤ 9223372036854775807 := reach_fits ho.texts.2.2.2.2
  have CP := Lib.hid (fun w => sparse_any e ad cap hdt w)
  have hE := Lib.hid (EntAt.new w e (.slice ad e.map.length cap) 30)
  have hB := Lib.hid (below_alloc1 w (.cells (entC e (.slice ad e.map.length cap)) 30))
  clear ho
  have g48 : ((e.kind.toNat : Int) == 48) = (k == 48) := by rw [← hk]; exact u8_at _ 48 (by omega)
  have g49 : ((e.kind.toNat : Int) == 49) = (k == 49) := by rw [← hk]; exact u8_at _ 49 (by omega)
  have g50 : ((e.kind.toNat : Int) == 50) = (k == 50) := by rw [← hk]; exact u8_at _ 50 (by omega)
  have g51 : ((e.kind.toNat : Int) == 51) = (k == 51) := by rw [← hk]; exact u8_at _ 51 (by omega)
  have g52 : ((e.kind.toNat : Int) == 52) = (k == 52) := by rw [← hk]; exact u8_at _ 52 (by omega)
  have g53 : ((e.kind.toNat : Int) == 53) = (k == 53) := by rw [← hk]; exact u8_at _ 53 (by omega)
  have g54 : ((e.kind.toNat : Int) == 54) = (k == 54) := by rw [← hk]; exact u8_at _ 54 (by omega)
  clear hk
  generalize sparseE _ = b1 at *
  unfold entC at hB hE
  unfold entV at CP ⊢
  obtain ⟨a0, a1, a2, a3, a4, a5, a6, a7, a8, a9, a10, a11, a12, a13, a14⟩ := e
  simp only at *
  generalize a14.length = n at *
  cases h0 : decide (a5 = 0)
  case' true => obtain rfl := of_decide_eq_true h0
  case' false => have h1 : (a5 == 0) = false := by rw [beq_eq_false_iff_ne]; exact of_decide_eq_false h0
  all_goals
    clear h0
    rcases h5 with rfl | rfl | rfl | rfl | rfl | rfl
  all_goals
    change _ = false at g48
    first | change _ = false at g49 | change _ = true at g49
    first | change _ = false at g50 | change _ = true at g50
    first | change _ = false at g51 | change _ = true at g51
    first | change _ = false at g52 | change _ = true at g52
    first | change _ = false at g53 | change _ = true at g53
    first | change _ = false at g54 | change _ = true at g54
    go_enter Try.func13, Try.ntmps13
    go_wp2_with (first
      | (go_at_call 22; (with_reducible refine (CP.out _).mono ?_); rintro r w2 ⟨rfl, h2⟩)
      | fail)
    go_ret
    exact ⟨rfl, by first | exact hB.out | exact hB.out.trans (h2.mono hB.out.size)⟩
set_option maxRecDepth 100000 in
set_option maxHeartbeats 8000000 in
theorem rightData_other (e : EntL) (h48 : ¬ (e.kind.toNat : Int) = 48) (h49 : ¬ (e.kind.toNat : Int) = 49) (h50 : ¬ (e.kind.toNat : Int) = 50) (h51 : ¬ (e.kind.toNat : Int) = 51) (h52 : ¬ (e.kind.toNat : Int) = 52) (h53 : ¬ (e.kind.toNat : Int) = 53) (h54 : ¬ (e.kind.toNat : Int) = 54) (v : Value) (w : World) :
    Calls Try.prog 13 #[entV e v] w fun r w' => r = .returned (.bool false) ∧ Below w.heap.size w w' := by
  have g48 : ((e.kind.toNat : Int) == 48) = false := by rw [beq_eq_false_iff_ne]; exact h48
  have g49 : ((e.kind.toNat : Int) == 49) = false := by rw [beq_eq_false_iff_ne]; exact h49
  have g50 : ((e.kind.toNat : Int) == 50) = false := by rw [beq_eq_false_iff_ne]; exact h50
  have g51 : ((e.kind.toNat : Int) == 51) = false := by rw [beq_eq_false_iff_ne]; exact h51
  have g52 : ((e.kind.toNat : Int) == 52) = false := by rw [beq_eq_false_iff_ne]; exact h52
  have g53 : ((e.kind.toNat : Int) == 53) = false := by rw [beq_eq_false_iff_ne]; exact h53
  have g54 : ((e.kind.toNat : Int) == 54) = false := by rw [beq_eq_false_iff_ne]; exact h54
  clear h48 h49 h50 h51 h52 h53 h54
  unfold entV
  go_enter Try.func13, Try.ntmps13
  go_wp2_with fail
  go_ret
  exact ⟨rfl, below_alloc1 _ _⟩
theorem rightData_any (e : EntL) (ad : Option Addr) (cap : Nat) (ho : EntOk e) (w : World) (hM : PiecesAt w ad e.map) :
    Calls Try.prog 13 #[entV e (.slice ad e.map.length cap)] w fun r w' => r = .returned (.bool (rightD e)) ∧ Below w.heap.size w w' := by
  unfold rightD
  have none : ∀ k, (k = 49 ∨ k = 50 ∨ k = 51 ∨ k = 52 ∨ k = 53 ∨ k = 54) → e.kind = k → Calls Try.prog 13 #[entV e (.slice ad e.map.length cap)] w fun r w' => r = .returned (.bool (if e.kind = 48 then fitsI e.size 4000 && (!sparseE e || (mapRight e.map e.size && decide ((e.data.length : Int) = sizeF 0 e.map))) else if 49 ≤ e.kind ∧ e.kind ≤ 54 then decide (e.size = 0) && !sparseE e else false)) ∧ Below w.heap.size w w' := fun k hk he => by
    rw [if_neg (by rw [he]; rcases hk with rfl | rfl | rfl | rfl | rfl | rfl <;> decide), if_pos (by rw [he]; rcases hk with rfl | rfl | rfl | rfl | rfl | rfl <;> decide)]
    exact rightData_none e k he hk ad cap ho w
  rcases kind_cases e.kind with h | h | h | h | h | h | h | ⟨h0, h1, h2, h3, h4, h5, h6, h7, h8⟩
  · rw [if_pos h]
    exact rightData_file e (by rw [h]; rfl) ad cap ho w hM
  · exact none _ (.inl rfl) h
  · exact none _ (.inr (.inl rfl)) h
  · exact none _ (.inr (.inr (.inl rfl))) h
  · exact none _ (.inr (.inr (.inr (.inl rfl)))) h
  · exact none _ (.inr (.inr (.inr (.inr (.inl rfl))))) h
  · exact none _ (.inr (.inr (.inr (.inr (.inr rfl))))) h
  · rw [if_neg h7, if_neg h8]
    exact rightData_other e h0 h1 h2 h3 h4 h5 h6 _ w
set_option maxRecDepth 100000 in
set_option maxHeartbeats 8000000 in
theorem rightM_any (e : EntL) (ad : Option Addr) (cap : Nat) (ho : EntOk e) (w : World) (hM : PiecesAt w ad e.map) :
    Calls Try.prog 6 #[entV e (.slice ad e.map.length cap)] w fun r w' => r = .returned (.bool (rightE e)) ∧ Below w.heap.size w w' := by
  have z := ho.texts
  have CT := Lib.hid (rightTexts_any e (.slice ad e.map.length cap) ⟨reach_fits z.1, reach_fits z.2.1, reach_fits z.2.2.1, reach_fits z.2.2.2.1⟩)
  have CN := Lib.hid (rightNumbers_any e (.slice ad e.map.length cap))
  have CD := Lib.hid (fun W (h : Below w.heap.size w W) => rightData_any e ad cap ho W (hM.below h))
  have hE := Lib.hid (EntAt.new w e (.slice ad e.map.length cap) 30)
  have hB := Lib.hid (below_alloc1 w (.cells (entC e (.slice ad e.map.length cap)) 30))
  clear ho hM z
  unfold rightE
  generalize rightT e = b0 at *
  generalize rightN e = b1 at *
  generalize rightD e = b2 at *
  unfold entC at hB hE
  unfold entV at CT CN CD ⊢
  generalize e.map.length = n at *
  cases b0
  case' true => cases b1
  all_goals
    go_enter Try.func6, Try.ntmps6
    go_wp2_with (first
      | (go_at_call 11; (with_reducible refine (CT.out _).mono ?_); rintro r w2 ⟨rfl, h2⟩; have hB2 := Lib.hid (hB.out.trans (h2.mono hB.out.size)); have hE2 := Lib.hid (hE.out.below h2 hE.out.lt); clear h2; obtain ⟨c0, c1, c2, c3, c4, c5, c6, c7, c8, c9, c10, c11, c12, c13, c14⟩ := id hE2.out)
      | (go_at_call 12; (with_reducible refine (CN.out _).mono ?_); rintro r w3 ⟨rfl, h3⟩; have hB3 := Lib.hid (hB2.out.trans (h3.mono hB2.out.size)); have hE3 := Lib.hid (hE2.out.below h3 hE2.out.lt); clear h3 c0 c1 c2 c3 c4 c5 c6 c7 c8 c9 c10 c11 c12 c13 c14; obtain ⟨c0, c1, c2, c3, c4, c5, c6, c7, c8, c9, c10, c11, c12, c13, c14⟩ := id hE3.out)
      | (go_at_call 13; (with_reducible refine (CD.out _ hB3.out).mono ?_); rintro r w4 ⟨rfl, h4⟩; have hB4 := Lib.hid (hB3.out.trans (h4.mono hB3.out.size)); clear h4)
      | fail)
    go_ret
    exact ⟨by first | rfl | (cases b2 <;> rfl), by first | exact hB4.out | exact hB3.out | exact hB2.out⟩
end Go.Proofs.Ytnjcefmmdghbmaa
end
