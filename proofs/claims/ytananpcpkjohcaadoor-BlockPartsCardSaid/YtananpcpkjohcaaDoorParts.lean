/- The law BlockParts: its walk. -/
import Derived.Test.YtananpcpkjohcaaDoorSwap
namespace Go.Proofs.YtananpcpkjohcaaDoor
open Go.RowKit
set_option linter.unusedVariables false
set_option linter.unusedSimpArgs false

theorem bytesAt_below {w w' : World} {b B : Nat} {l : List UInt8} (h : bytesAt w b l) (hb : b < B) (hw : Below B w w') : bytesAt w' b l := by
  intro j hj
  obtain ⟨h1, h2⟩ := h j hj
  exact ⟨by rw [hw.cell (p := ⟨b, j, none⟩) hb]; exact h1, by rw [hw.frozen (p := ⟨b, j, none⟩) hb]; exact h2⟩
theorem bytesAt_other {w : World} {b b' : Nat} {l : List UInt8} (h : bytesAt w b l) (hb : b' ≠ b) (j : Nat) (v : Value) : bytesAt (w.setCell ⟨b', j, none⟩ v) b l := by
  intro k hk
  obtain ⟨h1, h2⟩ := h k hk
  exact ⟨by rw [World.cell?_setCell_other _ _ _ _ (by intro he; injection he with he; exact hb he)]; exact h1, by rw [World.frozen?_setCell]; exact h2⟩

/-- the mask's cells. -/
def MaskAt (w : World) (ad : Option Addr) (len : Nat) (M : Nat → Bool) : Prop := ∀ i, i < len → ∃ b off, ad = some ⟨b, off, none⟩ ∧ b < w.heap.size ∧ w.cell? ⟨b, off + i, none⟩ = some (.bool (M i))

/-- the two parts, up to k. -/
def PartsUpto (V la lb : List UInt8) (k : Nat) : Prop := ∀ j, j < 512 → (j < k → (bAt la j = 0 ∧ bAt lb j = bAt V j) ∨ (bAt la j = bAt V j ∧ bAt lb j = 0)) ∧ (k ≤ j → bAt la j = bAt V j ∧ bAt lb j = bAt V j)
theorem parts_start (V : List UInt8) : PartsUpto V V V 0 := fun j _ => ⟨fun h => by omega, fun _ => ⟨rfl, rfl⟩⟩
theorem parts_a {V la lb : List UInt8} {k : Nat} (h : PartsUpto V la lb k) (hk : k < 512) (hl : la.length = 512) : PartsUpto V (la.set k 0) lb (k + 1) := by
  intro j hj
  obtain ⟨h1, h2⟩ := h j hj
  by_cases e : j = k
  · subst e
    rw [bAt_set_eq la j 0 (by omega)]
    exact ⟨fun _ => .inl ⟨rfl, (h2 (Nat.le_refl _)).2⟩, fun h => by omega⟩
  · rw [bAt_set_ne la k j 0 e]
    exact ⟨fun h => h1 (by omega), fun h => h2 (by omega)⟩
theorem parts_b {V la lb : List UInt8} {k : Nat} (h : PartsUpto V la lb k) (hk : k < 512) (hl : lb.length = 512) : PartsUpto V la (lb.set k 0) (k + 1) := by
  intro j hj
  obtain ⟨h1, h2⟩ := h j hj
  by_cases e : j = k
  · subst e
    rw [bAt_set_eq lb j 0 (by omega)]
    exact ⟨fun _ => .inr ⟨(h2 (Nat.le_refl _)).1, rfl⟩, fun h => by omega⟩
  · rw [bAt_set_ne lb k j 0 e]
    exact ⟨fun h => h1 (by omega), fun h => h2 (by omega)⟩
theorem parts_done {V la lb : List UInt8} (h : PartsUpto V la lb 512) (sg : Bool) : sumC sg la 512 + sumC sg lb 512 = sumC sg V 512 + 256 :=
  sumC_parts sg V la lb 512 fun k hk => (h k hk).1 hk

set_option maxRecDepth 100000 in
set_option maxHeartbeats 4000000 in
theorem blockParts_at (l : List UInt8) (hl : l.length ≤ 600) (ad : Option Addr) (len cap : Nat) (M : Nat → Bool) (hlen : len ≤ 600) (w : World) (hM : MaskAt w ad len M) :
    Calls Tryd.prog 19 #[.string (mkS l), .slice ad len cap] w fun e w' => e = .returned (.bool true) ∧ Below w.heap.size w w' := by
  have hsz := mkS_size l
  have d1 : decide ((600 : Int) < (l.length : Int)) = false := by simp; omega
  have d2 : decide ((600 : Int) < (len : Int)) = false := by simp; omega
  have c5 := fun w => repeat_any 0 512 w (by omega)
  have hcat := fun w => cat_mkS l (List.replicate 512 0) (by rw [List.length_replicate]; omega) w
  have hto : ∀ w, (Instr.slice 9 (.string (mkS (l ++ List.replicate 512 0))) none (some (.int .i64 512)) none).run Tryd.prog w = .ok (.string (mkS (headL l))) w := fun w => mkS_upto (l ++ List.replicate 512 0) 512 (by rw [List.length_append, List.length_replicate]; omega) w
  have hVl := headL_length l
  generalize l ++ List.replicate 512 0 = U at hcat hto
  generalize List.replicate 512 (0 : UInt8) = R at c5 hcat
  generalize headL l = V at hto hVl
  have hVs : (mkS V).size = 512 := by rw [mkS_size, hVl]
  have hcv := fun w => Lib.run_convert_string_bytes (P := Tryd.prog) w 9 55 5 (mkS V) Tryd.underlying9 Tryd.underlying55 Tryd.underlying5
  rw [hVs] at hcv
  have Hcv := Lib.hid hcv
  have C5 := Lib.hid c5
  have HV := Lib.hid hVl
  have HM := Lib.hid hM
  clear c5 hcv hVl hM
  go_enter Tryd.func19, Tryd.ntmps19
  go_wp2_with (go_at_call 44; refine (blocked_true _).mono ?_; rintro x w1 ⟨rfl, hb1⟩)
  refine (C5.out _).mono ?_; rintro x w2 ⟨rfl, hb2⟩
  have hbb := chain hb1 hb2
  have hge := hbb.size
  have hcA := Hcv.out w2
  have hnA := bytesAt_new w2 5 V
  have hbA := below_bytesWorld w2 5 (mkS V)
  have hzA := Lib.bytesWorld_size w2 5 (mkS V)
  generalize Lib.bytesWorld w2 5 (mkS V) = w3 at hcA hnA hbA hzA
  generalize grownCap w2 512 0 5 = capA at hcA
  have hcB := Hcv.out w3
  have hnB := bytesAt_new w3 5 V
  have hbB := below_bytesWorld w3 5 (mkS V)
  generalize Lib.bytesWorld w3 5 (mkS V) = w4 at hcB hnB hbB
  generalize grownCap w3 512 0 5 = capB at hcB
  have hnA4 := bytesAt_below hnA (by omega) hbB
  have hb4 := chain (chain hbb hbA) hbB
  have hAB : w2.heap.size ≠ w3.heap.size := by omega
  have hgeB : w.heap.size ≤ w3.heap.size := by omega
  have HnA := Lib.hid hnA4
  have HnB := Lib.hid hnB
  clear hnA4 hnB hnA hb1 hb2 hbb hbA hbB hzA
  generalize w2.heap.size = ba at *
  generalize w3.heap.size = bb at *
  go_wp2_with fail
  clear hcA hcB hcat hto
  go_loopw [7] (fun i wr => ∃ (k : Nat) (la lb : List UInt8), k ≤ 512 ∧ i = .int .i64 (k : Int) ∧ la.length = 512 ∧ lb.length = 512 ∧ bytesAt wr ba la ∧ bytesAt wr bb lb ∧ PartsUpto V la lb k ∧ Below w.heap.size w wr) (fun i _ => 512 - (intOf i).toNat)
  case atStart => exact ⟨0, V, V, by omega, rfl, HV.out, HV.out, HnA.out, HnB.out, parts_start V, hb4⟩
  case round =>
    obtain ⟨k, la, lb, hk, rfl, hla, hlb, hA, hB, hP, hb⟩ := hrel
    clear HnA HnB hb4
    have Hla := Lib.hid hla
    have Hlb := Lib.hid hlb
    have HA := Lib.hid hA
    have HB := Lib.hid hB
    have HP := Lib.hid hP
    by_cases hlt : k < 512
    · have hlt2 : (k : Int) < 512 := by omega
      obtain ⟨hcA, hfA⟩ := hA k (by omega)
      obtain ⟨hcB, hfB⟩ := hB k (by omega)
      have hsA := bytesAt_set hA k 0 0 rfl (by omega)
      have hsB := bytesAt_set hB k 0 0 rfl (by omega)
      have hoA := bytesAt_other hA (Ne.symm hAB) k (.int .u8 0)
      have hoB := bytesAt_other hB hAB k (.int .u8 0)
      have HsA := Lib.hid hsA
      have HsB := Lib.hid hsB
      have HoA := Lib.hid hoA
      have HoB := Lib.hid hoB
      have HAB := Lib.hid hAB
      clear hsA hsB hoA hoB hA hB hP hla hlb
      by_cases hm : k < len
      · have hm2 : (k : Int) < (len : Int) := by omega
        obtain ⟨mb, off, rfl, hmb, hmc⟩ := HM.out k hm
        have hmc2 := hmc
        rw [← hb.cell (p := ⟨mb, off + k, none⟩) hmb] at hmc2
        clear hmc
        cases hMk : M k
        · rw [hMk] at hmc2
          go_wp2
          go_roundw
          case rel => exact ⟨k + 1, la, lb.set k 0, by omega, by go_num, Hla.out, by rw [List.length_set]; exact Hlb.out, HoA.out, HsB.out, parts_b HP.out hlt Hlb.out, hb.setCell hgeB _⟩
          case measure => simp [intOf]; omega
        · rw [hMk] at hmc2
          go_wp2
          go_roundw
          case rel => exact ⟨k + 1, la.set k 0, lb, by omega, by go_num, by rw [List.length_set]; exact Hla.out, Hlb.out, HsA.out, HoB.out, parts_a HP.out hlt Hla.out, hb.setCell hge _⟩
          case measure => simp [intOf]; omega
      · have hm2 : decide ((k : Int) < (len : Int)) = false := by simp; omega
        go_wp2
        go_roundw
        case rel => exact ⟨k + 1, la, lb.set k 0, by omega, by go_num, Hla.out, by rw [List.length_set]; exact Hlb.out, HoA.out, HsB.out, parts_b HP.out hlt Hlb.out, hb.setCell hgeB _⟩
        case measure => simp [intOf]; omega
    · obtain rfl : k = 512 := by omega
      have e1 := parts_done hP false
      have e2 := parts_done hP true
      have hwn := hb.alloc hb.size (.cells #[.bool false, .bool true] 4)
      have hsz2 := hb.size
      have hA5 := bytesAt_below hA (by
        have := (hA 0 (by omega)).1
        exact World.block_lt_of_cell? _ _ this) ((Below.refl wr.heap.size wr).alloc (Nat.le_refl _) (.cells #[.bool false, .bool true] 4))
      have hB5 := bytesAt_below hB (by
        have := (hB 0 (by omega)).1
        exact World.block_lt_of_cell? _ _ this) ((Below.refl wr.heap.size wr).alloc (Nat.le_refl _) (.cells #[.bool false, .bool true] 4))
      have hc1 := bytesAt_conv hA5 512 capA hla
      have hc2 := bytesAt_conv hB5 512 capB hlb
      have n1 := fun sg w => sum_mkS V sg HV.out w
      have n2 := fun sg w => sum_mkS la sg hla w
      have n3 := fun sg w => sum_mkS lb sg hlb w
      have r1 := sumC_range false V 512
      have r2 := sumC_range true V 512
      have r3 := sumC_range false la 512
      have r4 := sumC_range true la 512
      have r5 := sumC_range false lb 512
      have r6 := sumC_range true lb 512
      have q1 : (sumC false V 512 + 256 == sumC false la 512 + sumC false lb 512) = true := by rw [beq_iff_eq]; omega
      have q2 : (sumC true V 512 + 256 == sumC true la 512 + sumC true lb 512) = true := by rw [beq_iff_eq]; omega
      have q3 : (sumC false V 512 + 256 != sumC false la 512 + sumC false lb 512) = false := by rw [bne_eq_false_iff_eq]; omega
      have q4 : (sumC true V 512 + 256 != sumC true la 512 + sumC true lb 512) = false := by rw [bne_eq_false_iff_eq]; omega
      have N1 := Lib.hid n1
      have N2 := Lib.hid n2
      have N3 := Lib.hid n3
      clear hA hB hP hA5 hB5 hla hlb n1 n2 n3 e1 e2 Hla Hlb HA HB HP
      have hnl : ¬ ((512 : Nat) : Int) < 512 := by omega
      generalize mkS la = SA at *
      generalize mkS lb = SB at *
      generalize mkS V = SV at *
      go_wp2
      refine wp_loop_rounds 3 ?_
      rw [rounds_succ]
      go_wp2_with fail
      refine (N1.out _ _).mono ?_; rintro x wz ⟨rfl, hw⟩; replace hw := hw.symm; subst hw
      go_wp2_with fail
      refine (N2.out _ _).mono ?_; rintro x wz ⟨rfl, hw⟩; replace hw := hw.symm; subst hw
      go_wp2_with fail
      refine (N3.out _ _).mono ?_; rintro x wz ⟨rfl, hw⟩; replace hw := hw.symm; subst hw
      go_wp2_with fail
      rw [rounds_succ]
      go_wp2_with fail
      refine (N1.out _ _).mono ?_; rintro x wz ⟨rfl, hw⟩; replace hw := hw.symm; subst hw
      go_wp2_with fail
      refine (N2.out _ _).mono ?_; rintro x wz ⟨rfl, hw⟩; replace hw := hw.symm; subst hw
      go_wp2_with fail
      refine (N3.out _ _).mono ?_; rintro x wz ⟨rfl, hw⟩; replace hw := hw.symm; subst hw
      go_wp2_with fail
      rw [rounds_succ]
      go_wp2
      go_ret
      exact ⟨rfl, hwn⟩
end Go.Proofs.YtananpcpkjohcaaDoor
