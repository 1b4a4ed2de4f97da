/- Pp: what the texts of the name hold, joined. -/
import Derived.Test.YthnonmniponahaaGreatDoorQPl
import Derived.Test.YthnonmniponahaaGreatDoorQMf
set_option linter.unusedSimpArgs false
set_option linter.unusedVariables false
section
/- member.withPieces: the pieces of a sparse file in the old form. -/
namespace Go.Proofs.YthnonmniponahaaGreatDoor
open Go.RowKit Go.Joins
set_option linter.unusedVariables false
set_option linter.unusedSimpArgs false

theorem pieceList_at (D : Int) (most : Nat) (hD : D = (most : Int)) (ad : Option Addr) (cap : Nat) (l : List Pc) (hm : most ≤ 40) (hl : l.length ≤ 1000) (hc : l.length ≤ cap) (ho : Octs l) (w : World) (hM : PiecesAt w ad l) :
    Calls Tryz.prog 173 #[.slice ad l.length cap, .int .i64 D] w fun e w' =>
      (∃ ad2 c2, e = .returned (.tuple #[.string (mkS (listF l most)), .slice ad2 (l.drop most).length c2]) ∧ PiecesAt w' ad2 (l.drop most) ∧ (l.drop most).length ≤ c2) ∧ Below w.heap.size w w' := by
  subst hD
  exact pieceList_any ad cap l most hm hl hc ho w hM
theorem listF_len (l : List Pc) (most : Nat) : (listF l most).length = 24 * most + 1 := by
  unfold listF
  rw [List.length_append, List.length_append, List.length_replicate, pcsL_len, List.length_take, List.length_singleton]
  omega
theorem Octs.drop {l : List Pc} (h : Octs l) (n : Nat) : Octs (l.drop n) := fun p hp => h p (List.mem_of_mem_drop hp)
theorem fillL_le (l : List UInt8) : (fillL l).length ≤ l.length + 512 := by
  obtain ⟨h2, h3⟩ := padF_range (l.length : Int)
  unfold fillL
  rw [List.length_append, List.length_replicate]
  omega
theorem moreF_len (l : List Pc) : (moreF l).length ≤ 1017 := by
  unfold moreF
  by_cases h : l = []
  · rw [if_pos h]; decide
  · rw [if_neg h]
    have := fillL_le (listF l 21)
    rw [listF_len] at this
    omega
set_option maxRecDepth 100000 in
set_option maxHeartbeats 8000000 in
theorem withPieces_any (e : EntL) (ad : Option Addr) (cap : Nat) (s : List UInt8) (hs : 512 ≤ s.length) (hs2 : s.length ≤ 10000) (hl : e.map.length ≤ 20) (hc : e.map.length ≤ cap) (ho : Octs e.map) (hz : 0 ≤ e.size ∧ e.size ≤ 8589934591) (w : World) (hM : PiecesAt w ad e.map) :
    Calls Tryz.prog 96 #[.string (mkS s), entV e (.slice ad e.map.length cap)] w fun r w' => r = .returned (.tuple #[.string (mkS (holesF s e)), .nilIface]) ∧ Below w.heap.size w w' := by
  have i1 : ∀ W, (Instr.slice 9 (.string (mkS s)) none (some (.int .i64 386)) none).run Tryz.prog W = .ok (.string (mkS (s.take 386))) W := fun W => mkS_upto s 386 (by omega) W
  have i2 : ∀ W, (Instr.slice 9 (.string (mkS s)) (some (.int .i64 495)) (some (.int .i64 512)) none).run Tryz.prog W = .ok (.string (mkS (sub s 495 17))) W := fun W => mkS_mid s 495 512 (by omega) hs W
  have i3 : ∀ W, (Instr.slice 9 (.string (mkS s)) (some (.int .i64 512)) none none).run Tryz.prog W = .ok (.string (mkS (s.drop 512))) W := fun W => mkS_onward s 512 (by omega) W
  have hR : (e.map.drop 4).length ≤ 16 := by rw [List.length_drop]; omega
  have hH : (s.take 386 ++ (listF e.map 4 ++ (octL e.size ++ sub s 495 17))).length = 512 := by
    have := octL_length e.size
    have := listF_len e.map 4
    simp only [List.length_append, List.length_take, sub, List.length_drop]
    omega
  have CP := Lib.hid (fun W (h : Below w.heap.size w W) => pieceList_at 4 4 rfl ad cap e.map (by omega) (by omega) hc ho W (hM.below h))
  have CO := Lib.hid (fun W => octal_mem e.size hz.1 hz.2 W)
  have CS := Lib.hid (fun W => seal_mkS (s.take 386 ++ (listF e.map 4 ++ (octL e.size ++ sub s 495 17))) hH W)
  have hA := Lib.hid (below_alloc1 w (.cells (entC e (.slice ad e.map.length cap)) 28))
  have HW := Lib.hid (heap_alloc_new w (.cells (entC e (.slice ad e.map.length cap)) 28))
  have hO2 := Lib.hid (ho.drop 4)
  have hSL := Lib.hid (sealL_length _ hH)
  have l1 : (s.take 386).length ≤ 386 := List.length_take_le ..
  have l2 := listF_len e.map 4
  have l3 := octL_length e.size
  have l4 : (sub s 495 17).length ≤ 17 := List.length_take_le ..
  have l5 : (s.drop 512).length ≤ 10000 := by rw [List.length_drop]; omega
  unfold holesF
  generalize listF e.map 4 = F at *
  generalize octL e.size = Z at *
  generalize s.take 386 = S1 at *
  generalize sub s 495 17 = S2 at *
  generalize s.drop 512 = S3 at *
  generalize sealL (S1 ++ (F ++ (Z ++ S2))) = T at *
  generalize e.map.drop 4 = R at *
  generalize e.map.length = nm at *
  have k1 := fun W => mkS_cat S1 F (by omega) W
  have k2 := fun W => mkS_cat (S1 ++ F) Z (by simp only [List.length_append]; omega) W
  have k3 := fun W => mkS_cat (S1 ++ F ++ Z) S2 (by simp only [List.length_append]; omega) W
  rw [List.append_assoc] at k2
  rw [List.append_assoc, List.append_assoc, List.append_assoc] at k3
  unfold entC at hA HW
  unfold entV
  clear hM ho hz hH
  go_enter Tryz.func96, Tryz.ntmps96
  go_wp2_with (first
    | (go_at_call 173; (with_reducible refine (CP.out _ hA.out).mono ?_); rintro e w2 ⟨⟨ad2, c2, rfl, h1, h2⟩, h3⟩; have k5 := row_cell ((h3.block _ (Array.getElem?_eq_some_iff.1 HW.out).1).trans HW.out) 5 _ rfl; have hB1 := Lib.hid (hA.out.trans (h3.mono hA.out.size)); have hP1 := Lib.hid (And.intro h1 h2); clear h1 h2 h3)
    | fail)
  have u5 := fun d os => cell_regrown k5 d os
  clear CP HW hA k5
  refine wp_region_quiet_below (by kernel_rfl) (by kernel_rfl) ?_
  repeat (go_big_quiet_step (first | (go_at_call 175; with_reducible exact Calls.regrown_of (CO.out _)) | (go_at_call 174; with_reducible exact Calls.regrown_of (CS.out _))))
  refine wpQuiet_nil ?_
  rintro _ ⟨⟨dq, osq⟩, rfl⟩
  have hB2 := Lib.hid (hB1.out.trans ((below_regrown w2 dq osq).mono hB1.out.size))
  have hP2 := Lib.hid (And.intro (hP1.out.1.below (below_regrown w2 dq osq)) hP1.out.2)
  clear u5 hB1 hP1 k1 k2 k3 CS CO
  dsimp only at *
  generalize Sort.grow (redrawn w2 dq) osq = w3 at *
  clear osq dq
  have HN := Lib.hid (bd_new w3)
  have HNb := Lib.hid (below_alloc1 w3 (.cells #[.pointer none, .slice none 0 0] 144))
  go_wp2_with (first
    | (go_at_call 92; (with_reducible refine (bd_write w3.heap.size w3.heap.size [] T _ HN.out (by rw [hSL.out]; decide) HNb.out.size).mono ?_); rintro e w4 ⟨rfl, h3, h4, _⟩; have hB4 := Lib.hid (HNb.out.trans h4); have hD4 := Lib.hid h3; clear h3 h4)
    | fail)
  have HTl := Lib.hid (show (T ++ moreF R).length ≤ 2000 by have := moreF_len R; have := hSL.out; rw [List.length_append]; omega)
  have hP4 := Lib.hid (hP2.out.1.below hB4.out)
  have CF := Lib.hid (fun (l : List UInt8) (h : l.length ≤ 100000) W => fill_any l W h)
  clear HN hSL
  go_loopg [7] R.length (fun g s7 wr => ∃ (l2 : List Pc) (a2 : Option Addr) (c3 : Nat) (L : List UInt8), s7 = .slice a2 l2.length c3 ∧ l2.length ≤ g ∧ l2.length ≤ 16 ∧ Aside (Below w3.heap.size w3 wr ∧ Bd w3.heap.size w3.heap.size L wr ∧ PiecesAt wr a2 l2 ∧ l2.length ≤ c3 ∧ Octs l2 ∧ L ++ moreF l2 = T ++ moreF R))
  case atStart => exact ⟨R, ad2, c2, T, rfl, Nat.le_refl _, hR, hB4.out, hD4.out, hP4.out, hP2.out.2, hO2.out, rfl⟩
  case round =>
    obtain ⟨l2, a2, c3, L, rfl, hg, h16, A⟩ := hrel
    have HLl := Lib.hid (show L.length ≤ 2000 by have h := HTl.out; rw [← A.out.2.2.2.2.2, List.length_append] at h; omega)
    by_cases hlt : 0 < (l2.length : Int)
    · have hne : l2 ≠ [] := fun h => by rw [h] at hlt; exact absurd hlt (by decide)
      have hM : moreF l2 = fillL (listF l2 21) := by unfold moreF; rw [if_neg hne]
      have hd : l2.drop 21 = [] := List.drop_eq_nil_of_le (by omega)
      have CP := Lib.hid (pieceList_at 21 21 rfl a2 c3 l2 (by omega) (by omega) A.out.2.2.2.1 A.out.2.2.2.2.1 wr A.out.2.2.1)
      have HF := Lib.hid (show (fillL (listF l2 21)).length ≤ 2000 by rw [← hM]; have := moreF_len l2; omega)
      have HE := Lib.hid (show L ++ fillL (listF l2 21) = T ++ moreF R by rw [← hM]; exact A.out.2.2.2.2.2)
      have HG := Lib.hid (show (listF l2 21).length ≤ 100000 by rw [listF_len]; decide)
      generalize listF l2 21 = G at *
      go_wp2_with (first
        | (go_at_call 173; (with_reducible refine CP.out.mono ?_); rintro e w5 ⟨⟨a4, c4, rfl, _, _⟩, h3⟩; have hB5 := Lib.hid (A.out.1.trans (h3.mono A.out.1.size)); have hD5 := Lib.hid (bd_below A.out.2.1 h3); clear h3)
        | (go_at_call 100; (with_reducible refine (CF.out _ HG.out _).mono ?_); rintro e w6 ⟨rfl, h3⟩; have hB6 := Lib.hid (hB5.out.trans (h3.mono hB5.out.size)); have hD6 := Lib.hid (bd_below hD5.out h3); clear h3)
        | (go_at_call 92; (with_reducible refine (bd_write w3.heap.size w3.heap.size L _ _ hD6.out (by have := HLl.out; have := HF.out; omega) hB6.out.size).mono ?_); rintro e w7 ⟨rfl, h3, h4, _⟩; have hB7 := Lib.hid (hB6.out.trans h4); have hD7 := Lib.hid h3; clear h3 h4)
        | fail)
      go_roundg 0
      case measure => omega
      case rel => exact ⟨[], a4, c4, _, by first | rfl | simp [hd], Nat.le_refl _, by decide, hB7.out, hD7.out, fun i p hi => by simp at hi, Nat.zero_le _, fun p hp => by simp at hp, by rw [show moreF ([] : List Pc) = [] from rfl, List.append_nil]; exact HE.out⟩
    · have h0 : l2 = [] := List.eq_nil_of_length_eq_zero (by omega)
      have hL : L = T ++ moreF R := by rw [← A.out.2.2.2.2.2, h0, show moreF ([] : List Pc) = [] from rfl, List.append_nil]
      have A1 := Lib.hid (And.intro A.out.1 A.out.2.1)
      have HL2 := Lib.hid (show T ++ (moreF R ++ S3) = L ++ S3 by rw [hL, List.append_assoc])
      clear A hL h0 HTl hP4 hD4
      go_wp2_with (first
        | (go_at_call 92; (with_reducible refine (bd_write w3.heap.size w3.heap.size L S3 _ A1.out.2 (by have := HLl.out; omega) A1.out.1.size).mono ?_); rintro e w7 ⟨rfl, h3, h4, _⟩; have hB7 := Lib.hid (A1.out.1.trans h4); have hD7 := Lib.hid h3; clear h3 h4)
        | (go_at_call 97; (with_reducible refine (bd_string w3.heap.size w3.heap.size (L ++ S3) _ hD7.out hB7.out.size).mono ?_); rintro e w8 ⟨rfl, h4⟩; have HW := Lib.hid (hB7.out.trans h4); clear h4)
        | fail)
      try go_ret2
      exact ⟨by rw [HL2.out]; rfl, hB2.out.trans (HW.out.mono hB2.out.size)⟩
end Go.Proofs.YthnonmniponahaaGreatDoor
end
