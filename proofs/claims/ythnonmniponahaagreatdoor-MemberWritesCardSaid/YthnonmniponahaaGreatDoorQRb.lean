/- Rb: what the texts of the name hold, joined. -/
import Derived.Test.YthnonmniponahaaGreatDoorQRo
set_option linter.unusedSimpArgs false
set_option linter.unusedVariables false
section
/- The reference's EntryWrite at V7, Ustar and Pax. -/
namespace Go.Proofs.YthnonmniponahaaGreatDoor
open Go.RowKit Go.Joins
set_option linter.unusedVariables false
set_option linter.unusedSimpArgs false

set_option maxRecDepth 100000 in
set_option maxHeartbeats 8000000 in
theorem refOld_sparse2f (e : EntL) (ad : Option Addr) (cap : Nat) (ho : EntOk e) (hr : rightE e = true) (hdl : e.data.length ≤ 5000) (hsp : sparseE e = true) (h53 : ¬ e.kind = 53) (w : World) (hM : PiecesAt w ad e.map) :
    Calls Tryz.prog 48 #[.int .i64 2, entV e (.slice ad e.map.length cap)] w fun r w' => r = .returned (.tuple #[.string ⟨#[]⟩, .int .i64 2]) ∧ Below w.heap.size w w' := by
  have HM := Lib.hid (fun W (h : Below w.heap.size w W) => hM.below h)
  have CA := Lib.hid (fun W (h : Below w.heap.size w W) => refRightE_any e ad cap ho W (HM.out W h))
  have CI := Lib.hid (fun W => show Calls Tryz.prog 29 #[.int .i64 2, .int .i64 1, .int .i64 4] W fun e w' => e = .returned (.bool true) ∧ Below W.heap.size W w' from (within_any 2 1 4 W).mono fun e w' hh => ⟨by rw [hh.1]; simp, by first | exact hh.2 ▸ Below.refl _ _ | exact hh.2.symm ▸ Below.refl _ _⟩)
  have CP := Lib.hid (fun W => refSparse_any e ad cap (reach_fits ho.texts.2.2.2.2) W)
  have hnl : e.name.length ≤ 1000 := by have := (txtOk_iff.1 (right_txt hr).2.1).1; omega
  have HE := Lib.hid (EntAt.new w e (.slice ad e.map.length cap) 28)
  have hB := Lib.hid (below_alloc1 w (.cells (entC e (.slice ad e.map.length cap)) 28))
  have hks := mkS_size e.data
  have hcat : ∀ w, (Op.stringOp .add (mkS e.name) (⟨#[47]⟩ : ByteArray)).run Tryz.prog w = .ok (.string (mkS (e.name ++ [47]))) w := fun w => mkS_cat2 e.name [47] (by simp; omega) w
  have g53 : ((e.kind.toNat : Int) == 53) = (e.kind == 53) := u8_at e.kind 53 (by omega)
  rw [show (e.kind == 53) = false by simpa using h53] at g53
  have hst : storedE e = e.name := by unfold storedE; rw [if_neg h53]
  rw [hr] at CA
  rw [hsp] at CP
  clear hM HM ho hst h53 hr hsp
  unfold entC at HE hB
  unfold entV at CA CP ⊢
  generalize e.map.length = n at *
  go_enter Tryz.func48, Tryz.ntmps48
  go_wp2_with (first
    | (go_at_call 29; (with_reducible refine (CI.out _).mono ?_); rintro r w1 ⟨rfl, h2⟩; have hB1 := Lib.hid (hB.out.trans (h2.mono hB.out.size)); have hE1 := Lib.hid (HE.out.below h2 HE.out.lt); clear h2; obtain ⟨c0, c1, c2, c3, c4, c5, c6, c7, c8, c9, c10, c11, c12, c13, c14⟩ := id hE1.out)
    | (go_at_call 76; (with_reducible refine (CA.out _ hB1.out).mono ?_); rintro r w2 ⟨rfl, h2⟩; have hB2 := Lib.hid (hB1.out.trans (h2.mono hB1.out.size)); have hE2 := Lib.hid (hE1.out.below h2 hE1.out.lt); have HA := Lib.hid (ReS.made (cs := #[.string ⟨#[]⟩, .string ⟨#[]⟩, .string (mkS e.user), .string (mkS e.group), .string ⟨#[]⟩, .int .u8 (e.kind.toNat : Int), .int .i64 e.mode, .int .i64 e.uid, .int .i64 e.gid, .int .i64 (e.data.length : Int), .int .i64 e.sec, .int .i64 e.major, .int .i64 e.minor]) hB2.out hE2.out); clear h2 c0 c1 c2 c3 c4 c5 c6 c7 c8 c9 c10 c11 c12 c13 c14; obtain ⟨c0, c1, c2, c3, c4, c5, c6, c7, c8, c9, c10, c11, c12, c13, c14⟩ := id hE2.out; obtain ⟨d0, d1, d2, d3, d4, d5, d6, d7, d8, d9, d10, d11, d12, d13, d14⟩ := id HA.out.ent)
    | (go_at_call 88; (with_reducible refine (CP.out _).mono ?_); rintro r w3 ⟨rfl, h2⟩; have H3 := Lib.hid (HA.out.next h2); clear h2 c0 c1 c2 c3 c4 c5 c6 c7 c8 c9 c10 c11 c12 c13 c14 d0 d1 d2 d3 d4 d5 d6 d7 d8 d9 d10 d11 d12 d13 d14; obtain ⟨c0, c1, c2, c3, c4, c5, c6, c7, c8, c9, c10, c11, c12, c13, c14⟩ := id H3.out.ent; have r0 := row_cell H3.out.raw 0 (.string ⟨#[]⟩) rfl; have r1 := row_cell H3.out.raw 1 (.string ⟨#[]⟩) rfl; have r2 := row_cell H3.out.raw 2 (.string (mkS e.user)) rfl; have r3 := row_cell H3.out.raw 3 (.string (mkS e.group)) rfl; have r4 := row_cell H3.out.raw 4 (.string ⟨#[]⟩) rfl; have r5 := row_cell H3.out.raw 5 (.int .u8 (e.kind.toNat : Int)) rfl; have r6 := row_cell H3.out.raw 6 (.int .i64 e.mode) rfl; have r7 := row_cell H3.out.raw 7 (.int .i64 e.uid) rfl; have r8 := row_cell H3.out.raw 8 (.int .i64 e.gid) rfl; have r9 := row_cell H3.out.raw 9 (.int .i64 (e.data.length : Int)) rfl; have r10 := row_cell H3.out.raw 10 (.int .i64 e.sec) rfl; have r11 := row_cell H3.out.raw 11 (.int .i64 e.major) rfl; have r12 := row_cell H3.out.raw 12 (.int .i64 e.minor) rfl)
    | fail)
  go_ret2
  exact ⟨rfl, H3.out.below⟩
set_option maxRecDepth 100000 in
set_option maxHeartbeats 8000000 in
theorem refOld_nano2f (e : EntL) (ad : Option Addr) (cap : Nat) (ho : EntOk e) (hr : rightE e = true) (hdl : e.data.length ≤ 5000) (hsp : sparseE e = false) (h0 : 0 < e.nano) (h53 : ¬ e.kind = 53) (w : World) (hM : PiecesAt w ad e.map) :
    Calls Tryz.prog 48 #[.int .i64 2, entV e (.slice ad e.map.length cap)] w fun r w' => r = .returned (.tuple #[.string ⟨#[]⟩, .int .i64 2]) ∧ Below w.heap.size w w' := by
  have HM := Lib.hid (fun W (h : Below w.heap.size w W) => hM.below h)
  have CA := Lib.hid (fun W (h : Below w.heap.size w W) => refRightE_any e ad cap ho W (HM.out W h))
  have CI := Lib.hid (fun W => show Calls Tryz.prog 29 #[.int .i64 2, .int .i64 1, .int .i64 4] W fun e w' => e = .returned (.bool true) ∧ Below W.heap.size W w' from (within_any 2 1 4 W).mono fun e w' hh => ⟨by rw [hh.1]; simp, by first | exact hh.2 ▸ Below.refl _ _ | exact hh.2.symm ▸ Below.refl _ _⟩)
  have CP := Lib.hid (fun W => refSparse_any e ad cap (reach_fits ho.texts.2.2.2.2) W)
  have hnl : e.name.length ≤ 1000 := by have := (txtOk_iff.1 (right_txt hr).2.1).1; omega
  have HE := Lib.hid (EntAt.new w e (.slice ad e.map.length cap) 28)
  have hB := Lib.hid (below_alloc1 w (.cells (entC e (.slice ad e.map.length cap)) 28))
  have hks := mkS_size e.data
  have hcat : ∀ w, (Op.stringOp .add (mkS e.name) (⟨#[47]⟩ : ByteArray)).run Tryz.prog w = .ok (.string (mkS (e.name ++ [47]))) w := fun w => mkS_cat2 e.name [47] (by simp; omega) w
  have g53 : ((e.kind.toNat : Int) == 53) = (e.kind == 53) := u8_at e.kind 53 (by omega)
  rw [show (e.kind == 53) = false by simpa using h53] at g53
  have hst : storedE e = e.name := by unfold storedE; rw [if_neg h53]
  rw [hr] at CA
  rw [hsp] at CP
  clear hM HM ho hst h53 hr hsp
  unfold entC at HE hB
  unfold entV at CA CP ⊢
  generalize e.map.length = n at *
  go_enter Tryz.func48, Tryz.ntmps48
  go_wp2_with (first
    | (go_at_call 29; (with_reducible refine (CI.out _).mono ?_); rintro r w1 ⟨rfl, h2⟩; have hB1 := Lib.hid (hB.out.trans (h2.mono hB.out.size)); have hE1 := Lib.hid (HE.out.below h2 HE.out.lt); clear h2; obtain ⟨c0, c1, c2, c3, c4, c5, c6, c7, c8, c9, c10, c11, c12, c13, c14⟩ := id hE1.out)
    | (go_at_call 76; (with_reducible refine (CA.out _ hB1.out).mono ?_); rintro r w2 ⟨rfl, h2⟩; have hB2 := Lib.hid (hB1.out.trans (h2.mono hB1.out.size)); have hE2 := Lib.hid (hE1.out.below h2 hE1.out.lt); have HA := Lib.hid (ReS.made (cs := #[.string ⟨#[]⟩, .string ⟨#[]⟩, .string (mkS e.user), .string (mkS e.group), .string ⟨#[]⟩, .int .u8 (e.kind.toNat : Int), .int .i64 e.mode, .int .i64 e.uid, .int .i64 e.gid, .int .i64 (e.data.length : Int), .int .i64 e.sec, .int .i64 e.major, .int .i64 e.minor]) hB2.out hE2.out); clear h2 c0 c1 c2 c3 c4 c5 c6 c7 c8 c9 c10 c11 c12 c13 c14; obtain ⟨c0, c1, c2, c3, c4, c5, c6, c7, c8, c9, c10, c11, c12, c13, c14⟩ := id hE2.out; obtain ⟨d0, d1, d2, d3, d4, d5, d6, d7, d8, d9, d10, d11, d12, d13, d14⟩ := id HA.out.ent)
    | (go_at_call 88; (with_reducible refine (CP.out _).mono ?_); rintro r w3 ⟨rfl, h2⟩; have H3 := Lib.hid (HA.out.next h2); clear h2 c0 c1 c2 c3 c4 c5 c6 c7 c8 c9 c10 c11 c12 c13 c14 d0 d1 d2 d3 d4 d5 d6 d7 d8 d9 d10 d11 d12 d13 d14; obtain ⟨c0, c1, c2, c3, c4, c5, c6, c7, c8, c9, c10, c11, c12, c13, c14⟩ := id H3.out.ent; have r0 := row_cell H3.out.raw 0 (.string ⟨#[]⟩) rfl; have r1 := row_cell H3.out.raw 1 (.string ⟨#[]⟩) rfl; have r2 := row_cell H3.out.raw 2 (.string (mkS e.user)) rfl; have r3 := row_cell H3.out.raw 3 (.string (mkS e.group)) rfl; have r4 := row_cell H3.out.raw 4 (.string ⟨#[]⟩) rfl; have r5 := row_cell H3.out.raw 5 (.int .u8 (e.kind.toNat : Int)) rfl; have r6 := row_cell H3.out.raw 6 (.int .i64 e.mode) rfl; have r7 := row_cell H3.out.raw 7 (.int .i64 e.uid) rfl; have r8 := row_cell H3.out.raw 8 (.int .i64 e.gid) rfl; have r9 := row_cell H3.out.raw 9 (.int .i64 (e.data.length : Int)) rfl; have r10 := row_cell H3.out.raw 10 (.int .i64 e.sec) rfl; have r11 := row_cell H3.out.raw 11 (.int .i64 e.major) rfl; have r12 := row_cell H3.out.raw 12 (.int .i64 e.minor) rfl)
    | fail)
  go_ret2
  exact ⟨rfl, H3.out.below⟩
set_option maxRecDepth 100000 in
set_option maxHeartbeats 8000000 in
theorem refOld_ok2f (e : EntL) (ad : Option Addr) (cap : Nat) (ho : EntOk e) (hr : rightE e = true) (hdl : e.data.length ≤ 5000) (hsp : sparseE e = false) (h0 : e.nano = 0) (h53 : ¬ e.kind = 53) (S : List UInt8 × Int) (CG : ∀ W, Calls Tryz.prog 89 #[.int .i64 2, .agg #[.string ⟨#[]⟩, .string ⟨#[]⟩, .string (mkS e.user), .string (mkS e.group), .string ⟨#[]⟩, .int .u8 (e.kind.toNat : Int), .int .i64 e.mode, .int .i64 e.uid, .int .i64 e.gid, .int .i64 (e.data.length : Int), .int .i64 e.sec, .int .i64 e.major, .int .i64 e.minor], .string (mkS (storedE e)), .string (mkS e.link), .string (mkS e.data)] W fun r w' => r = .returned (.tuple #[.string (mkS S.1), .int .i64 S.2]) ∧ Below W.heap.size W w') (w : World) (hM : PiecesAt w ad e.map) :
    Calls Tryz.prog 48 #[.int .i64 2, entV e (.slice ad e.map.length cap)] w fun r w' => r = .returned (.tuple #[.string (mkS S.1), .int .i64 S.2]) ∧ Below w.heap.size w w' := by
  have HM := Lib.hid (fun W (h : Below w.heap.size w W) => hM.below h)
  have CA := Lib.hid (fun W (h : Below w.heap.size w W) => refRightE_any e ad cap ho W (HM.out W h))
  have CI := Lib.hid (fun W => show Calls Tryz.prog 29 #[.int .i64 2, .int .i64 1, .int .i64 4] W fun e w' => e = .returned (.bool true) ∧ Below W.heap.size W w' from (within_any 2 1 4 W).mono fun e w' hh => ⟨by rw [hh.1]; simp, by first | exact hh.2 ▸ Below.refl _ _ | exact hh.2.symm ▸ Below.refl _ _⟩)
  have CP := Lib.hid (fun W => refSparse_any e ad cap (reach_fits ho.texts.2.2.2.2) W)
  have CG := Lib.hid CG
  have hnl : e.name.length ≤ 1000 := by have := (txtOk_iff.1 (right_txt hr).2.1).1; omega
  have HE := Lib.hid (EntAt.new w e (.slice ad e.map.length cap) 28)
  have hB := Lib.hid (below_alloc1 w (.cells (entC e (.slice ad e.map.length cap)) 28))
  have hks := mkS_size e.data
  have hcat : ∀ w, (Op.stringOp .add (mkS e.name) (⟨#[47]⟩ : ByteArray)).run Tryz.prog w = .ok (.string (mkS (e.name ++ [47]))) w := fun w => mkS_cat2 e.name [47] (by simp; omega) w
  have g53 : ((e.kind.toNat : Int) == 53) = (e.kind == 53) := u8_at e.kind 53 (by omega)
  rw [show (e.kind == 53) = false by simpa using h53] at g53
  have hst : storedE e = e.name := by unfold storedE; rw [if_neg h53]
  rw [hst] at CG
  obtain ⟨s, k⟩ := S
  dsimp only at CG ⊢
  rw [hr] at CA
  rw [hsp] at CP
  clear hM HM ho hst h53 hr hsp
  unfold entC at HE hB
  unfold entV at CA CP ⊢
  generalize e.map.length = n at *
  have HEn := Lib.hid h0
  clear h0
  go_enter Tryz.func48, Tryz.ntmps48
  go_wp2_with (first
    | (go_at_call 29; (with_reducible refine (CI.out _).mono ?_); rintro r w1 ⟨rfl, h2⟩; have hB1 := Lib.hid (hB.out.trans (h2.mono hB.out.size)); have hE1 := Lib.hid (HE.out.below h2 HE.out.lt); clear h2; obtain ⟨c0, c1, c2, c3, c4, c5, c6, c7, c8, c9, c10, c11, c12, c13, c14⟩ := id hE1.out)
    | (go_at_call 76; (with_reducible refine (CA.out _ hB1.out).mono ?_); rintro r w2 ⟨rfl, h2⟩; have hB2 := Lib.hid (hB1.out.trans (h2.mono hB1.out.size)); have hE2 := Lib.hid (hE1.out.below h2 hE1.out.lt); have HA := Lib.hid (ReS.made (cs := #[.string ⟨#[]⟩, .string ⟨#[]⟩, .string (mkS e.user), .string (mkS e.group), .string ⟨#[]⟩, .int .u8 (e.kind.toNat : Int), .int .i64 e.mode, .int .i64 e.uid, .int .i64 e.gid, .int .i64 (e.data.length : Int), .int .i64 e.sec, .int .i64 e.major, .int .i64 e.minor]) hB2.out hE2.out); clear h2 c0 c1 c2 c3 c4 c5 c6 c7 c8 c9 c10 c11 c12 c13 c14; obtain ⟨c0, c1, c2, c3, c4, c5, c6, c7, c8, c9, c10, c11, c12, c13, c14⟩ := id hE2.out; obtain ⟨d0, d1, d2, d3, d4, d5, d6, d7, d8, d9, d10, d11, d12, d13, d14⟩ := id HA.out.ent)
    | (go_at_call 88; (with_reducible refine (CP.out _).mono ?_); rintro r w3 ⟨rfl, h2⟩; have H3 := Lib.hid (HA.out.next h2); clear h2 c0 c1 c2 c3 c4 c5 c6 c7 c8 c9 c10 c11 c12 c13 c14 d0 d1 d2 d3 d4 d5 d6 d7 d8 d9 d10 d11 d12 d13 d14; obtain ⟨c0, c1, c2, c3, c4, c5, c6, c7, c8, c9, c10, c11, c12, c13, c14⟩ := id H3.out.ent; rw [HEn.out] at c7; have r0 := row_cell H3.out.raw 0 (.string ⟨#[]⟩) rfl; have r1 := row_cell H3.out.raw 1 (.string ⟨#[]⟩) rfl; have r2 := row_cell H3.out.raw 2 (.string (mkS e.user)) rfl; have r3 := row_cell H3.out.raw 3 (.string (mkS e.group)) rfl; have r4 := row_cell H3.out.raw 4 (.string ⟨#[]⟩) rfl; have r5 := row_cell H3.out.raw 5 (.int .u8 (e.kind.toNat : Int)) rfl; have r6 := row_cell H3.out.raw 6 (.int .i64 e.mode) rfl; have r7 := row_cell H3.out.raw 7 (.int .i64 e.uid) rfl; have r8 := row_cell H3.out.raw 8 (.int .i64 e.gid) rfl; have r9 := row_cell H3.out.raw 9 (.int .i64 (e.data.length : Int)) rfl; have r10 := row_cell H3.out.raw 10 (.int .i64 e.sec) rfl; have r11 := row_cell H3.out.raw 11 (.int .i64 e.major) rfl; have r12 := row_cell H3.out.raw 12 (.int .i64 e.minor) rfl)
    | (go_at_call 89; (with_reducible refine (CG.out _).mono ?_); rintro r w9 ⟨rfl, h2⟩; have H9 := Lib.hid (H3.out.next h2).below; clear h2)
    | fail)
  go_ret2
  exact ⟨rfl, H9.out⟩
set_option maxRecDepth 100000 in
set_option maxHeartbeats 8000000 in
theorem refOld_sparse2d (e : EntL) (ad : Option Addr) (cap : Nat) (ho : EntOk e) (hr : rightE e = true) (hdl : e.data.length ≤ 5000) (hsp : sparseE e = true) (h53 : e.kind = 53) (w : World) (hM : PiecesAt w ad e.map) :
    Calls Tryz.prog 48 #[.int .i64 2, entV e (.slice ad e.map.length cap)] w fun r w' => r = .returned (.tuple #[.string ⟨#[]⟩, .int .i64 2]) ∧ Below w.heap.size w w' := by
  have HM := Lib.hid (fun W (h : Below w.heap.size w W) => hM.below h)
  have CA := Lib.hid (fun W (h : Below w.heap.size w W) => refRightE_any e ad cap ho W (HM.out W h))
  have CI := Lib.hid (fun W => show Calls Tryz.prog 29 #[.int .i64 2, .int .i64 1, .int .i64 4] W fun e w' => e = .returned (.bool true) ∧ Below W.heap.size W w' from (within_any 2 1 4 W).mono fun e w' hh => ⟨by rw [hh.1]; simp, by first | exact hh.2 ▸ Below.refl _ _ | exact hh.2.symm ▸ Below.refl _ _⟩)
  have CP := Lib.hid (fun W => refSparse_any e ad cap (reach_fits ho.texts.2.2.2.2) W)
  have hnl : e.name.length ≤ 1000 := by have := (txtOk_iff.1 (right_txt hr).2.1).1; omega
  have HE := Lib.hid (EntAt.new w e (.slice ad e.map.length cap) 28)
  have hB := Lib.hid (below_alloc1 w (.cells (entC e (.slice ad e.map.length cap)) 28))
  have hks := mkS_size e.data
  have hcat : ∀ w, (Op.stringOp .add (mkS e.name) (⟨#[47]⟩ : ByteArray)).run Tryz.prog w = .ok (.string (mkS (e.name ++ [47]))) w := fun w => mkS_cat2 e.name [47] (by simp; omega) w
  have g53 : ((e.kind.toNat : Int) == 53) = (e.kind == 53) := u8_at e.kind 53 (by omega)
  rw [show (e.kind == 53) = true by rw [h53]; rfl] at g53
  have hst : storedE e = e.name ++ [47] := by unfold storedE; rw [if_pos h53]
  rw [hr] at CA
  rw [hsp] at CP
  clear hM HM ho hst h53 hr hsp
  unfold entC at HE hB
  unfold entV at CA CP ⊢
  generalize e.map.length = n at *
  go_enter Tryz.func48, Tryz.ntmps48
  go_wp2_with (first
    | (go_at_call 29; (with_reducible refine (CI.out _).mono ?_); rintro r w1 ⟨rfl, h2⟩; have hB1 := Lib.hid (hB.out.trans (h2.mono hB.out.size)); have hE1 := Lib.hid (HE.out.below h2 HE.out.lt); clear h2; obtain ⟨c0, c1, c2, c3, c4, c5, c6, c7, c8, c9, c10, c11, c12, c13, c14⟩ := id hE1.out)
    | (go_at_call 76; (with_reducible refine (CA.out _ hB1.out).mono ?_); rintro r w2 ⟨rfl, h2⟩; have hB2 := Lib.hid (hB1.out.trans (h2.mono hB1.out.size)); have hE2 := Lib.hid (hE1.out.below h2 hE1.out.lt); have HA := Lib.hid (ReS.made (cs := #[.string ⟨#[]⟩, .string ⟨#[]⟩, .string (mkS e.user), .string (mkS e.group), .string ⟨#[]⟩, .int .u8 (e.kind.toNat : Int), .int .i64 e.mode, .int .i64 e.uid, .int .i64 e.gid, .int .i64 (e.data.length : Int), .int .i64 e.sec, .int .i64 e.major, .int .i64 e.minor]) hB2.out hE2.out); clear h2 c0 c1 c2 c3 c4 c5 c6 c7 c8 c9 c10 c11 c12 c13 c14; obtain ⟨c0, c1, c2, c3, c4, c5, c6, c7, c8, c9, c10, c11, c12, c13, c14⟩ := id hE2.out; obtain ⟨d0, d1, d2, d3, d4, d5, d6, d7, d8, d9, d10, d11, d12, d13, d14⟩ := id HA.out.ent)
    | (go_at_call 88; (with_reducible refine (CP.out _).mono ?_); rintro r w3 ⟨rfl, h2⟩; have H3 := Lib.hid (HA.out.next h2); clear h2 c0 c1 c2 c3 c4 c5 c6 c7 c8 c9 c10 c11 c12 c13 c14 d0 d1 d2 d3 d4 d5 d6 d7 d8 d9 d10 d11 d12 d13 d14; obtain ⟨c0, c1, c2, c3, c4, c5, c6, c7, c8, c9, c10, c11, c12, c13, c14⟩ := id H3.out.ent; have r0 := row_cell H3.out.raw 0 (.string ⟨#[]⟩) rfl; have r1 := row_cell H3.out.raw 1 (.string ⟨#[]⟩) rfl; have r2 := row_cell H3.out.raw 2 (.string (mkS e.user)) rfl; have r3 := row_cell H3.out.raw 3 (.string (mkS e.group)) rfl; have r4 := row_cell H3.out.raw 4 (.string ⟨#[]⟩) rfl; have r5 := row_cell H3.out.raw 5 (.int .u8 (e.kind.toNat : Int)) rfl; have r6 := row_cell H3.out.raw 6 (.int .i64 e.mode) rfl; have r7 := row_cell H3.out.raw 7 (.int .i64 e.uid) rfl; have r8 := row_cell H3.out.raw 8 (.int .i64 e.gid) rfl; have r9 := row_cell H3.out.raw 9 (.int .i64 (e.data.length : Int)) rfl; have r10 := row_cell H3.out.raw 10 (.int .i64 e.sec) rfl; have r11 := row_cell H3.out.raw 11 (.int .i64 e.major) rfl; have r12 := row_cell H3.out.raw 12 (.int .i64 e.minor) rfl)
    | fail)
  go_ret2
  exact ⟨rfl, H3.out.below⟩
set_option maxRecDepth 100000 in
set_option maxHeartbeats 8000000 in
theorem refOld_nano2d (e : EntL) (ad : Option Addr) (cap : Nat) (ho : EntOk e) (hr : rightE e = true) (hdl : e.data.length ≤ 5000) (hsp : sparseE e = false) (h0 : 0 < e.nano) (h53 : e.kind = 53) (w : World) (hM : PiecesAt w ad e.map) :
    Calls Tryz.prog 48 #[.int .i64 2, entV e (.slice ad e.map.length cap)] w fun r w' => r = .returned (.tuple #[.string ⟨#[]⟩, .int .i64 2]) ∧ Below w.heap.size w w' := by
  have HM := Lib.hid (fun W (h : Below w.heap.size w W) => hM.below h)
  have CA := Lib.hid (fun W (h : Below w.heap.size w W) => refRightE_any e ad cap ho W (HM.out W h))
  have CI := Lib.hid (fun W => show Calls Tryz.prog 29 #[.int .i64 2, .int .i64 1, .int .i64 4] W fun e w' => e = .returned (.bool true) ∧ Below W.heap.size W w' from (within_any 2 1 4 W).mono fun e w' hh => ⟨by rw [hh.1]; simp, by first | exact hh.2 ▸ Below.refl _ _ | exact hh.2.symm ▸ Below.refl _ _⟩)
  have CP := Lib.hid (fun W => refSparse_any e ad cap (reach_fits ho.texts.2.2.2.2) W)
  have hnl : e.name.length ≤ 1000 := by have := (txtOk_iff.1 (right_txt hr).2.1).1; omega
  have HE := Lib.hid (EntAt.new w e (.slice ad e.map.length cap) 28)
  have hB := Lib.hid (below_alloc1 w (.cells (entC e (.slice ad e.map.length cap)) 28))
  have hks := mkS_size e.data
  have hcat : ∀ w, (Op.stringOp .add (mkS e.name) (⟨#[47]⟩ : ByteArray)).run Tryz.prog w = .ok (.string (mkS (e.name ++ [47]))) w := fun w => mkS_cat2 e.name [47] (by simp; omega) w
  have g53 : ((e.kind.toNat : Int) == 53) = (e.kind == 53) := u8_at e.kind 53 (by omega)
  rw [show (e.kind == 53) = true by rw [h53]; rfl] at g53
  have hst : storedE e = e.name ++ [47] := by unfold storedE; rw [if_pos h53]
  rw [hr] at CA
  rw [hsp] at CP
  clear hM HM ho hst h53 hr hsp
  unfold entC at HE hB
  unfold entV at CA CP ⊢
  generalize e.map.length = n at *
  go_enter Tryz.func48, Tryz.ntmps48
  go_wp2_with (first
    | (go_at_call 29; (with_reducible refine (CI.out _).mono ?_); rintro r w1 ⟨rfl, h2⟩; have hB1 := Lib.hid (hB.out.trans (h2.mono hB.out.size)); have hE1 := Lib.hid (HE.out.below h2 HE.out.lt); clear h2; obtain ⟨c0, c1, c2, c3, c4, c5, c6, c7, c8, c9, c10, c11, c12, c13, c14⟩ := id hE1.out)
    | (go_at_call 76; (with_reducible refine (CA.out _ hB1.out).mono ?_); rintro r w2 ⟨rfl, h2⟩; have hB2 := Lib.hid (hB1.out.trans (h2.mono hB1.out.size)); have hE2 := Lib.hid (hE1.out.below h2 hE1.out.lt); have HA := Lib.hid (ReS.made (cs := #[.string ⟨#[]⟩, .string ⟨#[]⟩, .string (mkS e.user), .string (mkS e.group), .string ⟨#[]⟩, .int .u8 (e.kind.toNat : Int), .int .i64 e.mode, .int .i64 e.uid, .int .i64 e.gid, .int .i64 (e.data.length : Int), .int .i64 e.sec, .int .i64 e.major, .int .i64 e.minor]) hB2.out hE2.out); clear h2 c0 c1 c2 c3 c4 c5 c6 c7 c8 c9 c10 c11 c12 c13 c14; obtain ⟨c0, c1, c2, c3, c4, c5, c6, c7, c8, c9, c10, c11, c12, c13, c14⟩ := id hE2.out; obtain ⟨d0, d1, d2, d3, d4, d5, d6, d7, d8, d9, d10, d11, d12, d13, d14⟩ := id HA.out.ent)
    | (go_at_call 88; (with_reducible refine (CP.out _).mono ?_); rintro r w3 ⟨rfl, h2⟩; have H3 := Lib.hid (HA.out.next h2); clear h2 c0 c1 c2 c3 c4 c5 c6 c7 c8 c9 c10 c11 c12 c13 c14 d0 d1 d2 d3 d4 d5 d6 d7 d8 d9 d10 d11 d12 d13 d14; obtain ⟨c0, c1, c2, c3, c4, c5, c6, c7, c8, c9, c10, c11, c12, c13, c14⟩ := id H3.out.ent; have r0 := row_cell H3.out.raw 0 (.string ⟨#[]⟩) rfl; have r1 := row_cell H3.out.raw 1 (.string ⟨#[]⟩) rfl; have r2 := row_cell H3.out.raw 2 (.string (mkS e.user)) rfl; have r3 := row_cell H3.out.raw 3 (.string (mkS e.group)) rfl; have r4 := row_cell H3.out.raw 4 (.string ⟨#[]⟩) rfl; have r5 := row_cell H3.out.raw 5 (.int .u8 (e.kind.toNat : Int)) rfl; have r6 := row_cell H3.out.raw 6 (.int .i64 e.mode) rfl; have r7 := row_cell H3.out.raw 7 (.int .i64 e.uid) rfl; have r8 := row_cell H3.out.raw 8 (.int .i64 e.gid) rfl; have r9 := row_cell H3.out.raw 9 (.int .i64 (e.data.length : Int)) rfl; have r10 := row_cell H3.out.raw 10 (.int .i64 e.sec) rfl; have r11 := row_cell H3.out.raw 11 (.int .i64 e.major) rfl; have r12 := row_cell H3.out.raw 12 (.int .i64 e.minor) rfl)
    | fail)
  go_ret2
  exact ⟨rfl, H3.out.below⟩
set_option maxRecDepth 100000 in
set_option maxHeartbeats 8000000 in
theorem refOld_ok2d (e : EntL) (ad : Option Addr) (cap : Nat) (ho : EntOk e) (hr : rightE e = true) (hdl : e.data.length ≤ 5000) (hsp : sparseE e = false) (h0 : e.nano = 0) (h53 : e.kind = 53) (S : List UInt8 × Int) (CG : ∀ W, Calls Tryz.prog 89 #[.int .i64 2, .agg #[.string ⟨#[]⟩, .string ⟨#[]⟩, .string (mkS e.user), .string (mkS e.group), .string ⟨#[]⟩, .int .u8 (e.kind.toNat : Int), .int .i64 e.mode, .int .i64 e.uid, .int .i64 e.gid, .int .i64 (e.data.length : Int), .int .i64 e.sec, .int .i64 e.major, .int .i64 e.minor], .string (mkS (storedE e)), .string (mkS e.link), .string (mkS e.data)] W fun r w' => r = .returned (.tuple #[.string (mkS S.1), .int .i64 S.2]) ∧ Below W.heap.size W w') (w : World) (hM : PiecesAt w ad e.map) :
    Calls Tryz.prog 48 #[.int .i64 2, entV e (.slice ad e.map.length cap)] w fun r w' => r = .returned (.tuple #[.string (mkS S.1), .int .i64 S.2]) ∧ Below w.heap.size w w' := by
  have HM := Lib.hid (fun W (h : Below w.heap.size w W) => hM.below h)
  have CA := Lib.hid (fun W (h : Below w.heap.size w W) => refRightE_any e ad cap ho W (HM.out W h))
  have CI := Lib.hid (fun W => show Calls Tryz.prog 29 #[.int .i64 2, .int .i64 1, .int .i64 4] W fun e w' => e = .returned (.bool true) ∧ Below W.heap.size W w' from (within_any 2 1 4 W).mono fun e w' hh => ⟨by rw [hh.1]; simp, by first | exact hh.2 ▸ Below.refl _ _ | exact hh.2.symm ▸ Below.refl _ _⟩)
  have CP := Lib.hid (fun W => refSparse_any e ad cap (reach_fits ho.texts.2.2.2.2) W)
  have CG := Lib.hid CG
  have hnl : e.name.length ≤ 1000 := by have := (txtOk_iff.1 (right_txt hr).2.1).1; omega
  have HE := Lib.hid (EntAt.new w e (.slice ad e.map.length cap) 28)
  have hB := Lib.hid (below_alloc1 w (.cells (entC e (.slice ad e.map.length cap)) 28))
  have hks := mkS_size e.data
  have hcat : ∀ w, (Op.stringOp .add (mkS e.name) (⟨#[47]⟩ : ByteArray)).run Tryz.prog w = .ok (.string (mkS (e.name ++ [47]))) w := fun w => mkS_cat2 e.name [47] (by simp; omega) w
  have g53 : ((e.kind.toNat : Int) == 53) = (e.kind == 53) := u8_at e.kind 53 (by omega)
  rw [show (e.kind == 53) = true by rw [h53]; rfl] at g53
  have hst : storedE e = e.name ++ [47] := by unfold storedE; rw [if_pos h53]
  rw [hst] at CG
  obtain ⟨s, k⟩ := S
  dsimp only at CG ⊢
  rw [hr] at CA
  rw [hsp] at CP
  clear hM HM ho hst h53 hr hsp
  unfold entC at HE hB
  unfold entV at CA CP ⊢
  generalize e.map.length = n at *
  have HEn := Lib.hid h0
  clear h0
  go_enter Tryz.func48, Tryz.ntmps48
  go_wp2_with (first
    | (go_at_call 29; (with_reducible refine (CI.out _).mono ?_); rintro r w1 ⟨rfl, h2⟩; have hB1 := Lib.hid (hB.out.trans (h2.mono hB.out.size)); have hE1 := Lib.hid (HE.out.below h2 HE.out.lt); clear h2; obtain ⟨c0, c1, c2, c3, c4, c5, c6, c7, c8, c9, c10, c11, c12, c13, c14⟩ := id hE1.out)
    | (go_at_call 76; (with_reducible refine (CA.out _ hB1.out).mono ?_); rintro r w2 ⟨rfl, h2⟩; have hB2 := Lib.hid (hB1.out.trans (h2.mono hB1.out.size)); have hE2 := Lib.hid (hE1.out.below h2 hE1.out.lt); have HA := Lib.hid (ReS.made (cs := #[.string ⟨#[]⟩, .string ⟨#[]⟩, .string (mkS e.user), .string (mkS e.group), .string ⟨#[]⟩, .int .u8 (e.kind.toNat : Int), .int .i64 e.mode, .int .i64 e.uid, .int .i64 e.gid, .int .i64 (e.data.length : Int), .int .i64 e.sec, .int .i64 e.major, .int .i64 e.minor]) hB2.out hE2.out); clear h2 c0 c1 c2 c3 c4 c5 c6 c7 c8 c9 c10 c11 c12 c13 c14; obtain ⟨c0, c1, c2, c3, c4, c5, c6, c7, c8, c9, c10, c11, c12, c13, c14⟩ := id hE2.out; obtain ⟨d0, d1, d2, d3, d4, d5, d6, d7, d8, d9, d10, d11, d12, d13, d14⟩ := id HA.out.ent)
    | (go_at_call 88; (with_reducible refine (CP.out _).mono ?_); rintro r w3 ⟨rfl, h2⟩; have H3 := Lib.hid (HA.out.next h2); clear h2 c0 c1 c2 c3 c4 c5 c6 c7 c8 c9 c10 c11 c12 c13 c14 d0 d1 d2 d3 d4 d5 d6 d7 d8 d9 d10 d11 d12 d13 d14; obtain ⟨c0, c1, c2, c3, c4, c5, c6, c7, c8, c9, c10, c11, c12, c13, c14⟩ := id H3.out.ent; rw [HEn.out] at c7; have r0 := row_cell H3.out.raw 0 (.string ⟨#[]⟩) rfl; have r1 := row_cell H3.out.raw 1 (.string ⟨#[]⟩) rfl; have r2 := row_cell H3.out.raw 2 (.string (mkS e.user)) rfl; have r3 := row_cell H3.out.raw 3 (.string (mkS e.group)) rfl; have r4 := row_cell H3.out.raw 4 (.string ⟨#[]⟩) rfl; have r5 := row_cell H3.out.raw 5 (.int .u8 (e.kind.toNat : Int)) rfl; have r6 := row_cell H3.out.raw 6 (.int .i64 e.mode) rfl; have r7 := row_cell H3.out.raw 7 (.int .i64 e.uid) rfl; have r8 := row_cell H3.out.raw 8 (.int .i64 e.gid) rfl; have r9 := row_cell H3.out.raw 9 (.int .i64 (e.data.length : Int)) rfl; have r10 := row_cell H3.out.raw 10 (.int .i64 e.sec) rfl; have r11 := row_cell H3.out.raw 11 (.int .i64 e.major) rfl; have r12 := row_cell H3.out.raw 12 (.int .i64 e.minor) rfl)
    | (go_at_call 89; (with_reducible refine (CG.out _).mono ?_); rintro r w9 ⟨rfl, h2⟩; have H9 := Lib.hid (H3.out.next h2).below; clear h2)
    | fail)
  go_ret2
  exact ⟨rfl, H9.out⟩
end Go.Proofs.YthnonmniponahaaGreatDoor
end
