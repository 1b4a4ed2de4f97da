/- Re: what the texts of the name hold, joined. -/
import Derived.Test.YthnonmniponahaaGreatDoorQEq
import Derived.Test.YthnonmniponahaaGreatDoorQRn
set_option linter.unusedSimpArgs false
set_option linter.unusedVariables false
section
/- The reference's EntryWrite, dialect by dialect. -/
namespace Go.Proofs.YthnonmniponahaaGreatDoor
open Go.RowKit Go.Joins
set_option linter.unusedVariables false
set_option linter.unusedSimpArgs false

theorem refGnu_nano (e : EntL) (ad : Option Addr) (cap : Nat) (h0 : 0 < e.nano) (w : World) :
    Calls Tryz.prog 86 #[rawV (rawE e), entV e (.slice ad e.map.length cap), .string (mkS (storedE e))] w fun r w' => r = .returned (.tuple #[.string ⟨#[]⟩, .int .i64 2]) ∧ Below w.heap.size w w' := by
  have hb := Lib.hid (below_alloc2 w (.cells (rawC (rawE e)) 67) (.cells (entC e (.slice ad e.map.length cap)) 28))
  unfold entC rawC at hb
  unfold entV rawV
  generalize e.map.length = n at *
  generalize storedE e = ST at *
  go_enter Tryz.func86, Tryz.ntmps86
  go_wp2_with fail
  go_ret2
  exact ⟨rfl, hb.out⟩
theorem refGnu_any (e : EntL) (hr : rightE e = true) (ad : Option Addr) (cap : Nat) (ho : Held e) (hdl : e.data.length ≤ 5000) (w : World) (hM : PiecesAt w ad e.map) :
    Calls Tryz.prog 86 #[rawV (rawE e), entV e (.slice ad e.map.length cap), .string (mkS (storedE e))] w fun r w' => r = .returned (.tuple #[.string (mkS (gnuF e).1), .int .i64 (gnuF e).2]) ∧ Below w.heap.size w w' := by
  have hx := right_txt hr
  have hn : e.name.length ≤ 1000 := by have := (txtOk_iff.1 hx.2.1).1; omega
  have hl : e.link.length ≤ 1000 := by have := (txtOk_iff.1 hx.2.2.1).1; omega
  have hk := kind_nz hr
  by_cases h0 : e.nano = 0
  · have hsm : sparseE e = true → Octs e.map ∧ e.map.length ≤ 20 ∧ 0 ≤ e.size ∧ e.size ≤ 8589934591 := fun hsp => by
      have hk48 : e.kind = 48 := by
        by_cases hh : e.kind = 48
        · exact hh
        · have := (right_other hr hh).2.2.2; rw [hsp] at this; cases this
      obtain ⟨⟨z1, z2⟩, hmr⟩ := right_file hr hk48
      obtain ⟨hm1, hm2⟩ := mapRight_parts (by omega) (hmr hsp).1
      exact ⟨fun p hp => by have := hm2 p hp; omega, hm1, z1, by omega⟩
    rcases whole_two 3 (gnuRaw e) ((storedE e).take 100) (e.link.take 100) e.data with ⟨X, hX⟩ | hX
    · have hX : gnuX e = (X, 0) := hX
      have hG : gnuF e = (longF 75 e.link ++ longF 76 (storedE e) ++ (if sparseE e = true then holesF X e else X), 0) := by
        unfold gnuF
        rw [if_neg (fun h => h h0), hX, if_neg (by simp), List.append_assoc]
      rw [hG]
      cases hsp : sparseE e with
      | true =>
        obtain ⟨o1, o2, o3, o4⟩ := hsm hsp
        exact refGnu_sparse_ok e hk ad cap ho hl hn o1 o2 ⟨o3, o4⟩ hdl hsp h0 X hX w hM
      | false => exact refGnu_dense_ok e hk ad cap ho hl hn hdl hsp h0 X hX w
    · have hX : gnuX e = ([], 2) := hX
      have hG : gnuF e = ([], 2) := by
        unfold gnuF
        rw [if_neg (fun h => h h0), hX, if_pos (by simp)]
      rw [hG]
      cases hsp : sparseE e with
      | true => exact refGnu_sparse_bad e hk ad cap ho hl hn hdl hsp h0 hX w
      | false => exact refGnu_dense_bad e hk ad cap ho hl hn hdl hsp h0 hX w
  · have hp : 0 < e.nano := by have := St.rightB_true _ _ (right_num hr).2.2.2.1; omega
    have hG : gnuF e = ([], 2) := by unfold gnuF; rw [if_pos h0]
    rw [hG]
    exact refGnu_nano e ad cap hp w
/-- The reference's header of a member as the program builds it. -/
abbrev rawB (e : EntL) : Value := .agg #[.string ⟨#[]⟩, .string ⟨#[]⟩, .string (mkS e.user), .string (mkS e.group), .string ⟨#[]⟩, .int .u8 (e.kind.toNat : Int), .int .i64 e.mode, .int .i64 e.uid, .int .i64 e.gid, .int .i64 (e.data.length : Int), .int .i64 e.sec, .int .i64 e.major, .int .i64 e.minor]
set_option maxRecDepth 100000 in
set_option maxHeartbeats 8000000 in
theorem refWrite_arg (d : Int) (e : EntL) (ad : Option Addr) (cap : Nat) (ho : EntOk e) (h : d < 1 ∨ 4 < d ∨ rightE e = false) (w : World) (hM : PiecesAt w ad e.map) :
    Calls Tryz.prog 48 #[.int .i64 d, entV e (.slice ad e.map.length cap)] w fun r w' => r = .returned (.tuple #[.string (mkS []), .int .i64 1]) ∧ Below w.heap.size w w' := by
  have HM := Lib.hid (fun W (h : Below w.heap.size w W) => hM.below h)
  have CA := Lib.hid (fun W (h : Below w.heap.size w W) => refRightE_any e ad cap ho W (HM.out W h))
  have hE := EntAt.new w e (.slice ad e.map.length cap) 28
  have hB := Lib.hid (below_alloc1 w (.cells (entC e (.slice ad e.map.length cap)) 28))
  unfold entC at hE hB
  unfold entV at CA ⊢
  clear ho hM HM
  generalize e.map.length = n at *
  by_cases h1 : 1 ≤ d ∧ d ≤ 4
  · have hr : rightE e = false := by
      rcases h with h | h | h
      · omega
      · omega
      · exact h
    rw [hr] at CA
    have CI := Lib.hid (fun W => show Calls Tryz.prog 29 #[.int .i64 d, .int .i64 1, .int .i64 4] W fun e w' => e = .returned (.bool true) ∧ Below W.heap.size W w' from (within_any d 1 4 W).mono fun e w' hh => ⟨by rw [hh.1]; simp [h1.1, h1.2], by first | exact hh.2 ▸ Below.refl _ _ | exact hh.2.symm ▸ Below.refl _ _⟩)
    clear h hr hE h1
    go_enter Tryz.func48, Tryz.ntmps48
    go_wp2_with (first
      | (go_at_call 29; (with_reducible refine (CI.out _).mono ?_); rintro r w1 ⟨rfl, h2⟩; have hB1 := Lib.hid (hB.out.trans (h2.mono hB.out.size)); have hE1 := Lib.hid ((EntAt.new w e (.slice ad n cap) 28).below h2 (EntAt.new w e (.slice ad n cap) 28).lt); clear h2; obtain ⟨c0, c1, c2, c3, c4, c5, c6, c7, c8, c9, c10, c11, c12, c13, c14⟩ := id hE1.out)
      | (go_at_call 76; (with_reducible refine (CA.out _ hB1.out).mono ?_); rintro r w2 ⟨rfl, h2⟩; have hB2 := Lib.hid (hB1.out.trans (h2.mono hB1.out.size)); clear h2)
      | fail)
    go_ret2
    exact ⟨rfl, hB2.out⟩
  · have CI := Lib.hid (fun W => show Calls Tryz.prog 29 #[.int .i64 d, .int .i64 1, .int .i64 4] W fun e w' => e = .returned (.bool false) ∧ Below W.heap.size W w' from (within_any d 1 4 W).mono fun e w' hh => ⟨by rw [hh.1]; (congr 2; simp; omega), by first | exact hh.2 ▸ Below.refl _ _ | exact hh.2.symm ▸ Below.refl _ _⟩)
    clear h CA h1 hE
    go_enter Tryz.func48, Tryz.ntmps48
    go_wp2_with (first
      | (go_at_call 29; (with_reducible refine (CI.out _).mono ?_); rintro r w1 ⟨rfl, h2⟩; have hB1 := Lib.hid (hB.out.trans (h2.mono hB.out.size)); clear h2)
      | fail)
    go_ret2
    exact ⟨rfl, hB1.out⟩
set_option maxRecDepth 100000 in
set_option maxHeartbeats 8000000 in
theorem refWrite_gnu (e : EntL) (ad : Option Addr) (cap : Nat) (ho : EntOk e) (hr : rightE e = true) (hdl : e.data.length ≤ 5000) (w : World) (S : List UInt8 × Int) (hM : PiecesAt w ad e.map)
    (CG : ∀ W, Below w.heap.size w W → Calls Tryz.prog 86 #[rawB e, entV e (.slice ad e.map.length cap), .string (mkS (storedE e))] W fun r w' => r = .returned (.tuple #[.string (mkS S.1), .int .i64 S.2]) ∧ Below W.heap.size W w') :
    Calls Tryz.prog 48 #[.int .i64 3, entV e (.slice ad e.map.length cap)] w fun r w' => r = .returned (.tuple #[.string (mkS S.1), .int .i64 S.2]) ∧ Below w.heap.size w w' := by
  have HM := Lib.hid (fun W (h : Below w.heap.size w W) => hM.below h)
  have CA := Lib.hid (fun W (h : Below w.heap.size w W) => refRightE_any e ad cap ho W (HM.out W h))
  have CI := Lib.hid (fun W => show Calls Tryz.prog 29 #[.int .i64 3, .int .i64 1, .int .i64 4] W fun e w' => e = .returned (.bool true) ∧ Below W.heap.size W w' from (within_any 3 1 4 W).mono fun e w' hh => ⟨by rw [hh.1]; simp, by first | exact hh.2 ▸ Below.refl _ _ | exact hh.2.symm ▸ Below.refl _ _⟩)
  have CG := Lib.hid CG
  have hnl : e.name.length ≤ 1000 := by have := (txtOk_iff.1 (right_txt hr).2.1).1; omega
  have hE := EntAt.new w e (.slice ad e.map.length cap) 28
  have hB := Lib.hid (below_alloc1 w (.cells (entC e (.slice ad e.map.length cap)) 28))
  have HE := Lib.hid hE
  have hks := mkS_size e.data
  have hcat : ∀ w, (Op.stringOp .add (mkS e.name) (⟨#[47]⟩ : ByteArray)).run Tryz.prog w = .ok (.string (mkS (e.name ++ [47]))) w := fun w => mkS_cat2 e.name [47] (by simp; omega) w
  have g53 : ((e.kind.toNat : Int) == 53) = (e.kind == 53) := u8_at e.kind 53 (by omega)
  have hst : storedE e = if e.kind = 53 then e.name ++ [47] else e.name := rfl
  clear hE ho hM HM
  rw [hr] at CA
  obtain ⟨s, k⟩ := S
  dsimp only at CG ⊢
  unfold entC at HE hB
  unfold entV at CA CG ⊢
  generalize e.map.length = n at *
  by_cases h53 : e.kind = 53
  · rw [if_pos h53] at hst
    rw [hst] at CG
    rw [show (e.kind == 53) = true by rw [h53]; rfl] at g53
    clear h53 hst hr
    go_enter Tryz.func48, Tryz.ntmps48
    go_wp2_with (first
      | (go_at_call 29; (with_reducible refine (CI.out _).mono ?_); rintro r w1 ⟨rfl, h2⟩; have hB1 := Lib.hid (hB.out.trans (h2.mono hB.out.size)); have hE1 := Lib.hid (HE.out.below h2 HE.out.lt); clear h2; obtain ⟨c0, c1, c2, c3, c4, c5, c6, c7, c8, c9, c10, c11, c12, c13, c14⟩ := id hE1.out)
      | (go_at_call 76; (with_reducible refine (CA.out _ hB1.out).mono ?_); rintro r w2 ⟨rfl, h2⟩; have hB2 := Lib.hid (hB1.out.trans (h2.mono hB1.out.size)); have hE2 := Lib.hid (hE1.out.below h2 hE1.out.lt); have hE3 := Lib.hid (hE2.out.below ((Below.refl w2.heap.size w2).alloc (Nat.le_refl _) (.cells #[.string ⟨#[]⟩, .string ⟨#[]⟩, .string (mkS e.user), .string (mkS e.group), .string ⟨#[]⟩, .int .u8 (e.kind.toNat : Int), .int .i64 e.mode, .int .i64 e.uid, .int .i64 e.gid, .int .i64 (e.data.length : Int), .int .i64 e.sec, .int .i64 e.major, .int .i64 e.minor] 67)) hE2.out.lt); clear h2 c0 c1 c2 c3 c4 c5 c6 c7 c8 c9 c10 c11 c12 c13 c14; obtain ⟨c0, c1, c2, c3, c4, c5, c6, c7, c8, c9, c10, c11, c12, c13, c14⟩ := id hE2.out; obtain ⟨d0, d1, d2, d3, d4, d5, d6, d7, d8, d9, d10, d11, d12, d13, d14⟩ := id hE3.out)
      | (go_at_call 86; (with_reducible refine (CG.out _ (hB2.out.alloc hB2.out.size _)).mono ?_); rintro r w3 ⟨rfl, h3⟩; have hB3 := Lib.hid ((hB2.out.alloc hB2.out.size _).trans (h3.mono (hB2.out.alloc hB2.out.size _).size)); clear h3)
      | fail)
    go_ret2
    exact ⟨rfl, hB3.out⟩
  · rw [if_neg h53] at hst
    rw [hst] at CG
    rw [show (e.kind == 53) = false by simpa using h53] at g53
    clear h53 hst hcat hr
    go_enter Tryz.func48, Tryz.ntmps48
    go_wp2_with (first
      | (go_at_call 29; (with_reducible refine (CI.out _).mono ?_); rintro r w1 ⟨rfl, h2⟩; have hB1 := Lib.hid (hB.out.trans (h2.mono hB.out.size)); have hE1 := Lib.hid (HE.out.below h2 HE.out.lt); clear h2; obtain ⟨c0, c1, c2, c3, c4, c5, c6, c7, c8, c9, c10, c11, c12, c13, c14⟩ := id hE1.out)
      | (go_at_call 76; (with_reducible refine (CA.out _ hB1.out).mono ?_); rintro r w2 ⟨rfl, h2⟩; have hB2 := Lib.hid (hB1.out.trans (h2.mono hB1.out.size)); have hE2 := Lib.hid (hE1.out.below h2 hE1.out.lt); have hE3 := Lib.hid (hE2.out.below ((Below.refl w2.heap.size w2).alloc (Nat.le_refl _) (.cells #[.string ⟨#[]⟩, .string ⟨#[]⟩, .string (mkS e.user), .string (mkS e.group), .string ⟨#[]⟩, .int .u8 (e.kind.toNat : Int), .int .i64 e.mode, .int .i64 e.uid, .int .i64 e.gid, .int .i64 (e.data.length : Int), .int .i64 e.sec, .int .i64 e.major, .int .i64 e.minor] 67)) hE2.out.lt); clear h2 c0 c1 c2 c3 c4 c5 c6 c7 c8 c9 c10 c11 c12 c13 c14; obtain ⟨c0, c1, c2, c3, c4, c5, c6, c7, c8, c9, c10, c11, c12, c13, c14⟩ := id hE2.out; obtain ⟨d0, d1, d2, d3, d4, d5, d6, d7, d8, d9, d10, d11, d12, d13, d14⟩ := id hE3.out)
      | (go_at_call 86; (with_reducible refine (CG.out _ (hB2.out.alloc hB2.out.size _)).mono ?_); rintro r w3 ⟨rfl, h3⟩; have hB3 := Lib.hid ((hB2.out.alloc hB2.out.size _).trans (h3.mono (hB2.out.alloc hB2.out.size _).size)); clear h3)
      | fail)
    go_ret2
    exact ⟨rfl, hB3.out⟩
end Go.Proofs.YthnonmniponahaaGreatDoor
end
