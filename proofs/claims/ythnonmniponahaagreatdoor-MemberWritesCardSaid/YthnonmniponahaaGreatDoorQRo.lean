/- Ro: what the texts of the name hold, joined. -/
import Derived.Test.YthnonmniponahaaGreatDoorQRe
import Derived.Test.YthnonmniponahaaGreatDoorQWo
set_option linter.unusedSimpArgs false
set_option linter.unusedVariables false
section
/- The reference's EntryWrite at V7, Ustar and Pax. -/
namespace Go.Proofs.YthnonmniponahaaGreatDoor
open Go.RowKit Go.Joins
set_option linter.unusedVariables false
set_option linter.unusedSimpArgs false

set_option maxRecDepth 100000 in
set_option maxHeartbeats 8000000 in
theorem refWrite_pax (e : EntL) (ad : Option Addr) (cap : Nat) (ho : EntOk e) (hr : rightE e = true) (hdl : e.data.length ≤ 5000) (w : World) (S : List UInt8 × Int) (hM : PiecesAt w ad e.map)
    (CG : ∀ W, Below w.heap.size w W → Calls Tryz.prog 87 #[rawB e, entV e (.slice ad e.map.length cap), .string (mkS (storedE e))] W fun r w' => r = .returned (.tuple #[.string (mkS S.1), .int .i64 S.2]) ∧ Below W.heap.size W w') :
    Calls Tryz.prog 48 #[.int .i64 4, entV e (.slice ad e.map.length cap)] w fun r w' => r = .returned (.tuple #[.string (mkS S.1), .int .i64 S.2]) ∧ Below w.heap.size w w' := by
  have HM := Lib.hid (fun W (h : Below w.heap.size w W) => hM.below h)
  have CA := Lib.hid (fun W (h : Below w.heap.size w W) => refRightE_any e ad cap ho W (HM.out W h))
  have CI := Lib.hid (fun W => show Calls Tryz.prog 29 #[.int .i64 4, .int .i64 1, .int .i64 4] W fun e w' => e = .returned (.bool true) ∧ Below W.heap.size W w' from (within_any 4 1 4 W).mono fun e w' hh => ⟨by rw [hh.1]; simp, by first | exact hh.2 ▸ Below.refl _ _ | exact hh.2.symm ▸ Below.refl _ _⟩)
  have CG := Lib.hid CG
  have hnl : e.name.length ≤ 1000 := by have := (txtOk_iff.1 (right_txt hr).2.1).1; omega
  have hE := EntAt.new w e (.slice ad e.map.length cap) 28
  have hB := Lib.hid (below_alloc1 w (.cells (entC e (.slice ad e.map.length cap)) 28))
  have HE := Lib.hid hE
  have hks := mkS_size e.data
  have hcat : ∀ w, (Op.stringOp .add (mkS e.name) (⟨#[47]⟩ : ByteArray)).run Tryz.prog w = .ok (.string (mkS (e.name ++ [47]))) w := fun w => mkS_cat2 e.name [47] (by simp; omega) w
  have g53 : ((e.kind.toNat : Int) == 53) = (e.kind == 53) := u8_at e.kind 53 (by omega)
  have hst : storedE e = if e.kind = 53 then e.name ++ [47] else e.name := rfl
  clear hE ho hM HM
  rw [hr] at CA
  obtain ⟨s, k⟩ := S
  dsimp only at CG ⊢
  unfold entC at HE hB
  unfold entV at CA CG ⊢
  generalize e.map.length = n at *
  by_cases h53 : e.kind = 53
  · rw [if_pos h53] at hst
    rw [hst] at CG
    rw [show (e.kind == 53) = true by rw [h53]; rfl] at g53
    clear h53 hst hr
    go_enter Tryz.func48, Tryz.ntmps48
    go_wp2_with (first
      | (go_at_call 29; (with_reducible refine (CI.out _).mono ?_); rintro r w1 ⟨rfl, h2⟩; have hB1 := Lib.hid (hB.out.trans (h2.mono hB.out.size)); have hE1 := Lib.hid (HE.out.below h2 HE.out.lt); clear h2; obtain ⟨c0, c1, c2, c3, c4, c5, c6, c7, c8, c9, c10, c11, c12, c13, c14⟩ := id hE1.out)
      | (go_at_call 76; (with_reducible refine (CA.out _ hB1.out).mono ?_); rintro r w2 ⟨rfl, h2⟩; have hB2 := Lib.hid (hB1.out.trans (h2.mono hB1.out.size)); have hE2 := Lib.hid (hE1.out.below h2 hE1.out.lt); have hE3 := Lib.hid (hE2.out.below ((Below.refl w2.heap.size w2).alloc (Nat.le_refl _) (.cells #[.string ⟨#[]⟩, .string ⟨#[]⟩, .string (mkS e.user), .string (mkS e.group), .string ⟨#[]⟩, .int .u8 (e.kind.toNat : Int), .int .i64 e.mode, .int .i64 e.uid, .int .i64 e.gid, .int .i64 (e.data.length : Int), .int .i64 e.sec, .int .i64 e.major, .int .i64 e.minor] 67)) hE2.out.lt); clear h2 c0 c1 c2 c3 c4 c5 c6 c7 c8 c9 c10 c11 c12 c13 c14; obtain ⟨c0, c1, c2, c3, c4, c5, c6, c7, c8, c9, c10, c11, c12, c13, c14⟩ := id hE2.out; obtain ⟨d0, d1, d2, d3, d4, d5, d6, d7, d8, d9, d10, d11, d12, d13, d14⟩ := id hE3.out)
      | (go_at_call 87; (with_reducible refine (CG.out _ (hB2.out.alloc hB2.out.size _)).mono ?_); rintro r w3 ⟨rfl, h3⟩; have hB3 := Lib.hid ((hB2.out.alloc hB2.out.size _).trans (h3.mono (hB2.out.alloc hB2.out.size _).size)); clear h3)
      | fail)
    go_ret2
    exact ⟨rfl, hB3.out⟩
  · rw [if_neg h53] at hst
    rw [hst] at CG
    rw [show (e.kind == 53) = false by simpa using h53] at g53
    clear h53 hst hcat hr
    go_enter Tryz.func48, Tryz.ntmps48
    go_wp2_with (first
      | (go_at_call 29; (with_reducible refine (CI.out _).mono ?_); rintro r w1 ⟨rfl, h2⟩; have hB1 := Lib.hid (hB.out.trans (h2.mono hB.out.size)); have hE1 := Lib.hid (HE.out.below h2 HE.out.lt); clear h2; obtain ⟨c0, c1, c2, c3, c4, c5, c6, c7, c8, c9, c10, c11, c12, c13, c14⟩ := id hE1.out)
      | (go_at_call 76; (with_reducible refine (CA.out _ hB1.out).mono ?_); rintro r w2 ⟨rfl, h2⟩; have hB2 := Lib.hid (hB1.out.trans (h2.mono hB1.out.size)); have hE2 := Lib.hid (hE1.out.below h2 hE1.out.lt); have hE3 := Lib.hid (hE2.out.below ((Below.refl w2.heap.size w2).alloc (Nat.le_refl _) (.cells #[.string ⟨#[]⟩, .string ⟨#[]⟩, .string (mkS e.user), .string (mkS e.group), .string ⟨#[]⟩, .int .u8 (e.kind.toNat : Int), .int .i64 e.mode, .int .i64 e.uid, .int .i64 e.gid, .int .i64 (e.data.length : Int), .int .i64 e.sec, .int .i64 e.major, .int .i64 e.minor] 67)) hE2.out.lt); clear h2 c0 c1 c2 c3 c4 c5 c6 c7 c8 c9 c10 c11 c12 c13 c14; obtain ⟨c0, c1, c2, c3, c4, c5, c6, c7, c8, c9, c10, c11, c12, c13, c14⟩ := id hE2.out; obtain ⟨d0, d1, d2, d3, d4, d5, d6, d7, d8, d9, d10, d11, d12, d13, d14⟩ := id hE3.out)
      | (go_at_call 87; (with_reducible refine (CG.out _ (hB2.out.alloc hB2.out.size _)).mono ?_); rintro r w3 ⟨rfl, h3⟩; have hB3 := Lib.hid ((hB2.out.alloc hB2.out.size _).trans (h3.mono (hB2.out.alloc hB2.out.size _).size)); clear h3)
      | fail)
    go_ret2
    exact ⟨rfl, hB3.out⟩

/-- What stands while EntryWrite runs: the member's box, the header's box. -/
structure ReS (w : World) (e : EntL) (v : Value) (cs : Array Value) (B : Nat) (W : World) : Prop where
  lt : w.heap.size < B
  below : Below w.heap.size w W
  ent : EntAt W w.heap.size e v
  raw : W.heap[B]? = some (.cells cs 67 (0, 0))
theorem ReS.next {w W W' : World} {e : EntL} {v : Value} {cs : Array Value} {B : Nat} (h : ReS w e v cs B W) (hb : Below W.heap.size W W') : ReS w e v cs B W' :=
  ⟨h.lt, h.below.trans (hb.mono h.below.size), h.ent.below hb h.ent.lt, (hb.block _ (Array.getElem?_eq_some_iff.1 h.raw).1).trans h.raw⟩
theorem ReS.store {w W : World} {e : EntL} {v : Value} {cs : Array Value} {B : Nat} (h : ReS w e v cs B W) (i : Nat) (x : Value) : ReS w e v (cs.setIfInBounds i x) B (W.setCell ⟨B, i, none⟩ x) := by
  obtain ⟨h1, h2⟩ := setCell_row (i := i) (v := x) h.raw
  exact ⟨h.lt, h2 _ (Nat.le_of_lt h.lt) _ h.below, h.ent.below (h2 B (Nat.le_refl _) _ (Below.refl _ _)) h.lt, h1⟩
theorem ReS.made {w V : World} {e : EntL} {v : Value} {cs : Array Value} (h0 : Below w.heap.size w V) (hE : EntAt V w.heap.size e v) : ReS w e v cs V.heap.size (V.alloc (.cells cs 67)) :=
  ⟨hE.lt, h0.alloc h0.size _, hE.below ((Below.refl V.heap.size V).alloc (Nat.le_refl _) _) hE.lt, heap_alloc_new V _⟩
theorem idx_byte (k : List UInt8) (c : UInt8) (w : World) : Calls Tryz.prog 34 #[.string (mkS k), .int .u8 (c.toNat : Int)] w fun e w' => e = .returned (.int .i64 (Lib.indexByte k c)) ∧ w' = w := by
  have h := Tryz.strings_IndexByte (mkS k) (c.toNat : Int) w
  rwa [mkS_list, Int.toNat_natCast, show c.toNat.toUInt8 = c by simp] at h
theorem index346 (c : UInt8) (w : World) : ∃ I : Int, (Calls Tryz.prog 34 #[.string ⟨#[51, 52, 54]⟩, .int .u8 (c.toNat : Int)] w fun r w' => r = .returned (.int .i64 I) ∧ Below w.heap.size w w') ∧ (c = 51 ∨ c = 52 ∨ c = 54 → 0 ≤ I) ∧ (¬ (c = 51 ∨ c = 52 ∨ c = 54) → I < 0) := by
  have h := idx_byte [51, 52, 54] c w
  refine ⟨_, h.mono fun r w' hh => ⟨hh.1, by rw [hh.2]; exact Below.refl _ _⟩, fun hc => ?_, fun hc => ?_⟩
  · rcases hc with rfl | rfl | rfl <;> decide
  · have h1 : (51 : UInt8) ≠ c := fun h => hc (.inl h.symm)
    have h2 : (52 : UInt8) ≠ c := fun h => hc (.inr (.inl h.symm))
    have h3 : (54 : UInt8) ≠ c := fun h => hc (.inr (.inr h.symm))
    simp [Lib.indexByte, h1, h2, h3]
end Go.Proofs.YthnonmniponahaaGreatDoor
end
