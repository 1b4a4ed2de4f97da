/- Rx: what the texts of the name hold, joined. -/
import Derived.Test.YthnonmniponahaaGreatDoorQPw
import Derived.Test.YthnonmniponahaaGreatDoorQLn
import Derived.Test.YthnonmniponahaaGreatDoorQWr
import Derived.Test.YthnonmniponahaaGreatDoorQRe
import Derived.Test.YthnonmniponahaaGreatDoorRows
import Derived.WalkKit
import Derived.ProofKit
import Derived.OpenShut
import Derived.LoopTactic
import Derived.Lib.Hide
import Derived.Great.BuildSlice
set_option linter.unusedSimpArgs false
set_option linter.unusedVariables false
section
/- StampTexts: true, at every time. -/
namespace Go.Proofs.YthnonmniponahaaGreatDoor.St
open Go.RowKit Go.Joins

theorem refText_ok (s n : Int) (w : World) (hp : PowLaid w) (hr : rightB s n = true) :
    Calls Tryz.prog 165 #[tmV s n] w fun e w' => e = .returned (.tuple #[.string (mkS (textL s n)), .int .i64 0]) ∧ Below w.heap.size w w' := by
  have hb := rightB_true s n hr
  unfold textL
  by_cases h0 : 0 ≤ s
  · rw [if_pos h0]
    exact refText_of s n s.toNat n.toNat [] w hp hr (Or.inl ⟨h0, by omega, by omega, rfl⟩)
  · rw [if_neg h0]
    by_cases hm : n = 0
    · rw [if_pos hm]
      have h := refText_of s n (-s).toNat 0 [45] w hp hr (Or.inr (Or.inl ⟨by omega, hm, by omega, rfl, rfl⟩))
      rwa [show fracL 0 = [] from rfl, List.append_nil] at h
    · rw [if_neg hm]
      exact refText_of s n (-s - 1).toNat (1000000000 - n).toNat [45] w hp hr (Or.inr (Or.inr ⟨by omega, by omega, by omega, by omega, rfl⟩))

end Go.Proofs.YthnonmniponahaaGreatDoor.St
end
section
/- Contracts of number.Most, revetmentref.Most, within, power: what each returns, for every int. -/
namespace Go.Proofs.YthnonmniponahaaGreatDoor
open Go.RowKit

/-! ### Pad -/
end Go.Proofs.YthnonmniponahaaGreatDoor
end
section
/- The reference's ext. -/
namespace Go.Proofs.YthnonmniponahaaGreatDoor
open Go.RowKit Go.Joins
set_option linter.unusedVariables false
set_option linter.unusedSimpArgs false

def rowX (e : EntL) (u g s t : Int) : Array Value := #[.string ⟨#[]⟩, .string ⟨#[]⟩, .string (mkS e.user), .string (mkS e.group), .string ⟨#[]⟩, .int .u8 (e.kind.toNat : Int), .int .i64 e.mode, .int .i64 u, .int .i64 g, .int .i64 s, .int .i64 t, .int .i64 e.major, .int .i64 e.minor]
/-- What stands while ext runs: the header's box, the member's box, the records (x). -/
structure ExS (w : World) (e : EntL) (v : Value) (L : List PrL) (u g s t : Int) (x : Value) (W : World) : Prop where
  size : w.heap.size + 2 ≤ W.heap.size
  below : Below w.heap.size w W
  raw : W.heap[w.heap.size]? = some (.cells (rowX e u g s t) 67 (0, 0))
  ent : EntAt W (w.heap.size + 1) e v
  own : W.ownsRow (w.heap.size + 2) 53 2 x L.length (Px.pairCells L)
section
variable {w W W' : World} {e : EntL} {v x : Value} {L : List PrL} {u g s t : Int}
theorem own_below {n0 : Nat} {ty : TypeId} {k : Nat} {xs : List Value} {W W' : World} (hr : W.ownsRow n0 ty 2 x k xs) (hb : Below W.heap.size W W') : W'.ownsRow n0 ty 2 x k xs := by
  refine ⟨hr.1, ?_⟩
  rcases hr.2 with h0 | ⟨g, cap, cur, h1, h2, h3, h4⟩
  · exact Or.inl h0
  · exact Or.inr ⟨g, cap, cur, h1, h2, (hb.block g (Array.getElem?_eq_some_iff.1 h3).1).trans h3, h4⟩
theorem ExS.next (h : ExS w e v L u g s t x W) (hb : Below W.heap.size W W') : ExS w e v L u g s t x W' :=
  ⟨Nat.le_trans h.size hb.size, h.below.trans (hb.mono h.below.size), (hb.block _ (Array.getElem?_eq_some_iff.1 h.raw).1).trans h.raw, h.ent.below hb h.ent.lt, own_below h.own hb⟩
theorem ExS.store {i : Nat} {y : Value} {u' g' s' t' : Int} (h : ExS w e v L u g s t x W) (hx : (rowX e u g s t).setIfInBounds i y = rowX e u' g' s' t') : ExS w e v L u' g' s' t' x (W.setCell ⟨w.heap.size, i, none⟩ y) := by
  obtain ⟨h1, h2⟩ := setCell_row (i := i) (v := y) h.raw
  have hb := h2 _ (Nat.le_refl _) _ (Below.refl w.heap.size W)
  refine ⟨Nat.le_trans h.size hb.size, h.below.trans hb, by rw [h1, hx], h.ent.of_block (Below.heap_setCell W ⟨w.heap.size, i, none⟩ y _ (Nat.succ_ne_self _)), h.own.1, ?_⟩
  rcases h.own.2 with h0 | ⟨g, cap, cur, h3, h4, h5, h6⟩
  · exact Or.inl h0
  · exact Or.inr ⟨g, cap, cur, h3, h4, (Below.heap_setCell W ⟨w.heap.size, i, none⟩ y g (by show g ≠ w.heap.size; omega)).trans h5, h6⟩
theorem ExS.app {tmp : Obj} {w4 : World} {v' : Value} (h : ExS w e v L u g s t x W) (ps : List PrL) (hown' : w4.ownsRow (w.heap.size + 2) 53 2 v' (L.length + ps.length) (Px.pairCells L ++ Px.pairCells ps)) (hgrow : (W.alloc tmp).grownBy w4 x.ownBlock) : ExS w e v (L ++ ps) u g s t v' w4 := by
  have hb : Below (w.heap.size + 2) W w4 := ((Below.refl _ W).alloc h.size tmp).grown hgrow (by rw [World.size_alloc]; have := h.size; omega) fun j ej => by
    rcases h.own.2 with ⟨hx, _⟩ | ⟨g, cap, cur, hx, hg, _, _⟩
    · rw [hx] at ej; simp [Value.ownBlock] at ej
    · rw [hx] at ej
      obtain rfl : g = j := by simpa [Value.ownBlock] using ej
      exact hg
  refine ⟨Nat.le_trans h.size hb.size, h.below.trans (hb.mono (by omega)), (hb.block _ (by omega)).trans h.raw, h.ent.below hb (by omega), ?_⟩
  rw [List.length_append, Px.pairCells_append]
  exact hown'
end
theorem cell_six_new (W : World) (t : TypeId) (a b c d e f : Value) : ∀ (j : Nat) (u : Value), [a, b, c, d, e, f][j]? = some u → (W.alloc (.cells #[a, b, c, d, e, f] t)).cell? ((⟨W.heap.size, 0, none⟩ : Addr).add j) = some u
  | 0, u, h => by simp at h; subst h; simp [Addr.add]
  | 1, u, h => by simp at h; subst h; simp [Addr.add]
  | 2, u, h => by simp at h; subst h; simp [Addr.add]
  | 3, u, h => by simp at h; subst h; simp [Addr.add]
  | 4, u, h => by simp at h; subst h; simp [Addr.add]
  | 5, u, h => by simp at h; subst h; simp [Addr.add]
  | j + 6, u, h => by simp at h
theorem fill_pairs3 (ie : TypeInfo) (h : ie.size = 2) (a b c d e f : ByteArray) : Instr.fill (fun i => some (i * ie.size, ie.size)) ((Array.range (3 * ie.size)).map ((Value.agg #[.string ⟨#[]⟩, .string ⟨#[]⟩]).cells[· % (Value.agg #[.string ⟨#[]⟩, .string ⟨#[]⟩]).cells.size]!)) [(0, .agg #[.string a, .string b]), (1, .agg #[.string c, .string d]), (2, .agg #[.string e, .string f])] = some #[.string a, .string b, .string c, .string d, .string e, .string f] := by
  rw [h]
  simp [Instr.fill, Value.cells, Array.range]
  refine Array.ext (by simp) fun i h1 h2 => ?_
  have h3 : i = 0 ∨ i = 1 ∨ i = 2 ∨ i = 3 ∨ i = 4 ∨ i = 5 := by simp at h2; omega
  rcases h3 with rfl | rfl | rfl | rfl | rfl | rfl <;> simp
theorem refRecords_all (ad : Option Addr) (cap : Nat) (l : List PrL) (hl : l ≠ []) (h20 : l.length ≤ 20) (hr : ∀ p ∈ l, Px.rightP p.1 p.2 = true) (W : World) (hp : Px.PowLaid W) (hM : Px.PairsAt W ad l) :
    Calls Tryz.prog 167 #[.slice ad l.length cap] W fun e w' => e = .returned (.tuple #[.string (mkS (Px.recsL l)), .agg #[.int .i64 0, .int .i64 (-1)]]) ∧ Below W.heap.size W w' := by
  rcases hM.cases with rfl | ⟨b, off, rfl, hlt, hRow⟩
  · exact absurd rfl hl
  · refine (Px.refRecords_row b off cap l h20 (fun p hp => ?_) l.length (Nat.le_refl _) (fun j p _ hp => hr p (List.mem_of_getElem? hp)) (fun p hp => by simp at hp) W hp hlt hRow).mono fun e w' ⟨h1, h2⟩ => ⟨?_, h2⟩
    · have := (Px.rightP_true p.1 p.2 (hr p hp)).2.2
      omega
    · rw [h1, Px.recsV_all]
theorem faultIs_any (w : World) : Calls Tryz.prog 39 #[.agg #[.int .i64 0, .int .i64 (-1)]] w fun e w' => e = .returned (.bool true) ∧ Below w.heap.size w w' := by
  have hb := below_alloc1 w (.cells #[.int .i64 0, .int .i64 (-1)] 31)
  go_enter Tryz.func39, Tryz.ntmps39
  go_wp2_with fail
  go_ret
  exact ⟨rfl, hb⟩
set_option maxRecDepth 100000 in
set_option maxHeartbeats 16000000 in
theorem refExt_room (e : EntL) (hr : rightE e = true) (ad : Option Addr) (cap : Nat) (ho : Held e) (hdl : e.data.length ≤ 5000) (w : World) (hp : Px.PowLaid w) (hM : PiecesAt w ad e.map) (X : List UInt8) (hX : paxX e = (X, 0)) :
    Calls Tryz.prog 87 #[rawB e, entV e (.slice ad e.map.length cap), .string (mkS (storedE e))] w fun r w' => r = .returned (.tuple #[.string (mkS (extF (recsE e) ++ X)), .int .i64 0]) ∧ Below w.heap.size w w' := by
  obtain ⟨m1, m2, m3, m4, m5, m6⟩ := right_num hr
  obtain ⟨t1, t2, t3, t4⟩ := St.rightB_true _ _ m4
  have hdv : devMost e.kind ≤ 2097151 := by unfold devMost; split <;> omega
  have hst := stored_len hr
  have htx := right_txt hr
  have hln := (txtOk_iff.1 htx.2.2.1).1
  have hrec := recsE_right hr
  have hrl := recsE_length e
  have hsz : 0 ≤ e.size ∧ e.size ≤ 4000 := by
    by_cases hk : e.kind = 48
    · exact (right_file hr hk).1
    · have := (right_other hr hk).1; omega
  have hmp : e.map.length ≤ 20 ∧ Octs e.map := by
    cases hsp : sparseE e with
    | true =>
      have hk48 : e.kind = 48 := by
        by_cases hh : e.kind = 48
        · exact hh
        · have := (right_other hr hh).2.2.2; rw [hsp] at this; cases this
      obtain ⟨hm1, hm2⟩ := mapRight_parts (by omega) ((right_file hr hk48).2 hsp).1
      exact ⟨hm1, fun p hp => by have := hm2 p hp; omega⟩
    | false =>
      rw [(dense_parts hsp).1]
      exact ⟨by simp, fun p hp => by cases hp⟩
  have hdt : e.data.length ≤ 9223372036854775807 := by omega
  have hpl : (fillL (linesL e.map)).length ≤ 2000 := by
    have h1 := fillL_le (linesL e.map)
    have h2 := linesT_len hmp.2 (by omega) e.map.length
    rw [linesT_all] at h2
    omega
  have hpd : (paxData e).length ≤ 7000 := by
    unfold paxData
    split
    · rw [List.length_append]; omega
    · omega
  have HM := Lib.hid (fun W (h : Below w.heap.size w W) => hM.below h)
  have CP := Lib.hid (fun W => refSparse_any e ad cap hdt W)
  have CIs := Lib.hid (fun W (h : Below w.heap.size w W) => itoaN e.size hsz.1 (by omega) W (hp.below h))
  have CIg := Lib.hid (fun W (h : Below w.heap.size w W) => itoaN e.gid m3.1 (by omega) W (hp.below h))
  have CIu := Lib.hid (fun W (h : Below w.heap.size w W) => itoaN e.uid m2.1 (by omega) W (hp.below h))
  have CIn := Lib.hid (fun (n : Int) (h0 : 0 ≤ n) (h1 : n ≤ 8589934591) W (h : Below w.heap.size w W) => itoaN n h0 (by omega) W (hp.below h))
  have CFl := Lib.hid (fun W => refFill_any (linesL e.map) W (by have h2 := linesT_len hmp.2 (by omega) e.map.length; rw [linesT_all] at h2; omega))
  have CM8 := Lib.hid (fun W => show Calls Tryz.prog 164 #[.int .i64 8] W fun e w' => e = .returned (.int .i64 2097151) ∧ Below W.heap.size W w' from (refMost_any 8 W).mono fun e w' ⟨h1, h2⟩ => ⟨by rw [h1, show mostF 8 = 2097151 by decide], by rw [h2]; exact Below.refl _ _⟩)
  have CM12 := Lib.hid (fun W => show Calls Tryz.prog 164 #[.int .i64 12] W fun e w' => e = .returned (.int .i64 8589934591) ∧ Below W.heap.size W w' from (refMost_any 12 W).mono fun e w' ⟨h1, h2⟩ => ⟨by rw [h1, show mostF 12 = 8589934591 by decide], by rw [h2]; exact Below.refl _ _⟩)
  have CTx := Lib.hid (fun W (h : Below w.heap.size w W) => show Calls Tryz.prog 165 #[.agg #[.int .i64 e.sec, .int .i64 e.nano]] W fun r w' => r = .returned (.tuple #[.string (mkS (St.textL e.sec e.nano)), .int .i64 0]) ∧ Below W.heap.size W w' from St.refText_ok e.sec e.nano W (hp.below h) m4)
  have CSp := Lib.hid (fun W => show Calls Tryz.prog 166 #[.string (mkS (storedE e))] W fun r w' => r = .returned (.tuple #[.string (mkS (halfF (storedE e)).1), .string (mkS (halfF (storedE e)).2.1), .bool (halfF (storedE e)).2.2]) ∧ Below W.heap.size W w' by
    refine (refSplit_any (storedE e) (by omega) W).mono fun r w' h => ?_
    obtain ⟨x, y, k, h1, h2, h3⟩ := h
    rw [h1.eq]
    exact ⟨h2, by first | exact h3 | exact h3.elim (fun h => h ▸ Below.refl _ _) (fun h => h ▸ (Below.refl _ _).drew)⟩)
  have CRc := Lib.hid (fun ad2 cap2 W (hl : recsE e ≠ []) (h : Below w.heap.size w W) (h2 : Px.PairsAt W ad2 (recsE e)) => refRecords_all ad2 cap2 (recsE e) hl (by omega) (fun p hp => (hrec p hp).1) W (hp.below h) h2)
  have CFi := Lib.hid (fun W => faultIs_any W)
  have hrl2 := Px.recsL_bound (recsE e) (fun p hp => (hrec p hp).1)
  have CWx := Lib.hid (fun (hl : recsE e ≠ []) W => show Calls Tryz.prog 89 #[.int .i64 4, .agg #[.string ⟨#[]⟩, .string ⟨#[]⟩, .string ⟨#[]⟩, .string ⟨#[]⟩, .string ⟨#[]⟩, .int .u8 120, .int .i64 0, .int .i64 0, .int .i64 0, .int .i64 ((Px.recsL (recsE e)).length : Int), .int .i64 0, .int .i64 0, .int .i64 0], .string ⟨#[80, 97, 120, 72, 101, 97, 100, 101, 114]⟩, .string ⟨#[]⟩, .string (mkS (Px.recsL (recsE e)))] W fun r w' => r = .returned (.tuple #[.string (mkS (extF (recsE e))), .int .i64 0]) ∧ Below W.heap.size W w' by
    have h := refWhole_at 4 4 rfl (by decide) (rawK 120 ((Px.recsL (recsE e)).length : Int)) extName [] (Px.recsL (recsE e)) (show (120 : UInt8) ≠ 0 by decide) (by decide) (by decide) (show ([] : List UInt8).length ≤ 1000000 by decide) (show ([] : List UInt8).length ≤ 1000000 by decide) (by omega) (by unfold intsL rawK i64; dsimp only; omega) W
    rw [wholeExt _ (by omega) (by omega), show writeL 4 (rawExt (Px.recsL (recsE e)).length) ++ fillL (Px.recsL (recsE e)) = extF (recsE e) by unfold extF; rw [if_neg hl]] at h
    exact h)
  have hzR := mkS_size (Px.recsL (recsE e))
  have hx0 : recsE e = [] → extF (recsE e) = [] := fun h => by unfold extF; rw [if_pos h]
  have hri : intsL (paxRaw e) := by
    unfold intsL i64 paxRaw
    dsimp only
    refine ⟨by omega, ?_, ?_, by omega, ?_, by omega, by omega⟩
    · split <;> omega
    · split <;> omega
    · split <;> omega
  have hpn : (paxName e).length ≤ 200 := by
    unfold paxName
    split
    · omega
    · decide
  have CWt := Lib.hid (fun W => refWhole_at 4 4 rfl (by decide) (paxRaw e) (paxName e) (e.link.take 100) (paxData e) (kind_nz hr) (by omega) (by rw [List.length_take]; omega) (by have := ho.user; show e.user.length ≤ _; omega) (by have := ho.group; show e.group.length ≤ _; omega) (by omega) hri W)
  have hXX : paxX e = wholeF 4 (paxRaw e) (paxName e) (e.link.take 100) (paxData e) := rfl
  have hXl : X.length ≤ 9000 := by have h := paxWhole_len 4 (paxRaw e) (paxName e) (e.link.take 100) (paxData e); rw [← hXX, hX] at h; dsimp only at h; omega
  rw [← hXX, hX] at CWt
  have hxl : (extF (recsE e)).length ≤ 6000 := by
    unfold extF
    split
    · simp
    · have hg := goodExt ((Px.recsL (recsE e)).length : Int) (by omega) (by omega)
      have := fillL_le (Px.recsL (recsE e))
      rw [List.length_append, write_length hg]
      omega
  have KX := fun W => mkS_cat (extF (recsE e)) X (by omega) W
  -- what each if comes to
  obtain ⟨LA, hLA⟩ : ∃ L, (if sparseE e then [(majorK, [49]), (minorK, [48]), (realK, decN e.size)] else []) = L := ⟨_, rfl⟩
  obtain ⟨LG, hLG⟩ : ∃ L, (if 2097151 < e.gid then [(gidK, decN e.gid)] else []) = L := ⟨_, rfl⟩
  obtain ⟨LL, hLL⟩ : ∃ L, (if 100 < e.link.length then [(linkK, e.link)] else []) = L := ⟨_, rfl⟩
  obtain ⟨LT, hLT⟩ : ∃ L, (if beyondE e = true ∨ e.nano ≠ 0 then [(mtimeK, St.textL e.sec e.nano)] else []) = L := ⟨_, rfl⟩
  obtain ⟨LP, hLP⟩ : ∃ L, (if (halfF (storedE e)).2.2 then [] else [(pathK, storedE e)]) = L := ⟨_, rfl⟩
  obtain ⟨LU, hLU⟩ : ∃ L, (if 2097151 < e.uid then [(uidK, decN e.uid)] else []) = L := ⟨_, rfl⟩
  have HR := Lib.hid (show LA ++ LG ++ LL ++ LT ++ LP ++ LU = recsE e by subst hLA hLG hLL hLT hLP hLU; unfold recsE; simp only [List.append_assoc])
  have hlen : LA.length ≤ 3 ∧ LG.length ≤ 1 ∧ LL.length ≤ 1 ∧ LT.length ≤ 1 ∧ LP.length ≤ 1 := by
    subst hLA hLG hLL hLT hLP
    refine ⟨?_, ?_, ?_, ?_, ?_⟩ <;> (split <;> simp)
  have HLn := Lib.hid hlen
  obtain ⟨sp, hsp⟩ : ∃ b, sparseE e = b := ⟨_, rfl⟩
  obtain ⟨bb, hbb⟩ : ∃ b, beyondE e = b := ⟨_, rfl⟩
  obtain ⟨cb, hcb⟩ : ∃ b, decide (bb = true ∨ e.nano ≠ 0) = b := ⟨_, rfl⟩
  obtain ⟨ft, hft⟩ : ∃ b, (halfF (storedE e)).2.2 = b := ⟨_, rfl⟩
  have HA := Lib.hid (show (sp = true → LA = [(majorK, [49]), (minorK, [48]), (realK, decN e.size)] ∧ paxData e = fillL (linesL e.map) ++ e.data) ∧ (sp = false → LA = [] ∧ paxData e = e.data) by
    refine ⟨fun h => ?_, fun h => ?_⟩ <;> (rw [h] at hsp; rw [← hLA]; unfold paxData; rw [hsp]; exact ⟨rfl, rfl⟩))
  obtain ⟨gid, hgid⟩ : ∃ x, (if 2097151 < e.gid then 0 else e.gid) = x := ⟨_, rfl⟩
  obtain ⟨uid, huid⟩ : ∃ x, (if 2097151 < e.uid then 0 else e.uid) = x := ⟨_, rfl⟩
  obtain ⟨sec, hsec⟩ : ∃ x, (if beyondE e = true then 0 else e.sec) = x := ⟨_, rfl⟩
  have HG := Lib.hid (show (2097151 < e.gid → LG = [(gidK, decN e.gid)] ∧ gid = 0) ∧ (e.gid ≤ 2097151 → LG = [] ∧ gid = e.gid) by
    refine ⟨fun h => ?_, fun h => ?_⟩
    · rw [← hLG, ← hgid, if_pos h, if_pos h]; exact ⟨rfl, rfl⟩
    · rw [← hLG, ← hgid, if_neg (by omega), if_neg (by omega)]; exact ⟨rfl, rfl⟩)
  have HU := Lib.hid (show (2097151 < e.uid → LU = [(uidK, decN e.uid)] ∧ uid = 0) ∧ (e.uid ≤ 2097151 → LU = [] ∧ uid = e.uid) by
    refine ⟨fun h => ?_, fun h => ?_⟩
    · rw [← hLU, ← huid, if_pos h, if_pos h]; exact ⟨rfl, rfl⟩
    · rw [← hLU, ← huid, if_neg (by omega), if_neg (by omega)]; exact ⟨rfl, rfl⟩)
  have HL := Lib.hid (show ((100 : Int) < (e.link.length : Int) → LL = [(linkK, e.link)]) ∧ ((e.link.length : Int) ≤ 100 → LL = [] ∧ e.link.take 100 = e.link) by
    refine ⟨fun h => ?_, fun h => ?_⟩
    · rw [← hLL, if_pos (by omega)]
    · rw [← hLL, if_neg (by omega)]; exact ⟨rfl, List.take_of_length_le (by omega)⟩)
  have HT := Lib.hid (show (cb = true → LT = [(mtimeK, St.textL e.sec e.nano)]) ∧ (cb = false → LT = []) ∧ (bb = true → sec = 0) ∧ (bb = false → sec = e.sec) by
    rw [← hLT, ← hsec, ← hcb, hbb]
    refine ⟨fun h => if_pos (of_decide_eq_true h), fun h => if_neg (of_decide_eq_false h), fun h => if_pos h, fun h => if_neg (by rw [h]; simp)⟩)
  have HC := Lib.hid (show (bb = true → cb = true) ∧ (e.nano = 0 → bb = false → cb = false) ∧ (0 < e.nano → cb = true) by
    rw [← hcb]
    refine ⟨fun h => decide_eq_true (.inl h), fun h h0 => decide_eq_false (by rw [h, h0]; simp), fun h => decide_eq_true (.inr (by omega))⟩)
  have HB := Lib.hid (show (e.sec < 0 → bb = true) ∧ (8589934591 < e.sec → bb = true) ∧ (0 ≤ e.sec → e.sec ≤ 8589934591 → bb = false) by
    rw [← hbb]
    unfold beyondE
    refine ⟨fun h => by rw [decide_eq_true h]; rfl, fun h => by rw [decide_eq_true h, Bool.or_true], fun h1 h2 => by rw [decide_eq_false (by omega), decide_eq_false (by omega)]; rfl⟩)
  have HF := Lib.hid (show (ft = true → LP = [] ∧ paxName e = storedE e) ∧ (ft = false → LP = [(pathK, storedE e)] ∧ paxName e = standIn) by
    refine ⟨fun h => ?_, fun h => ?_⟩ <;> (rw [h] at hft; rw [← hLP]; unfold paxName; rw [hft]; exact ⟨rfl, rfl⟩))
  have HBW := Lib.hid (fun W => show Calls Tryz.prog 29 #[.int .i64 e.sec, .int .i64 0, .int .i64 8589934591] W fun r w' => r = .returned (.bool (!bb)) ∧ Below W.heap.size W w' from (within_any e.sec 0 8589934591 W).mono fun r w' hh => ⟨by
    rw [hh.1, ← hbb]
    unfold beyondE
    by_cases g1 : e.sec < 0
    · rw [decide_eq_true g1, decide_eq_false (by omega)]; rfl
    · by_cases g2 : 8589934591 < e.sec
      · rw [decide_eq_false g1, decide_eq_true g2, decide_eq_false (by omega)]; rfl
      · rw [decide_eq_false g1, decide_eq_false g2, decide_eq_true (by omega)]; rfl, by first | exact hh.2 ▸ Below.refl _ _ | exact hh.2.symm ▸ Below.refl _ _⟩)
  rw [hsp] at CP
  rw [hft] at CSp
  have CW2 := Lib.hid (fun W => show Calls Tryz.prog 89 #[.int .i64 4, .agg #[.string ⟨#[]⟩, .string ⟨#[]⟩, .string (mkS e.user), .string (mkS e.group), .string ⟨#[]⟩, .int .u8 (e.kind.toNat : Int), .int .i64 e.mode, .int .i64 uid, .int .i64 gid, .int .i64 ((paxData e).length : Int), .int .i64 sec, .int .i64 e.major, .int .i64 e.minor], .string (mkS (paxName e)), .string (mkS (e.link.take 100)), .string (mkS (paxData e))] W fun r w' => r = .returned (.tuple #[.string (mkS X), .int .i64 0]) ∧ Below W.heap.size W w' by
    rw [← huid, ← hgid, ← hsec]
    exact CWt.out W)
  have hsl := hst.1
  have hks := mkS_size e.data
  have hkl := mkS_size e.link
  have hkp := mkS_size (paxData e)
  have KD := fun W => mkS_cat (fillL (linesL e.map)) e.data (by omega) W
  have KL : ∀ W, ¬ (e.link.length ≤ 100) → (Instr.slice 9 (.string (mkS e.link)) none (some (.int .i64 100)) none).run Tryz.prog W = .ok (.string (mkS (e.link.take 100))) W := fun W h => mkS_upto e.link 100 (by omega) W
  have HLT := Lib.hid (fun i => linesT_len hmp.2 (by omega : e.map.length ≤ 1000) i)
  have HLA := Lib.hid (linesT_all e.map)
  have HLS := Lib.hid (fun (i : Nat) (p : Pc) (h : e.map[i]? = some p) => linesT_succ h)
  have HL0 := Lib.hid (show linesT e.map 0 = decN e.map.length ++ [10] by unfold linesT; simp)
  have HOc := Lib.hid hmp.2
  have hn20 : e.map.length ≤ 20 := hmp.1
  have HPo := Lib.hid (fun W (h : Below w.heap.size w W) => hp.below h)
  have hdn := decN_le (n := (e.map.length : Int)) (by omega)
  clear hLA hLG hLL hLT hLP hLU hsp hbb hcb hft hgid huid hsec CWt hri hXX hX hrec htx hpn hmp hM hp hst hr ho
  generalize decN e.size = DS at *
  generalize decN e.gid = DG at *
  generalize decN e.uid = DU at *
  generalize linesL e.map = LS at *
  generalize hFL : fillL LS = FS at *
  generalize paxData e = PD at *
  generalize paxName e = PN at *
  generalize e.link.take 100 = LK at *
  generalize storedE e = SN at *
  generalize St.textL e.sec e.nano = TX at *
  generalize hRE : recsE e = RE at *
  generalize Px.recsL RE = RT at *
  generalize extF RE = XE at *
  clear hRE
  obtain ⟨i0, hi⟩ : ∃ i0, Tryz.prog.info? 53 = some i0 := by
    have := Px.Tryz.infoPair
    cases hh : Tryz.prog.info? 53 with
    | none => rw [hh] at this; cases this
    | some i0 => exact ⟨i0, rfl⟩
  have hip := Px.Tryz.infoPair
  rw [hi] at hip
  simp only [Option.map_some, Option.some.injEq, Prod.mk.injEq] at hip
  have hI2 := Lib.hid (And.intro hi (And.intro hip.1 (And.intro hip.2.1 hip.2.2)))
  clear hi hip
  have hE := EntAt.new (w.alloc (.cells (rowX e e.uid e.gid e.data.length e.sec) 67)) e (.slice ad e.map.length cap) 28
  have hz1 : (w.alloc (.cells (rowX e e.uid e.gid e.data.length e.sec) 67)).heap.size = w.heap.size + 1 := Array.size_push ..
  have hb1' := below_alloc1 w (.cells (rowX e e.uid e.gid e.data.length e.sec) 67)
  have hb2' := below_alloc1 (w.alloc (.cells (rowX e e.uid e.gid e.data.length e.sec) 67)) (.cells (entC e (.slice ad e.map.length cap)) 28)
  have hr1 := (hb2'.block w.heap.size (by rw [hz1]; exact Nat.lt_succ_self _)).trans (heap_alloc_new w (.cells (rowX e e.uid e.gid e.data.length e.sec) 67))
  rw [hz1] at hE
  have H1 := Lib.hid (show ExS w e (.slice ad e.map.length cap) [] e.uid e.gid e.data.length e.sec (.slice none 0 0) _ from ⟨by rw [show ∀ (x : World) o, (x.alloc o).heap.size = x.heap.size + 1 from fun x o => Array.size_push .., hz1]; exact Nat.le_refl _, hb1'.trans (hb2'.mono (by rw [hz1]; exact Nat.le_succ _)), hr1, hE, World.ownsRow_nil _ _ _ _⟩)
  clear hE hz1 hb1' hb2' hr1
  unfold entC rowX at H1
  unfold entV at CP ⊢
  generalize hnm : e.map.length = n at *
  go_enter Tryz.func87, Tryz.ntmps87
  go_upto_region 1 with fail
  generalize (World.alloc (World.alloc w _) _) = W1 at *
  go_upto_region 2 with fail
  go_cut [8, 9, 10] (fun s8 s9 s10 wx => s9 = .int .i64 2097151 ∧ s10 = .int .i64 8589934591 ∧ ExS w e (.slice ad n cap) ([]) e.uid e.gid e.data.length e.sec s8 wx)
  case first => as_aux_lemma =>
    go_wp2_with (first
      | (go_at_call 164; (with_reducible refine (CM8.out _).mono ?_); rintro r va ⟨rfl, g1⟩; have Ha := Lib.hid (H1.out.next g1); clear g1)
      | (go_at_call 164; (with_reducible refine (CM12.out _).mono ?_); rintro r vb ⟨rfl, g1⟩; have Hb := Lib.hid (Ha.out.next g1); clear g1)
      | fail)
    go_meet
    exact ⟨rfl, rfl, Hb.out⟩
  case rest =>
    obtain ⟨rfl, rfl, h⟩ := hcut
    clear H1 CM8 CM12
    have H1 := Lib.hid h
    clear h
    obtain ⟨c0, c1, c2, c3, c4, c5, c6, c7, c8, c9, c10, c11, c12, c13, c14⟩ := id H1.out.ent
    go_upto_if 31 with (first
      | (go_at_call 88; (with_reducible refine (CP.out _).mono ?_); rintro r vH2 ⟨rfl, g1⟩; have H2 := Lib.hid (H1.out.next g1); clear g1 c0 c1 c2 c3 c4 c5 c6 c7 c8 c9 c10 c11 c12 c13 c14; obtain ⟨c0, c1, c2, c3, c4, c5, c6, c7, c8, c9, c10, c11, c12, c13, c14⟩ := id H2.out.ent)
      | fail)
    go_cut [8] (fun s8 wx => ExS w e (.slice ad n cap) (LA) e.uid e.gid e.data.length e.sec s8 wx)
    case first => as_aux_lemma =>
      cases sp with
      | false =>
        obtain ⟨hA1, hA2⟩ := HA.out.2 rfl
        clear hA2
        go_wp2_with fail
        go_meet
        rw [hA1]
        exact H2.out
      | true =>
        have HA1 := Lib.hid (HA.out.1 rfl).1
        go_wp2_with (first
          | (go_at_call 99; (with_reducible refine (CIs.out _ H2.out.below).mono ?_); rintro r vH3 ⟨rfl, g1⟩; have H3 := Lib.hid (H2.out.next g1); clear g1 c0 c1 c2 c3 c4 c5 c6 c7 c8 c9 c10 c11 c12 c13 c14; obtain ⟨c0, c1, c2, c3, c4, c5, c6, c7, c8, c9, c10, c11, c12, c13, c14⟩ := id H3.out.ent)
          | (refine wpList_buildSlice rfl 22 53 3 _ rfl #[.string ⟨#[71, 78, 85, 46, 115, 112, 97, 114, 115, 101, 46, 109, 97, 106, 111, 114]⟩, .string ⟨#[49]⟩, .string ⟨#[71, 78, 85, 46, 115, 112, 97, 114, 115, 101, 46, 109, 105, 110, 111, 114]⟩, .string ⟨#[48]⟩, .string ⟨#[71, 78, 85, 46, 115, 112, 97, 114, 115, 101, 46, 114, 101, 97, 108, 115, 105, 122, 101]⟩, .string (mkS DS)] i0 (.agg #[.string { data := #[] }, .string { data := #[] }]) Tryz.underlying22 hI2.out.1 hI2.out.2.1 (by rw [hI2.out.2.2.1]; decide) (by rw [hI2.out.2.2.1]; decide) (by rw [Array.toList_map]; exact fill_pairs3 i0 hI2.out.2.2.1 _ _ _ _ _ _) ?_)
          | (at_builtin; go_loud (refine wpList_append_own _ rfl _ _ 22 rfl (w.heap.size + 2) 53 i0 (.agg #[.string { data := #[] }, .string { data := #[] }]) 2 32 Tryz.underlying22 hI2.out.1 hI2.out.2.1 hI2.out.2.2.1 hI2.out.2.2.2 rfl (by decide) _ _ _ (by rfl) (H3.out.own.alloc _) ⟨vH3.heap.size, 0, none⟩ 3 3 [.string ⟨#[71, 78, 85, 46, 115, 112, 97, 114, 115, 101, 46, 109, 97, 106, 111, 114]⟩, .string ⟨#[49]⟩, .string ⟨#[71, 78, 85, 46, 115, 112, 97, 114, 115, 101, 46, 109, 105, 110, 111, 114]⟩, .string ⟨#[48]⟩, .string ⟨#[71, 78, 85, 46, 115, 112, 97, 114, 115, 101, 46, 114, 101, 97, 108, 115, 105, 122, 101]⟩, .string (mkS DS)] rfl rfl (cell_six_new vH3 53 (.string ⟨#[71, 78, 85, 46, 115, 112, 97, 114, 115, 101, 46, 109, 97, 106, 111, 114]⟩) (.string ⟨#[49]⟩) (.string ⟨#[71, 78, 85, 46, 115, 112, 97, 114, 115, 101, 46, 109, 105, 110, 111, 114]⟩) (.string ⟨#[48]⟩) (.string ⟨#[71, 78, 85, 46, 115, 112, 97, 114, 115, 101, 46, 114, 101, 97, 108, 115, 105, 122, 101]⟩) (.string (mkS DS))) (by simp [Value.oneCell']) (by have := HLn.out; (try simp only [List.length_append, List.length_cons, List.length_nil]); (try unfold maxLen); omega) (by have := HLn.out; (try simp only [List.length_append, List.length_cons, List.length_nil]); (try unfold maxLen); omega) (by rw [World.size_alloc]; have := H3.out.size; omega) ?_); intro v' w4 hown' hgrow _; have H4 := Lib.hid (H3.out.app (tmp := .cells #[.string ⟨#[71, 78, 85, 46, 115, 112, 97, 114, 115, 101, 46, 109, 97, 106, 111, 114]⟩, .string ⟨#[49]⟩, .string ⟨#[71, 78, 85, 46, 115, 112, 97, 114, 115, 101, 46, 109, 105, 110, 111, 114]⟩, .string ⟨#[48]⟩, .string ⟨#[71, 78, 85, 46, 115, 112, 97, 114, 115, 101, 46, 114, 101, 97, 108, 115, 105, 122, 101]⟩, .string (mkS DS)] 53) [(majorK, [49]), (minorK, [48]), (realK, DS)] hown' hgrow); clear hown' hgrow)
          | fail)
        go_meet
        rw [HA1.out]
        exact H4.out
    case rest =>
      have h := hcut
      clear H1 H2 hcut CIs
      have H1 := Lib.hid h
      clear h
      obtain ⟨c0, c1, c2, c3, c4, c5, c6, c7, c8, c9, c10, c11, c12, c13, c14⟩ := id H1.out.ent
      go_upto_if 44 with fail
      go_cut [8] (fun s8 wx => ExS w e (.slice ad n cap) (LA ++ LG) e.uid gid e.data.length e.sec s8 wx)
      case first => as_aux_lemma =>
        by_cases hg : 2097151 < e.gid
        · obtain ⟨hA1, hA2⟩ := HG.out.1 hg
          have HA1 := Lib.hid (And.intro hA1 hA2)
          clear hA1 hA2
          go_wp2_with (first
            | (go_at_call 99; (with_reducible refine (CIg.out _ H1.out.below).mono ?_); rintro r vH3 ⟨rfl, g1⟩; have H3 := Lib.hid (H1.out.next g1); clear g1 c0 c1 c2 c3 c4 c5 c6 c7 c8 c9 c10 c11 c12 c13 c14; obtain ⟨c0, c1, c2, c3, c4, c5, c6, c7, c8, c9, c10, c11, c12, c13, c14⟩ := id H3.out.ent)
            | (at_builtin; go_loud (refine wpList_append_own _ rfl _ _ 22 rfl (w.heap.size + 2) 53 i0 (.agg #[.string { data := #[] }, .string { data := #[] }]) 2 32 Tryz.underlying22 hI2.out.1 hI2.out.2.1 hI2.out.2.2.1 hI2.out.2.2.2 rfl (by decide) _ _ _ (by rfl) (H3.out.own.alloc _) ⟨vH3.heap.size, 0, none⟩ 1 1 [.string ⟨#[103, 105, 100]⟩, .string (mkS DG)] rfl rfl (Px.cell_two_new vH3 53 (.string ⟨#[103, 105, 100]⟩) (.string (mkS DG))) (by simp [Value.oneCell']) (by have := HLn.out; (try simp only [List.length_append, List.length_cons, List.length_nil]); (try unfold maxLen); omega) (by have := HLn.out; (try simp only [List.length_append, List.length_cons, List.length_nil]); (try unfold maxLen); omega) (by rw [World.size_alloc]; have := H3.out.size; omega) ?_); intro v' w4 hown' hgrow _; have H4 := Lib.hid (H3.out.app (tmp := .cells #[.string ⟨#[103, 105, 100]⟩, .string (mkS DG)] 53) [(gidK, DG)] hown' hgrow); clear hown' hgrow; have k9 := row_cell H4.out.raw 8 _ rfl; have f9 := row_free H4.out.raw 8)
            | fail)
          go_meet
          rw [HA1.out.1, HA1.out.2]
          exact H4.out.store rfl
        · obtain ⟨hA1, hA2⟩ := HG.out.2 (by omega)
          go_wp2_with fail
          go_meet
          rw [hA1, hA2, List.append_nil]
          exact H1.out
      case rest =>
        have h := hcut
        clear H1 hcut HG CIg
        have H1 := Lib.hid h
        clear h
        obtain ⟨c0, c1, c2, c3, c4, c5, c6, c7, c8, c9, c10, c11, c12, c13, c14⟩ := id H1.out.ent
        go_upto_if 57 with fail
        go_cut [8, 11] (fun s8 s11 wx => s11 = .string (mkS LK) ∧ ExS w e (.slice ad n cap) (LA ++ LG ++ LL) e.uid gid e.data.length e.sec s8 wx)
        case first => as_aux_lemma =>
          by_cases hg : (100 : Int) < (e.link.length : Int)
          · have HA1 := Lib.hid (HL.out.1 hg)
            have KL2 := fun W => KL W (by omega)
            go_wp2_with (first
              | (at_builtin; go_loud (refine wpList_append_own _ rfl _ _ 22 rfl (w.heap.size + 2) 53 i0 (.agg #[.string { data := #[] }, .string { data := #[] }]) 2 32 Tryz.underlying22 hI2.out.1 hI2.out.2.1 hI2.out.2.2.1 hI2.out.2.2.2 rfl (by decide) _ _ _ (by rfl) (H1.out.own.alloc _) ⟨wc.heap.size, 0, none⟩ 1 1 [.string ⟨#[108, 105, 110, 107, 112, 97, 116, 104]⟩, .string (mkS e.link)] rfl rfl (Px.cell_two_new wc 53 (.string ⟨#[108, 105, 110, 107, 112, 97, 116, 104]⟩) (.string (mkS e.link))) (by simp [Value.oneCell']) (by have := HLn.out; (try simp only [List.length_append, List.length_cons, List.length_nil]); (try unfold maxLen); omega) (by have := HLn.out; (try simp only [List.length_append, List.length_cons, List.length_nil]); (try unfold maxLen); omega) (by rw [World.size_alloc]; have := H1.out.size; omega) ?_); intro v' w4 hown' hgrow _; have H4 := Lib.hid (H1.out.app (tmp := .cells #[.string ⟨#[108, 105, 110, 107, 112, 97, 116, 104]⟩, .string (mkS e.link)] 53) [(linkK, e.link)] hown' hgrow); clear hown' hgrow)
              | fail)
            go_meet
            exact ⟨rfl, by rw [HA1.out]; exact H4.out⟩
          · obtain ⟨hA1, hA2⟩ := HL.out.2 (by omega)
            go_wp2_with fail
            go_meet
            exact ⟨by rw [hA2], by rw [hA1, List.append_nil]; exact H1.out⟩
        case rest =>
          obtain ⟨rfl, h⟩ := hcut
          clear H1 HL KL
          have H1 := Lib.hid h
          clear h
          go_upto_region 12 with fail
          go_cut [8, 76] (fun s8 s76 wx => s76 = .bool cb ∧ ExS w e (.slice ad n cap) (LA ++ LG ++ LL) e.uid gid e.data.length e.sec s8 wx)
          case first => as_aux_lemma =>
            obtain ⟨c0, c1, c2, c3, c4, c5, c6, c7, c8, c9, c10, c11, c12, c13, c14⟩ := id H1.out.ent
            by_cases hn : 0 < e.nano
            · have hc := HC.out.2.2 hn
              go_wp2_with fail
              go_meet
              exact ⟨by rw [hc], H1.out⟩
            · have hn0 : e.nano = 0 := by omega
              have HC2 := Lib.hid (HC.out.2.1 hn0)
              have HC1 := HC.out.1
              rw [hn0] at c7
              clear hn hn0 HC
              cases bb with
              | true =>
                have hc := HC1 rfl
                go_wp2_with (first
                  | (go_at_call 29; (with_reducible refine (HBW.out _).mono ?_); rintro r vH2 ⟨rfl, g1⟩; have H2 := Lib.hid (H1.out.next g1); clear g1 c0 c1 c2 c3 c4 c5 c6 c7 c8 c9 c10 c11 c12 c13 c14; obtain ⟨c0, c1, c2, c3, c4, c5, c6, c7, c8, c9, c10, c11, c12, c13, c14⟩ := id H2.out.ent)
                  | fail)
                go_meet
                exact ⟨by rw [hc], H2.out⟩
                
              | false =>
                have hc := HC2.out rfl
                go_wp2_with (first
                  | (go_at_call 29; (with_reducible refine (HBW.out _).mono ?_); rintro r vH2 ⟨rfl, g1⟩; have H2 := Lib.hid (H1.out.next g1); clear g1 c0 c1 c2 c3 c4 c5 c6 c7 c8 c9 c10 c11 c12 c13 c14; obtain ⟨c0, c1, c2, c3, c4, c5, c6, c7, c8, c9, c10, c11, c12, c13, c14⟩ := id H2.out.ent)
                  | fail)
                go_meet
                exact ⟨by rw [hc], H2.out⟩
          case rest =>
            obtain ⟨rfl, h⟩ := hcut
            clear H1
            have H1 := Lib.hid h
            clear h
            go_upto_if 76 with fail
            go_cut [8, 12, 13] (fun s8 _ _ wx => ExS w e (.slice ad n cap) (LA ++ LG ++ LL ++ LT) e.uid gid e.data.length sec s8 wx)
            case first => as_aux_lemma =>
              obtain ⟨c0, c1, c2, c3, c4, c5, c6, c7, c8, c9, c10, c11, c12, c13, c14⟩ := id H1.out.ent
              cases cb with
              | true =>
                have HA1 := Lib.hid (HT.out.1 rfl)
                cases bb with
                | true =>
                  have HA2 := Lib.hid (HT.out.2.2.1 rfl)
                  go_wp2_with (first
                    | (go_at_call 165; (with_reducible refine (CTx.out _ H1.out.below).mono ?_); rintro r vH3 ⟨rfl, g1⟩; have H3 := Lib.hid (H1.out.next g1); clear g1 c0 c1 c2 c3 c4 c5 c6 c7 c8 c9 c10 c11 c12 c13 c14; obtain ⟨c0, c1, c2, c3, c4, c5, c6, c7, c8, c9, c10, c11, c12, c13, c14⟩ := id H3.out.ent)
                    | (at_builtin; go_loud (refine wpList_append_own _ rfl _ _ 22 rfl (w.heap.size + 2) 53 i0 (.agg #[.string { data := #[] }, .string { data := #[] }]) 2 32 Tryz.underlying22 hI2.out.1 hI2.out.2.1 hI2.out.2.2.1 hI2.out.2.2.2 rfl (by decide) _ _ _ (by rfl) (H3.out.own.alloc _) ⟨vH3.heap.size, 0, none⟩ 1 1 [.string ⟨#[109, 116, 105, 109, 101]⟩, .string (mkS TX)] rfl rfl (Px.cell_two_new vH3 53 (.string ⟨#[109, 116, 105, 109, 101]⟩) (.string (mkS TX))) (by simp [Value.oneCell']) (by have := HLn.out; (try simp only [List.length_append, List.length_cons, List.length_nil]); (try unfold maxLen); omega) (by have := HLn.out; (try simp only [List.length_append, List.length_cons, List.length_nil]); (try unfold maxLen); omega) (by rw [World.size_alloc]; have := H3.out.size; omega) ?_); intro v' w4 hown' hgrow _; have H4 := Lib.hid (H3.out.app (tmp := .cells #[.string ⟨#[109, 116, 105, 109, 101]⟩, .string (mkS TX)] 53) [(mtimeK, TX)] hown' hgrow); clear hown' hgrow; clear c0 c1 c2 c3 c4 c5 c6 c7 c8 c9 c10 c11 c12 c13 c14; obtain ⟨c0, c1, c2, c3, c4, c5, c6, c7, c8, c9, c10, c11, c12, c13, c14⟩ := id H4.out.ent)
                    | (go_at_call 29; (with_reducible refine (HBW.out _).mono ?_); rintro r vH5 ⟨rfl, g1⟩; have H5 := Lib.hid (H4.out.next g1); clear g1 c0 c1 c2 c3 c4 c5 c6 c7 c8 c9 c10 c11 c12 c13 c14; obtain ⟨c0, c1, c2, c3, c4, c5, c6, c7, c8, c9, c10, c11, c12, c13, c14⟩ := id H5.out.ent; have k9 := row_cell H5.out.raw 10 _ rfl; have f9 := row_free H5.out.raw 10)
                    | fail)
                  go_meet
                  rw [HA1.out, HA2.out]
                  exact H5.out.store rfl
                | false =>
                  have HA2 := Lib.hid (HT.out.2.2.2 rfl)
                  go_wp2_with (first
                    | (go_at_call 165; (with_reducible refine (CTx.out _ H1.out.below).mono ?_); rintro r vH3 ⟨rfl, g1⟩; have H3 := Lib.hid (H1.out.next g1); clear g1 c0 c1 c2 c3 c4 c5 c6 c7 c8 c9 c10 c11 c12 c13 c14; obtain ⟨c0, c1, c2, c3, c4, c5, c6, c7, c8, c9, c10, c11, c12, c13, c14⟩ := id H3.out.ent)
                    | (at_builtin; go_loud (refine wpList_append_own _ rfl _ _ 22 rfl (w.heap.size + 2) 53 i0 (.agg #[.string { data := #[] }, .string { data := #[] }]) 2 32 Tryz.underlying22 hI2.out.1 hI2.out.2.1 hI2.out.2.2.1 hI2.out.2.2.2 rfl (by decide) _ _ _ (by rfl) (H3.out.own.alloc _) ⟨vH3.heap.size, 0, none⟩ 1 1 [.string ⟨#[109, 116, 105, 109, 101]⟩, .string (mkS TX)] rfl rfl (Px.cell_two_new vH3 53 (.string ⟨#[109, 116, 105, 109, 101]⟩) (.string (mkS TX))) (by simp [Value.oneCell']) (by have := HLn.out; (try simp only [List.length_append, List.length_cons, List.length_nil]); (try unfold maxLen); omega) (by have := HLn.out; (try simp only [List.length_append, List.length_cons, List.length_nil]); (try unfold maxLen); omega) (by rw [World.size_alloc]; have := H3.out.size; omega) ?_); intro v' w4 hown' hgrow _; have H4 := Lib.hid (H3.out.app (tmp := .cells #[.string ⟨#[109, 116, 105, 109, 101]⟩, .string (mkS TX)] 53) [(mtimeK, TX)] hown' hgrow); clear hown' hgrow; clear c0 c1 c2 c3 c4 c5 c6 c7 c8 c9 c10 c11 c12 c13 c14; obtain ⟨c0, c1, c2, c3, c4, c5, c6, c7, c8, c9, c10, c11, c12, c13, c14⟩ := id H4.out.ent)
                    | (go_at_call 29; (with_reducible refine (HBW.out _).mono ?_); rintro r vH5 ⟨rfl, g1⟩; have H5 := Lib.hid (H4.out.next g1); clear g1 c0 c1 c2 c3 c4 c5 c6 c7 c8 c9 c10 c11 c12 c13 c14; obtain ⟨c0, c1, c2, c3, c4, c5, c6, c7, c8, c9, c10, c11, c12, c13, c14⟩ := id H5.out.ent)
                    | fail)
                  go_meet
                  rw [HA1.out, HA2.out]
                  exact H5.out
              | false =>
                have hA1 := HT.out.2.1 rfl
                have hA2 := HC.out.1
                cases bb with
                | true => exact absurd (hA2 rfl) (by decide)
                | false =>
                  have hA3 := HT.out.2.2.2 rfl
                  go_wp2_with fail
                  go_meet
                  rw [hA1, List.append_nil, hA3]
                  exact H1.out
            case rest =>
              have h := hcut
              clear H1 CTx hcut HT HC HBW
              have H1 := Lib.hid h
              clear h
              go_upto_if 102 with (first
                | (go_at_call 166; (with_reducible refine (CSp.out _).mono ?_); rintro r vH2 ⟨rfl, g1⟩; have H2 := Lib.hid (H1.out.next g1); clear g1)
                | fail)
              go_cut [2, 8] (fun s2 s8 wx => s2 = .string (mkS PN) ∧ ExS w e (.slice ad n cap) (LA ++ LG ++ LL ++ LT ++ LP) e.uid gid e.data.length sec s8 wx)
              case first => as_aux_lemma =>
                cases ft with
                | true =>
                  obtain ⟨hA1, hA2⟩ := HF.out.1 rfl
                  go_wp2_with fail
                  go_meet
                  exact ⟨by rw [hA2], by rw [hA1, List.append_nil]; exact H2.out⟩
                | false =>
                  obtain ⟨hA1, hA2⟩ := HF.out.2 rfl
                  have HA1 := Lib.hid (And.intro hA1 hA2)
                  clear hA1 hA2
                  go_wp2_with (first
                    | (at_builtin; go_loud (refine wpList_append_own _ rfl _ _ 22 rfl (w.heap.size + 2) 53 i0 (.agg #[.string { data := #[] }, .string { data := #[] }]) 2 32 Tryz.underlying22 hI2.out.1 hI2.out.2.1 hI2.out.2.2.1 hI2.out.2.2.2 rfl (by decide) _ _ _ (by rfl) (H2.out.own.alloc _) ⟨vH2.heap.size, 0, none⟩ 1 1 [.string ⟨#[112, 97, 116, 104]⟩, .string (mkS SN)] rfl rfl (Px.cell_two_new vH2 53 (.string ⟨#[112, 97, 116, 104]⟩) (.string (mkS SN))) (by simp [Value.oneCell']) (by have := HLn.out; (try simp only [List.length_append, List.length_cons, List.length_nil]); (try unfold maxLen); omega) (by have := HLn.out; (try simp only [List.length_append, List.length_cons, List.length_nil]); (try unfold maxLen); omega) (by rw [World.size_alloc]; have := H2.out.size; omega) ?_); intro v' w4 hown' hgrow _; have H4 := Lib.hid (H2.out.app (tmp := .cells #[.string ⟨#[112, 97, 116, 104]⟩, .string (mkS SN)] 53) [(pathK, SN)] hown' hgrow); clear hown' hgrow)
                    | fail)
                  go_meet
                  exact ⟨by rw [HA1.out.2]; rfl, by rw [HA1.out.1]; exact H4.out⟩
              case rest =>
                obtain ⟨rfl, h⟩ := hcut
                clear H1 H2 HF CSp
                have H1 := Lib.hid h
                clear h
                obtain ⟨c0, c1, c2, c3, c4, c5, c6, c7, c8, c9, c10, c11, c12, c13, c14⟩ := id H1.out.ent
                go_upto_if 111 with fail
                go_cut [8] (fun s8 wx => ExS w e (.slice ad n cap) (LA ++ LG ++ LL ++ LT ++ LP ++ LU) uid gid e.data.length sec s8 wx)
                case first => as_aux_lemma =>
                  by_cases hg : 2097151 < e.uid
                  · obtain ⟨hA1, hA2⟩ := HU.out.1 hg
                    have HA1 := Lib.hid (And.intro hA1 hA2)
                    clear hA1 hA2
                    go_wp2_with (first
                      | (go_at_call 99; (with_reducible refine (CIu.out _ H1.out.below).mono ?_); rintro r vH3 ⟨rfl, g1⟩; have H3 := Lib.hid (H1.out.next g1); clear g1 c0 c1 c2 c3 c4 c5 c6 c7 c8 c9 c10 c11 c12 c13 c14; obtain ⟨c0, c1, c2, c3, c4, c5, c6, c7, c8, c9, c10, c11, c12, c13, c14⟩ := id H3.out.ent)
                      | (at_builtin; go_loud (refine wpList_append_own _ rfl _ _ 22 rfl (w.heap.size + 2) 53 i0 (.agg #[.string { data := #[] }, .string { data := #[] }]) 2 32 Tryz.underlying22 hI2.out.1 hI2.out.2.1 hI2.out.2.2.1 hI2.out.2.2.2 rfl (by decide) _ _ _ (by rfl) (H3.out.own.alloc _) ⟨vH3.heap.size, 0, none⟩ 1 1 [.string ⟨#[117, 105, 100]⟩, .string (mkS DU)] rfl rfl (Px.cell_two_new vH3 53 (.string ⟨#[117, 105, 100]⟩) (.string (mkS DU))) (by simp [Value.oneCell']) (by have := HLn.out; (try simp only [List.length_append, List.length_cons, List.length_nil]); (try unfold maxLen); omega) (by have := HLn.out; (try simp only [List.length_append, List.length_cons, List.length_nil]); (try unfold maxLen); omega) (by rw [World.size_alloc]; have := H3.out.size; omega) ?_); intro v' w4 hown' hgrow _; have H4 := Lib.hid (H3.out.app (tmp := .cells #[.string ⟨#[117, 105, 100]⟩, .string (mkS DU)] 53) [(uidK, DU)] hown' hgrow); clear hown' hgrow; have k9 := row_cell H4.out.raw 7 _ rfl; have f9 := row_free H4.out.raw 7)
                      | fail)
                    go_meet
                    rw [HA1.out.1, HA1.out.2]
                    exact H4.out.store rfl
                  · obtain ⟨hA1, hA2⟩ := HU.out.2 (by omega)
                    go_wp2_with fail
                    go_meet
                    rw [hA1, hA2, List.append_nil]
                    exact H1.out
                case rest =>
                  have h := hcut
                  clear H1 hcut HU CIu
                  have H1 := Lib.hid h
                  clear h
                  rw [HR.out] at H1
                  clear HR HLn
                  obtain ⟨ad2, cap2, rfl, _, hP2⟩ := Px.sliceIs_of_row H1.out.own
                  go_upto_if 122 with fail
                  go_cut [17, 18, 20, 21] (fun s17 _ _ _ wx => s17 = .string (mkS XE) ∧ ExS w e (.slice ad n cap) (RE) uid gid e.data.length sec (.slice ad2 RE.length cap2) wx)
                  case first => as_aux_lemma =>
                    by_cases hre : RE = []
                    · have hx1 := hx0 hre
                      have hl0 : (RE.length : Int) = 0 := by rw [hre]; rfl
                      clear hre
                      go_wp2_with fail
                      go_meet
                      exact ⟨by rw [hx1]; rfl, H1.out⟩
                    · have hl0 : 0 < (RE.length : Int) := by have := List.length_pos_iff.2 hre; omega
                      have CR2 := Lib.hid (CRc.out ad2 cap2 _ hre H1.out.below hP2)
                      have CW3 := Lib.hid (CWx.out hre)
                      go_wp2_with (first
                        | (go_at_call 167; (with_reducible refine CR2.out.mono ?_); rintro r y2 ⟨rfl, g1⟩; have H2 := Lib.hid (H1.out.next g1); clear g1)
                        | (go_at_call 39; (with_reducible refine (CFi.out _).mono ?_); rintro r y3 ⟨rfl, g1⟩; have H3 := Lib.hid ((H2.out.next (below_alloc1 y2 (.cells #[.int .i64 0, .int .i64 (-1)] 31))).next g1); clear g1)
                        | (go_at_call 89; (with_reducible refine (CW3.out _).mono ?_); rintro r y4 ⟨rfl, g1⟩; have H4 := Lib.hid (H3.out.next g1); clear g1)
                        | fail)
                      go_meet
                      exact ⟨rfl, H4.out⟩
                  case rest =>
                    obtain ⟨rfl, h⟩ := hcut
                    clear H1 hP2 hx0 CRc CWx CFi
                    have H1 := Lib.hid h
                    clear h
                    obtain ⟨c0, c1, c2, c3, c4, c5, c6, c7, c8, c9, c10, c11, c12, c13, c14⟩ := id H1.out.ent
                    go_upto_if 146 with (first
                      | (go_at_call 88; (with_reducible refine (CP.out _).mono ?_); rintro r vH2 ⟨rfl, g1⟩; have H2 := Lib.hid (H1.out.next g1); clear g1 c0 c1 c2 c3 c4 c5 c6 c7 c8 c9 c10 c11 c12 c13 c14; obtain ⟨c0, c1, c2, c3, c4, c5, c6, c7, c8, c9, c10, c11, c12, c13, c14⟩ := id H2.out.ent)
                      | fail)
                    go_cut [22, 23] (fun s22 _ wx => s22 = .string (mkS PD) ∧ ∃ x, ExS w e (.slice ad n cap) (RE) uid gid (PD.length : Int) sec x wx)
                    case first => as_aux_lemma =>
                      cases sp with
                      | false =>
                        obtain ⟨hA1, hA2⟩ := HA.out.2 rfl
                        clear hA1
                        go_wp2_with fail
                        go_meet
                        exact ⟨by rw [hA2], _, by rw [hA2]; exact H2.out⟩
                      | true =>
                        have HA2 := (HA.out.1 rfl).2
                        rw [← HA2] at KD
                        clear HA2
                        obtain ⟨NL, hNL⟩ : ∃ NL : List UInt8, NL = [10] := ⟨_, rfl⟩
                        have HNL := Lib.hid hNL
                        have hnl : NL.length = 1 := by rw [hNL]; rfl
                        have b1 : ∀ (l : List UInt8) (h : l.length ≤ 100000) W, (Op.stringOp .add (mkS l) (⟨#[10]⟩ : ByteArray)).run Tryz.prog W = .ok (.string (mkS (l ++ NL))) W := fun l h W => by rw [hNL]; exact mkS_cat l [10] (by rw [List.length_singleton]; omega) W
                        clear hNL
                        have CI0 := Lib.hid (CIn.out (n : Int) (by omega) (by omega) _ H2.out.below)
                        have b0 := fun W => b1 (decN n) (by omega) W
                        have HL0b := Lib.hid (show decN n ++ NL = linesT e.map 0 by rw [HL0.out, ← hnm, HNL.out])
                        go_wp2_with (first
                          | (go_at_call 99; (with_reducible refine CI0.out.mono ?_); rintro r y2 ⟨rfl, g1⟩; have H3 := Lib.hid (H2.out.next g1); clear g1 c0 c1 c2 c3 c4 c5 c6 c7 c8 c9 c10 c11 c12 c13 c14; obtain ⟨c0, c1, c2, c3, c4, c5, c6, c7, c8, c9, c10, c11, c12, c13, c14⟩ := id H3.out.ent)
                          | fail)
                        clear c0 c1 c2 c3 c4 c5 c6 c7 c8 c9 c10 c11 c12 c13 c14
                        clear b0
                        go_loopg [155, 23] n (fun g s155 s23 wr => ∃ i : Nat, i ≤ n ∧ n - i ≤ g ∧ s155 = .int .i64 (i : Int) ∧ s23 = .string (mkS (linesT e.map i)) ∧ Aside (ExS w e (.slice ad n cap) (RE) uid gid e.data.length sec (.slice ad2 RE.length cap2) wr))
                        case atStart => exact ⟨0, by omega, by omega, rfl, by rw [HL0b.out], H3.out⟩
                        case round =>
                          obtain ⟨i, hi, hg, rfl, rfl, A⟩ := hrel
                          have hTl := HLT.out i
                          by_cases hin : i < n
                          · obtain ⟨p, hpp⟩ : ∃ p, e.map[i]? = some p := ⟨_, List.getElem?_eq_getElem (by omega)⟩
                            obtain ⟨b, off, rfl, hlt, c1, c2'⟩ := HM.out wr A.out.below i p hpp
                            obtain ⟨⟨z1, z2⟩, z3, z4⟩ := HOc.out p (List.mem_of_getElem? hpp)
                            have hix := fun W => idx_piece W b off n cap i hin
                            have HT := Lib.hid (HLS.out i p hpp)
                            have hd1 := decN_le (n := p.1) (by omega)
                            have hd2 := decN_le (n := p.2) (by omega)
                            have A1 := Lib.hid (A.out.next (below_alloc1 wr (.cells #[.int .i64 p.1, .int .i64 p.2] 97)))
                            have O1 := Lib.hid (fun W (h : Below w.heap.size w W) => CIn.out p.1 z1 z2 W h)
                            have O2 := Lib.hid (fun W (h : Below w.heap.size w W) => CIn.out p.2 z3 z4 W h)
                            have HW := heap_alloc_new wr (.cells #[.int .i64 p.1, .int .i64 p.2] 97)
                            have d0 := row_cell HW 0 _ rfl
                            have d1 := row_cell HW 1 _ rfl
                            clear hpp z1 z2 z3 z4 A HW
                            generalize linesT e.map i = S at *
                            generalize decN p.1 = X1 at *
                            generalize decN p.2 = Y1 at *
                            have e1 := fun W => b1 X1 (by omega) W
                            have e2 := fun W => mkS_cat (X1 ++ NL) Y1 (by simp only [List.length_append]; omega) W
                            simp only [List.append_assoc] at e2
                            have e3 := fun W => b1 (X1 ++ (NL ++ Y1)) (by simp only [List.length_append]; omega) W
                            simp only [List.append_assoc] at e3
                            have e4 := fun W => mkS_cat S (X1 ++ (NL ++ (Y1 ++ NL))) (by simp only [List.length_append]; omega) W
                            clear b1
                            go_upto_region 39 with fail
                            have v0 := fun d os => cell_regrown d0 d os
                            have v1 := fun d os => cell_regrown d1 d os
                            have hb3 := Lib.hid (fun d os => (A1.out.next (below_regrown _ d os)).below)
                            clear d0 d1
                            refine wp_region_quiet_below (by kernel_rfl) (by kernel_rfl) ?_
                            repeat (go_big_quiet_step (first | (go_at_call 99; with_reducible exact Calls.regrown_of (O1.out _ (hb3.out _ _))) | (go_at_call 99; with_reducible exact Calls.regrown_of (O2.out _ (hb3.out _ _))) | fail))
                            refine wpQuiet_nil ?_
                            intro _ hw'
                            obtain ⟨⟨dq, osq⟩, hw''⟩ := hw'
                            subst hw''
                            have HA9 := Lib.hid (A1.out.next (below_regrown _ dq osq))
                            clear v0 v1 hb3 e1 e2 e3 e4
                            dsimp only at *
                            generalize Sort.grow (redrawn _ dq) osq = w9 at *
                            go_wp2_with fail
                            go_roundg (n - (i + 1))
                            case measure => omega
                            case rel => exact ⟨i + 1, by omega, by omega, by first | rfl | simp, by rw [← HT.out, HNL.out]; simp only [List.append_assoc], HA9.out⟩
                          · obtain rfl : i = n := by omega
                            have HE := Lib.hid (show linesT e.map i = LS from HLA.out)
                            have CF2 := Lib.hid (fun W => show Calls Tryz.prog 163 #[.string (mkS (linesT e.map i))] W fun r w' => r = .returned (.string (mkS FS)) ∧ Below W.heap.size W w' by rw [HE.out]; exact CFl.out W)
                            generalize linesT e.map i = S at *
                            have k9 : ∀ (V : World), ExS w e (.slice ad i cap) (RE) uid gid e.data.length sec (.slice ad2 RE.length cap2) V → V.cell? ⟨w.heap.size, 9, none⟩ = some (.int .i64 (e.data.length : Int)) := fun V h => row_cell h.raw 9 _ rfl
                            go_wp2_with (first
                              | (go_at_call 163; (with_reducible refine (CF2.out _).mono ?_); rintro r y5 ⟨rfl, g1⟩; have H5 := Lib.hid (A.out.next g1); clear g1; have q9 := row_cell H5.out.raw 9 (.int .i64 (e.data.length : Int)) rfl; have f9 := row_free H5.out.raw 9)
                              | fail)
                            go_meet
                            exact ⟨rfl, _, H5.out.store rfl⟩
                    case rest =>
                      obtain ⟨rfl, x9, h⟩ := hcut
                      clear H1 H2
                      have H1 := Lib.hid h
                      clear h
                      have r0 := row_cell H1.out.raw 0 (.string ⟨#[]⟩) rfl
                      have r1 := row_cell H1.out.raw 1 (.string ⟨#[]⟩) rfl
                      have r2 := row_cell H1.out.raw 2 (.string (mkS e.user)) rfl
                      have r3 := row_cell H1.out.raw 3 (.string (mkS e.group)) rfl
                      have r4 := row_cell H1.out.raw 4 (.string ⟨#[]⟩) rfl
                      have r5 := row_cell H1.out.raw 5 (.int .u8 (e.kind.toNat : Int)) rfl
                      have r6 := row_cell H1.out.raw 6 (.int .i64 e.mode) rfl
                      have r7 := row_cell H1.out.raw 7 (.int .i64 uid) rfl
                      have r8 := row_cell H1.out.raw 8 (.int .i64 gid) rfl
                      have r9 := row_cell H1.out.raw 9 (.int .i64 (PD.length : Int)) rfl
                      have r10 := row_cell H1.out.raw 10 (.int .i64 sec) rfl
                      have r11 := row_cell H1.out.raw 11 (.int .i64 e.major) rfl
                      have r12 := row_cell H1.out.raw 12 (.int .i64 e.minor) rfl
                      go_wp2_with (first
                        | (go_at_call 89; (with_reducible refine (CW2.out _).mono ?_); rintro r y3 ⟨rfl, g1⟩; have H3 := Lib.hid (H1.out.next g1).below; clear g1)
                        | fail)
                      go_ret2
                      exact ⟨rfl, H3.out⟩
end Go.Proofs.YthnonmniponahaaGreatDoor
end
