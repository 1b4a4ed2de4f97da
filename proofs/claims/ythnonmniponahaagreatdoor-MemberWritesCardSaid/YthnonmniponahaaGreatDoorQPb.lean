/- Pb: what the texts of the name hold, joined. -/
import Derived.Test.YthnonmniponahaaGreatDoorQPa
import Derived.Test.YthnonmniponahaaGreatDoorQShelf
import Derived.Shelf.Strings.Builder1
import Derived.Shelf.Strings.BuilderF
set_option linter.unusedSimpArgs false
set_option linter.unusedVariables false
section
/- errors.As, api.Tell, plain.Place and the law's 'placed' at an error with its place (*api.At). -/
namespace Go.Proofs.YthnonmniponahaaGreatDoor.Px
set_option maxRecDepth 100000
open Go.RowKit Go.Extern.Stop Go.Stop Go.Extern

end Go.Proofs.YthnonmniponahaaGreatDoor.Px
end
section
/- api.Tell, plain.Place and the law's 'placed' at an error with its place (*api.At), at an Errno and at nil. -/
namespace Go.Proofs.YthnonmniponahaaGreatDoor.Px
open Go.RowKit Go.Extern.Stop Go.Stop Go.Extern Go.Joins

/-- A fault, as a value. -/
abbrev flV (e at_ : Int) : Value := .agg #[.int .i64 e, .int .i64 at_]

end Go.Proofs.YthnonmniponahaaGreatDoor.Px
end
section
/- strings.Builder at this program: WriteString, String, by the shelf's contracts. -/
namespace Go.Proofs.YthnonmniponahaaGreatDoor.Px
open Go.RowKit Go.Shelf

def bldRen : Go.Shelf.Ren := ⟨fun | 166 => 92 | 240 => 172 | 276 => 237 | n => n, fun | 0 => 0 | 3 => 3 | 4 => 4 | 9 => 9 | 20 => 20 | 37 => 142 | 70 => 141 | 72 => 144 | 75 => 35 | 164 => 178 | 5 => 5 | 76 => 146 | 80 => 110 | n => n, fun n => n⟩
theorem bld166 : Go.Proofs.Lays.n166 Tryz.prog bldRen := {
  mixed := by kernel_rfl
  f166 := Tryz.func92.trans (congrArg some (by kernel_rfl))
  f240 := Tryz.func172.trans (congrArg some (by kernel_rfl))
  f276 := Tryz.func237.trans (congrArg some (by kernel_rfl))
  t0 := Tryz.underlying0
  a0 := Tryz.isAgg0
  z0 := Tryz.sizeOf0
  v0 := Tryz.zeroValue0
  t3 := Tryz.underlying3
  a3 := Tryz.isAgg3
  z3 := Tryz.sizeOf3
  v3 := Tryz.zeroValue3
  t4 := Tryz.underlying4
  a4 := Tryz.isAgg4
  z4 := Tryz.sizeOf4
  v4 := Tryz.zeroValue4
  t9 := Tryz.underlying9
  a9 := Tryz.isAgg9
  z9 := Tryz.sizeOf9
  v9 := Tryz.zeroValue9
  t20 := Tryz.underlying20
  a20 := Tryz.isAgg20
  z20 := Tryz.sizeOf20
  v20 := Tryz.zeroValue20
  t37 := Tryz.underlying142
  a37 := Tryz.isAgg142
  z37 := Tryz.sizeOf142
  v37 := Tryz.zeroValue142
  t70 := Tryz.underlying141
  a70 := Tryz.isAgg141
  z70 := Tryz.sizeOf141
  v70 := Tryz.zeroValue141
  t72 := Tryz.underlying144
  a72 := Tryz.isAgg144
  z72 := Tryz.sizeOf144
  v72 := Tryz.zeroValue144
  t75 := Tryz.underlying35
  a75 := Tryz.isAgg35
  z75 := Tryz.sizeOf35
  v75 := Tryz.zeroValue35
  t164 := Tryz.underlying178
  a164 := Tryz.isAgg178
  z164 := Tryz.sizeOf178
  v164 := Tryz.zeroValue178 }
theorem bldX : Builder.Extra Tryz.prog bldRen := {
  sizeBuilder := by kernel_rfl
  liesBuilder := by kernel_rfl
  t5 := Tryz.underlying5
  a5 := Tryz.isAgg5
  z5 := Tryz.sizeOf5
  v5 := Tryz.zeroValue5
  infoByte := by kernel_rfl
  cellsByte := by kernel_rfl
  sizeByte := by kernel_rfl
  neB5 := by decide }
theorem bld_WriteString (B b : Nat) (bs : List Value) (s : ByteArray) (w : World) (h : Lib.IsBuilder 144 5 B b bs w) (hlen : bs.length + s.size ≤ 140737488355328) (hBw : B ≤ w.heap.size) :
    Calls Tryz.prog 92 #[.pointer (some ⟨b, 0, none⟩), .string s] w fun e w' => e = .returned (.tuple #[.int .i64 s.size, .nilIface]) ∧ (Lib.BuilderAt 144 5 B b (.pointer (some ⟨b, 0, none⟩)) (bs ++ Lib.strCells s) w' ∧ Below B w w') :=
  Any.Builder_WriteString bld166 bldX B b bs s w h hlen hBw
end Go.Proofs.YthnonmniponahaaGreatDoor.Px
end
section
/- Records one behind the other: the reference's Records. -/
namespace Go.Proofs.YthnonmniponahaaGreatDoor.Px
open Go.RowKit Go.Joins

def recsL (l : List (List UInt8 × List UInt8)) : List UInt8 := l.flatMap fun p => recL p.1 p.2
/-- The first i are valid. -/
def GoodTo (l : List (List UInt8 × List UInt8)) (i : Nat) : Prop := ∀ (j : Nat) p, j < i → l[j]? = some p → rightP p.1 p.2 = true
theorem recsL_take (l : List (List UInt8 × List UInt8)) (i : Nat) (p : List UInt8 × List UInt8) (h : l[i]? = some p) : recsL (l.take (i + 1)) = recsL (l.take i) ++ recL p.1 p.2 := by
  unfold recsL
  rw [List.take_add_one, h, List.flatMap_append]
  simp
theorem recsL_bound : ∀ (l : List (List UInt8 × List UInt8)), (∀ p ∈ l, rightP p.1 p.2 = true) → (recsL l).length ≤ 206 * l.length
  | [], _ => by simp [recsL]
  | p :: l, h => by
    have ih := recsL_bound l fun q hq => h q (List.mem_cons_of_mem _ hq)
    have h1 := (rightP_true p.1 p.2 (h p (List.mem_cons_self ..))).2.2
    have h2 := recL_length p.1 p.2 h1
    have h3 := lenOf_bound (p.1.length + p.2.length + 3)
    unfold recsL at ih ⊢
    rw [List.flatMap_cons, List.length_append, List.length_cons]
    omega
theorem recsL_take_bound (l : List (List UInt8 × List UInt8)) (i : Nat) (h : GoodTo l i) (hi : i ≤ 20) : (recsL (l.take i)).length ≤ 206 * 20 := by
  have := recsL_bound (l.take i) fun p hp => by
    obtain ⟨j, hj⟩ := List.mem_iff_getElem?.1 hp
    rw [List.getElem?_take] at hj
    split at hj
    · next hji => exact h j p hji hj
    · cases hj
  have h2 : (l.take i).length ≤ i := by simp; omega
  omega

theorem good_any (w : World) : Calls Tryz.prog 36 #[] w fun e w' => e = .returned (flV 0 (-1)) ∧ Below w.heap.size w w' := by
  go_enter Tryz.func36, Tryz.ntmps36
  go_wp2
  exact bodyPost_ret (v := flV 0 (-1)) (by simp [results, Tryz.results36, go_sem]) rfl ⟨rfl, below_alloc1 _ _⟩
/-- The struct result's block, as it was made. -/
def FlAt (W : World) (b : Nat) : Prop := b < W.heap.size ∧ W.cell? ⟨b, 0, none⟩ = some (.int .i64 0) ∧ W.cell? ⟨b, 1, none⟩ = some (.int .i64 0) ∧ W.frozen? ⟨b, 0, none⟩ = false ∧ W.frozen? ⟨b, 1, none⟩ = false
theorem FlAt.new (w : World) : FlAt (w.alloc (.cells #[.int .i64 0, .int .i64 0] 31)) w.heap.size := ⟨by simp, by simp, by simp, by simp, by simp⟩
theorem FlAt.below {W W' : World} {b : Nat} (h : FlAt W b) (hb : Below W.heap.size W W') : FlAt W' b :=
  ⟨Nat.lt_of_lt_of_le h.1 hb.size, (hb.cell (p := ⟨b, 0, none⟩) h.1).trans h.2.1, (hb.cell (p := ⟨b, 1, none⟩) h.1).trans h.2.2.1, (hb.frozen (p := ⟨b, 0, none⟩) h.1).trans h.2.2.2.1, (hb.frozen (p := ⟨b, 1, none⟩) h.1).trans h.2.2.2.2⟩
theorem FlAt.put {W : World} {b : Nat} (h : FlAt W b) (n m : Int) :
    ((W.setCell ⟨b, 0, none⟩ (.int .i64 n)).setCell ⟨b, 1, none⟩ (.int .i64 m)).cell? ⟨b, 0, none⟩ = some (.int .i64 n) ∧ ((W.setCell ⟨b, 0, none⟩ (.int .i64 n)).setCell ⟨b, 1, none⟩ (.int .i64 m)).cell? ⟨b, 1, none⟩ = some (.int .i64 m) := by
  obtain ⟨h0, h1, h2, _⟩ := h
  have e1 : (W.setCell ⟨b, 0, none⟩ (.int .i64 n)).cell? ⟨b, 0, none⟩ = some (.int .i64 n) := World.cell?_setCell_same' _ _ _ (by rw [h1]; rfl)
  have e2 : (W.setCell ⟨b, 0, none⟩ (.int .i64 n)).cell? ⟨b, 1, none⟩ = some (.int .i64 0) := by rw [World.cell?_setCell_other _ _ _ _ (by simp)]; exact h2
  exact ⟨by rw [World.cell?_setCell_other _ _ _ _ (by simp)]; exact e1, World.cell?_setCell_same' _ _ _ (by rw [e2]; rfl)⟩
theorem below_store {w W : World} (h : Below w.heap.size w W) (b o : Nat) (hb : w.heap.size ≤ b) (v : Value) : Below w.heap.size w (W.setCell ⟨b, o, none⟩ v) := h.setCell (p := ⟨b, o, none⟩) hb v

/-- What Records hands back where the first m are valid and the m-th isn't. -/
def recsV (l : List (List UInt8 × List UInt8)) (m : Nat) : Value := if m = l.length then .tuple #[.string (mkS (recsL l)), flV 0 (-1)] else .tuple #[.string (mkS []), flV 1 m]
theorem recsV_bad (l : List (List UInt8 × List UInt8)) (m : Nat) (h : m < l.length) : recsV l m = .tuple #[.string (mkS []), flV 1 m] := by unfold recsV; rw [if_neg (by omega)]
theorem recsV_all (l : List (List UInt8 × List UInt8)) : recsV l l.length = .tuple #[.string (mkS (recsL l)), flV 0 (-1)] := by unfold recsV; rw [if_pos rfl]

set_option maxHeartbeats 2000000 in
set_option maxRecDepth 100000 in
theorem refRecords_row (b off : Nat) (cap : Nat) (l : List (List UInt8 × List UInt8)) (h20 : l.length ≤ 20) (hz : ∀ p ∈ l, p.1.length ≤ 100000 ∧ p.2.length ≤ 100000) (m : Nat) (hm : m ≤ l.length) (hG : GoodTo l m) (hB : ∀ p, l[m]? = some p → rightP p.1 p.2 = false)
    (w : World) (hp : PowLaid w) (hlt : b < w.heap.size) (hR : RowAt w b off l) :
    Calls Tryz.prog 167 #[.slice (some ⟨b, off, none⟩) l.length cap] w fun e w' => e = .returned (recsV l m) ∧ Below w.heap.size w w' := by
  have hF := FlAt.new w
  have hb0 := below_alloc1 w (.cells #[.int .i64 0, .int .i64 0] 31)
  have HR := Lib.hid (show ∀ w', Below w.heap.size w w' → RowAt w' b off l from fun w' hb => RowAt.below hlt hR hb)
  have HP := Lib.hid (show ∀ w1, Below w.heap.size w w1 → PowLaid w1 from fun w1 h1 => hp.below h1)
  have HZ := Lib.hid hz
  have HG := Lib.hid hG
  have HB := Lib.hid hB
  have G := Lib.hid good_any
  have hF0 := Lib.hid (And.intro hb0 hF)
  clear hR hp hz hG hB hlt hb0 hF
  go_enter Tryz.func167, Tryz.ntmps167
  go_wp2
  go_loopg [15, 4] m (fun g s15 s4 wr => ∃ i : Nat, i ≤ m ∧ m - i ≤ g ∧ s15 = .int .i64 i ∧ s4 = .string (mkS (recsL (l.take i))) ∧ Aside (Below w.heap.size w wr ∧ FlAt wr w.heap.size))
  case atStart => exact ⟨0, by omega, by omega, rfl, rfl, hF0.out⟩
  case round =>
    obtain ⟨i, hi, hg, rfl, rfl, A⟩ := hrel
    by_cases hil : i < l.length
    · obtain ⟨q, hq⟩ : ∃ p, l[i]? = some p := ⟨_, List.getElem?_eq_getElem hil⟩
      obtain ⟨c1, c2⟩ := HR.out wr A.out.1 i q hq
      obtain ⟨hz1, hz2⟩ := HZ.out q (List.mem_of_getElem? hq)
      have hX := recsL_take l i q hq
      have HQ := Lib.hid hq
      clear hq
      have hb1 := (A.out.1.alloc A.out.1.size (.cells #[.string (mkS q.1), .string (mkS q.2)] 53))
      have hf1 := A.out.2.below (below_alloc1 wr (.cells #[.string (mkS q.1), .string (mkS q.2)] 53))
      have A1 := Lib.hid (And.intro hb1 hf1)
      clear hb1 hf1
      by_cases him : i = m
      · subst him
        have R := Lib.hid (fun w => refRecord_bad q.1 q.2 hz1 hz2 (HB.out q HQ.out) w)
        clear hX
        generalize recsL (l.take i) = T at *
        go_wp2_with (go_at_call 78; refine (R.out _).mono ?_; rintro e w2 ⟨rfl, h2⟩; obtain ⟨f0, f1, f2, f3, f4⟩ := A1.out.2.below h2)
        obtain ⟨g0, g1⟩ := (A1.out.2.below h2).put 1 i
        refine bodyPost_ret (v := .tuple #[.string (mkS []), flV 1 i]) (by simp [results, Tryz.results167, go_sem, g0, g1]; rfl) rfl ⟨by rw [recsV_bad l i hil], below_store (below_store (A1.out.1.trans (h2.mono A1.out.1.size)) _ _ (Nat.le_refl _) _) _ _ (Nat.le_refl _) _⟩
      · have hgood := HG.out i q (by omega) HQ.out
        have R := Lib.hid (fun w hp => refRecord_ok q.1 q.2 hgood w hp)
        have hlen := recL_length q.1 q.2 (rightP_true q.1 q.2 hgood).2.2
        have hbd := lenOf_bound (q.1.length + q.2.length + 3)
        have hl2 := (rightP_true q.1 q.2 hgood).2.2
        have htk := recsL_take_bound l i (fun j p hj => HG.out j p (by omega)) (by omega)
        have hC : ∀ w, (Op.stringOp .add (mkS (recsL (l.take i))) (mkS (recL q.1 q.2))).run Tryz.prog w = .ok (.string (mkS (recsL (l.take (i + 1))))) w := fun w => by
          rw [hX]; exact mkS_cat _ _ (by omega) w
        clear hX hlen hbd hl2 htk hgood
        generalize recsL (l.take i) = T at *
        generalize hT2 : recsL (l.take (i + 1)) = T2 at *
        generalize recL q.1 q.2 = T1 at *
        have HT := Lib.hid hT2
        clear hT2
        go_wp2_with (go_at_call 78; refine (R.out _ (HP.out _ A1.out.1)).mono ?_; rintro e w2 ⟨rfl, h2⟩)
        go_roundg (m - (i + 1))
        case measure => omega
        case rel => exact ⟨i + 1, by omega, by omega, by first | rfl | simp, by rw [HT.out], (show Aside _ from ⟨A1.out.1.trans (h2.mono A1.out.1.size), A1.out.2.below h2⟩)⟩
    · obtain rfl : i = l.length := by omega
      obtain rfl : m = l.length := by omega
      rw [List.take_length]
      go_wp2_with (go_at_call 36; refine (G.out _).mono ?_; rintro e w2 ⟨rfl, h2⟩; obtain ⟨f0, f1, f2, f3, f4⟩ := A.out.2.below h2)
      obtain ⟨g0, g1⟩ := (A.out.2.below h2).put 0 (-1)
      refine bodyPost_ret (v := .tuple #[.string (mkS (recsL l)), flV 0 (-1)]) (by simp [results, Tryz.results167, go_sem, g0, g1]) rfl ⟨by rw [recsV_all], below_store (below_store (A.out.1.trans (h2.mono A.out.1.size)) _ _ (Nat.le_refl _) _) _ _ (Nat.le_refl _) _⟩
end Go.Proofs.YthnonmniponahaaGreatDoor.Px
end
section
/- pax.Write: records one behind the other, or the first fault. -/
namespace Go.Proofs.YthnonmniponahaaGreatDoor.Px
open Go.RowKit Go.Joins

theorem own_below {w w' : World} {B e size n : Nat} {v : Value} {xs : List Value} (h : w.ownsRow B e size v n xs) (hb : Below w.heap.size w w') : w'.ownsRow B e size v n xs := by
  obtain ⟨h1, h2⟩ := h
  refine ⟨h1, ?_⟩
  rcases h2 with h2 | ⟨g, cap, cur, e1, e2, e3, e4, e5, e6, e7⟩
  · exact Or.inl h2
  · exact Or.inr ⟨g, cap, cur, e1, e2, (hb.block _ (Array.getElem?_eq_some_iff.1 e3).1).trans e3, e4, e5, e6, e7⟩
theorem builder_below {T e B b : Nat} {bs : List Value} {w w' : World} (h : Lib.IsBuilder T e B b bs w) (hb : Below w.heap.size w w') : Lib.IsBuilder T e B b bs w' := by
  rcases h with ⟨h1, v, h2, h3, h4⟩ | ⟨h1, v, h2, h3, h4⟩
  · exact Or.inl ⟨h1, v, (hb.block _ (Array.getElem?_eq_some_iff.1 h2).1).trans h2, own_below h3 hb, h4⟩
  · exact Or.inr ⟨h1, v, (hb.block _ (Array.getElem?_eq_some_iff.1 h2).1).trans h2, own_below h3 hb, h4⟩

/-- What Write hands back where the first m are valid and the m-th isn't. -/
def WriteIs (l : List (List UInt8 × List UInt8)) (m : Nat) (e : Ending) (w' : World) : Prop :=
  (m = l.length ∧ e = .returned (.tuple #[.string (mkS (recsL l)), .nilIface])) ∨
  (m < l.length ∧ ∃ pb, e = .returned (.tuple #[.string (mkS []), .iface 84 (.pointer (some ⟨pb, 0, none⟩))]) ∧ w'.cell? ⟨pb, 0, none⟩ = some (.int .i64 1) ∧ w'.cell? ⟨pb, 1, none⟩ = some (.int .i64 m))

set_option maxHeartbeats 2000000 in
set_option maxRecDepth 100000 in
theorem write_row (b off : Nat) (cap : Nat) (l : List (List UInt8 × List UInt8)) (h20 : l.length ≤ 20) (hz : ∀ p ∈ l, p.1.length ≤ 100000 ∧ p.2.length ≤ 100000) (m : Nat) (hm : m ≤ l.length) (hG : GoodTo l m) (hB : ∀ p, l[m]? = some p → rightP p.1 p.2 = false)
    (w : World) (hp : PowLaid w) (hlt : b < w.heap.size) (hR : RowAt w b off l) :
    Calls Tryz.prog 182 #[.slice (some ⟨b, off, none⟩) l.length cap] w fun e w' => WriteIs l m e w' ∧ Below w.heap.size w w' := by
  have hF := Lib.fresh_isBuilder 144 5 w
  have hb0 := below_alloc1 w (.cells #[.pointer none, .slice none 0 0] 144)
  have HR := Lib.hid (show ∀ w', Below w.heap.size w w' → RowAt w' b off l from fun w' hb => RowAt.below hlt hR hb)
  have HP := Lib.hid (show ∀ w1, Below w.heap.size w w1 → PowLaid w1 from fun w1 h1 => hp.below h1)
  have HZ := Lib.hid hz
  have HG := Lib.hid hG
  have HB := Lib.hid hB
  have hF0 := Lib.hid (And.intro hb0 (show Lib.IsBuilder 144 5 w.heap.size w.heap.size (Lib.byteCells (recsL (l.take 0))) (w.alloc (.cells #[.pointer none, .slice none 0 0] 144)) from hF))
  have HW := Lib.hid (show ∀ (i : Nat) (q : List UInt8 × List UInt8) W, i < m → l[i]? = some q → Lib.IsBuilder 144 5 w.heap.size w.heap.size (Lib.byteCells (recsL (l.take i))) W → w.heap.size ≤ W.heap.size →
      Calls Tryz.prog 92 #[.pointer (some ⟨w.heap.size, 0, none⟩), .string (mkS (recL q.1 q.2))] W fun e w' => (∃ v, e = .returned v) ∧ Lib.IsBuilder 144 5 w.heap.size w.heap.size (Lib.byteCells (recsL (l.take (i + 1)))) w' ∧ Below w.heap.size W w' from fun i q W hi hq hW hs => by
    have hg := hG i q hi hq
    have h1 := recL_length q.1 q.2 (rightP_true q.1 q.2 hg).2.2
    have h2 := lenOf_bound (q.1.length + q.2.length + 3)
    have h3 := (rightP_true q.1 q.2 hg).2.2
    have h4 := recsL_take_bound l i (fun j p hj => hG j p (by omega)) (by omega)
    refine (bld_WriteString w.heap.size w.heap.size _ (mkS (recL q.1 q.2)) W hW (by rw [Lib.byteCells_length, mkS_size]; omega) hs).mono fun e w' ⟨h5, h6, h7⟩ => ⟨⟨_, h5⟩, Or.inr ?_, h7⟩
    rw [recsL_take l i q hq]
    have hc : Lib.byteCells (recsL (l.take i)) ++ Lib.strCells (mkS (recL q.1 q.2)) = Lib.byteCells (recsL (l.take i) ++ recL q.1 q.2) := by
      unfold Lib.strCells Lib.byteCells; rw [mkS_list, List.map_append]
    rw [hc] at h6
    exact h6)
  have HS := Lib.hid (show ∀ W, Lib.IsBuilder 144 5 w.heap.size w.heap.size (Lib.byteCells (recsL l)) W → w.heap.size ≤ W.heap.size → Calls Tryz.prog 97 #[.pointer (some ⟨w.heap.size, 0, none⟩)] W fun e w' => e = .returned (.string (mkS (recsL l))) ∧ Below w.heap.size W w' from fun W h1 h2 => bld_String w.heap.size w.heap.size (recsL l) W h1 h2)
  clear hR hp hz hG hB hlt hb0 hF
  go_enter Tryz.func182, Tryz.ntmps182
  go_wp2
  go_loopg [15] m (fun g s15 wr => ∃ i : Nat, i ≤ m ∧ m - i ≤ g ∧ s15 = .int .i64 i ∧ Aside (Below w.heap.size w wr ∧ Lib.IsBuilder 144 5 w.heap.size w.heap.size (Lib.byteCells (recsL (l.take i))) wr))
  case atStart => exact ⟨0, by omega, by omega, rfl, hF0.out⟩
  case round =>
    obtain ⟨i, hi, hg, rfl, A⟩ := hrel
    by_cases hil : i < l.length
    · obtain ⟨q, hq⟩ : ∃ p, l[i]? = some p := ⟨_, List.getElem?_eq_getElem hil⟩
      obtain ⟨c1, c2⟩ := HR.out wr A.out.1 i q hq
      obtain ⟨hz1, hz2⟩ := HZ.out q (List.mem_of_getElem? hq)
      have HQ := Lib.hid hq
      clear hq
      have hb1 := (A.out.1.alloc A.out.1.size (.cells #[.string (mkS q.1), .string (mkS q.2)] 53))
      have hf1 := builder_below A.out.2 (below_alloc1 wr (.cells #[.string (mkS q.1), .string (mkS q.2)] 53))
      have A1 := Lib.hid (And.intro hb1 hf1)
      clear hb1 hf1
      by_cases him : i = m
      · subst him
        have R := Lib.hid (fun w => record_bad q.1 q.2 hz1 hz2 (HB.out q HQ.out) w)
        go_wp2_with (go_at_call 241; refine (R.out _).mono ?_; rintro e w2 ⟨rfl, h2⟩)
        go_ret2
        have h3 := A1.out.1.trans (h2.mono A1.out.1.size)
        exact ⟨Or.inr ⟨hil, w2.heap.size, rfl, by simp, by simp⟩, h3.alloc h3.size _⟩
      · have R := Lib.hid (fun w hp => record_ok q.1 q.2 (HG.out i q (by omega) HQ.out) w hp)
        have HW2 := Lib.hid (fun W => HW.out i q W (by omega) HQ.out)
        generalize recL q.1 q.2 = T1 at *
        go_wp2_with (first
          | (go_at_call 241; refine (R.out _ (HP.out _ A1.out.1)).mono ?_; rintro e w2 ⟨rfl, h2⟩)
          | (go_at_call 92; refine (HW2.out _ (builder_below A1.out.2 h2) (A1.out.1.trans (h2.mono A1.out.1.size)).size).mono ?_; rintro e w3 ⟨⟨v, rfl⟩, h3, h4⟩))
        go_roundg (m - (i + 1))
        case measure => omega
        case rel => exact ⟨i + 1, by omega, by omega, by first | rfl | simp, (show Aside _ from ⟨(A1.out.1.trans (h2.mono A1.out.1.size)).trans h4, h3⟩)⟩
    · obtain rfl : i = l.length := by omega
      obtain rfl : m = l.length := by omega
      rw [List.take_length] at A
      go_wp2_with (go_at_call 97; refine (HS.out _ A.out.2 A.out.1.size).mono ?_; rintro e w2 ⟨rfl, h2⟩)
      go_ret2
      exact ⟨Or.inl ⟨rfl, rfl⟩, A.out.1.trans h2⟩
end Go.Proofs.YthnonmniponahaaGreatDoor.Px
end
