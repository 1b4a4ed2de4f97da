/- Records one behind the other: the reference's Records. -/
import Derived.Test.YtheiamidochooaaDoorRef
import Derived.Test.YtheiamidochooaaDoorHvy
import Derived.Test.YtheiamidochooaaDoorPlace
import Derived.Test.YtheiamidochooaaDoorBldr
namespace Go.Proofs.YtheiamidochooaaDoor
open Go.RowKit Go.Joins

def recsL (l : List (List UInt8 × List UInt8)) : List UInt8 := l.flatMap fun p => recL p.1 p.2
/-- The first i are valid. -/
def GoodTo (l : List (List UInt8 × List UInt8)) (i : Nat) : Prop := ∀ (j : Nat) p, j < i → l[j]? = some p → rightP p.1 p.2 = true
theorem recsL_take (l : List (List UInt8 × List UInt8)) (i : Nat) (p : List UInt8 × List UInt8) (h : l[i]? = some p) : recsL (l.take (i + 1)) = recsL (l.take i) ++ recL p.1 p.2 := by
  unfold recsL
  rw [List.take_add_one, h, List.flatMap_append]
  simp
theorem recsL_bound : ∀ (l : List (List UInt8 × List UInt8)), (∀ p ∈ l, rightP p.1 p.2 = true) → (recsL l).length ≤ 206 * l.length
  | [], _ => by simp [recsL]
  | p :: l, h => by
    have ih := recsL_bound l fun q hq => h q (List.mem_cons_of_mem _ hq)
    have h1 := (rightP_true p.1 p.2 (h p (List.mem_cons_self ..))).2.2
    have h2 := recL_length p.1 p.2 h1
    have h3 := lenOf_bound (p.1.length + p.2.length + 3)
    unfold recsL at ih ⊢
    rw [List.flatMap_cons, List.length_append, List.length_cons]
    omega
theorem recsL_take_bound (l : List (List UInt8 × List UInt8)) (i : Nat) (h : GoodTo l i) (hi : i ≤ 20) : (recsL (l.take i)).length ≤ 206 * 20 := by
  have := recsL_bound (l.take i) fun p hp => by
    obtain ⟨j, hj⟩ := List.mem_iff_getElem?.1 hp
    rw [List.getElem?_take] at hj
    split at hj
    · next hji => exact h j p hji hj
    · cases hj
  have h2 : (l.take i).length ≤ i := by simp; omega
  omega

theorem good_any (w : World) : Calls Tryd.prog 39 #[] w fun e w' => e = .returned (flV 0 (-1)) ∧ Below w.heap.size w w' := by
  go_enter Tryd.func39, Tryd.ntmps39
  go_wp2
  exact bodyPost_ret (v := flV 0 (-1)) (by simp [results, Tryd.results39, go_sem]) rfl ⟨rfl, below_alloc1 _ _⟩
theorem bareF_any (n : Int) (w : World) : Calls Tryd.prog 46 #[.int .i64 n] w fun e w' => e = .returned (flV n (-1)) ∧ Below w.heap.size w w' := by
  go_enter Tryd.func46, Tryd.ntmps46
  go_wp2
  exact bodyPost_ret (v := flV n (-1)) (by simp [results, Tryd.results46, go_sem]) rfl ⟨rfl, below_alloc1 _ _⟩

/-- The struct result's block, as it was made. -/
def FlAt (W : World) (b : Nat) : Prop := b < W.heap.size ∧ W.cell? ⟨b, 0, none⟩ = some (.int .i64 0) ∧ W.cell? ⟨b, 1, none⟩ = some (.int .i64 0) ∧ W.frozen? ⟨b, 0, none⟩ = false ∧ W.frozen? ⟨b, 1, none⟩ = false
theorem FlAt.new (w : World) : FlAt (w.alloc (.cells #[.int .i64 0, .int .i64 0] 25)) w.heap.size := ⟨by simp, by simp, by simp, by simp, by simp⟩
theorem FlAt.below {W W' : World} {b : Nat} (h : FlAt W b) (hb : Below W.heap.size W W') : FlAt W' b :=
  ⟨Nat.lt_of_lt_of_le h.1 hb.size, (hb.cell (p := ⟨b, 0, none⟩) h.1).trans h.2.1, (hb.cell (p := ⟨b, 1, none⟩) h.1).trans h.2.2.1, (hb.frozen (p := ⟨b, 0, none⟩) h.1).trans h.2.2.2.1, (hb.frozen (p := ⟨b, 1, none⟩) h.1).trans h.2.2.2.2⟩
theorem FlAt.put {W : World} {b : Nat} (h : FlAt W b) (n m : Int) :
    ((W.setCell ⟨b, 0, none⟩ (.int .i64 n)).setCell ⟨b, 1, none⟩ (.int .i64 m)).cell? ⟨b, 0, none⟩ = some (.int .i64 n) ∧ ((W.setCell ⟨b, 0, none⟩ (.int .i64 n)).setCell ⟨b, 1, none⟩ (.int .i64 m)).cell? ⟨b, 1, none⟩ = some (.int .i64 m) := by
  obtain ⟨h0, h1, h2, _⟩ := h
  have e1 : (W.setCell ⟨b, 0, none⟩ (.int .i64 n)).cell? ⟨b, 0, none⟩ = some (.int .i64 n) := World.cell?_setCell_same' _ _ _ (by rw [h1]; rfl)
  have e2 : (W.setCell ⟨b, 0, none⟩ (.int .i64 n)).cell? ⟨b, 1, none⟩ = some (.int .i64 0) := by rw [World.cell?_setCell_other _ _ _ _ (by simp)]; exact h2
  exact ⟨by rw [World.cell?_setCell_other _ _ _ _ (by simp)]; exact e1, World.cell?_setCell_same' _ _ _ (by rw [e2]; rfl)⟩
theorem below_store {w W : World} (h : Below w.heap.size w W) (b o : Nat) (hb : w.heap.size ≤ b) (v : Value) : Below w.heap.size w (W.setCell ⟨b, o, none⟩ v) := h.setCell (p := ⟨b, o, none⟩) hb v

set_option maxHeartbeats 1000000 in
theorem refRecords_many (ad : Option Addr) (cap : Nat) (l : List (List UInt8 × List UInt8)) (hl : l.length ≤ maxLen) (h20 : 20 < l.length) (w : World) :
    Calls Tryd.prog 19 #[.slice ad l.length cap] w fun e w' => e = .returned (.tuple #[.string (mkS []), flV 4 (-1)]) ∧ Below w.heap.size w w' := by
  unfold maxLen at hl
  have h20' : (20 : Int) < (l.length : Int) := by omega
  have hF := FlAt.new w
  have hb0 := below_alloc1 w (.cells #[.int .i64 0, .int .i64 0] 25)
  have B := Lib.hid (bareF_any 4)
  clear h20
  go_enter Tryd.func19, Tryd.ntmps19
  go_wp2_with (go_at_call 46; refine (B.out _).mono ?_; rintro e w1 ⟨rfl, h1⟩; obtain ⟨f0, f1, f2, f3, f4⟩ := hF.below h1)
  obtain ⟨g0, g1⟩ := (hF.below h1).put 4 (-1)
  refine bodyPost_ret (v := .tuple #[.string (mkS []), flV 4 (-1)]) (by simp [results, Tryd.results19, go_sem, g0, g1]; rfl) rfl ⟨rfl, below_store (below_store (hb0.trans (h1.mono hb0.size)) _ _ (Nat.le_refl _) _) _ _ (Nat.le_refl _) _⟩

/-- What Records hands back where the first m are valid and the m-th isn't. -/
def recsV (l : List (List UInt8 × List UInt8)) (m : Nat) : Value := if m = l.length then .tuple #[.string (mkS (recsL l)), flV 0 (-1)] else .tuple #[.string (mkS []), flV 1 m]
theorem recsV_bad (l : List (List UInt8 × List UInt8)) (m : Nat) (h : m < l.length) : recsV l m = .tuple #[.string (mkS []), flV 1 m] := by unfold recsV; rw [if_neg (by omega)]
theorem recsV_all (l : List (List UInt8 × List UInt8)) : recsV l l.length = .tuple #[.string (mkS (recsL l)), flV 0 (-1)] := by unfold recsV; rw [if_pos rfl]

set_option maxHeartbeats 2000000 in
set_option maxRecDepth 100000 in
theorem refRecords_row (b off : Nat) (cap : Nat) (l : List (List UInt8 × List UInt8)) (h20 : l.length ≤ 20) (hz : ∀ p ∈ l, p.1.length ≤ 100000 ∧ p.2.length ≤ 100000) (m : Nat) (hm : m ≤ l.length) (hG : GoodTo l m) (hB : ∀ p, l[m]? = some p → rightP p.1 p.2 = false)
    (w : World) (hp : PowLaid w) (hlt : b < w.heap.size) (hR : RowAt w b off l) :
    Calls Tryd.prog 19 #[.slice (some ⟨b, off, none⟩) l.length cap] w fun e w' => e = .returned (recsV l m) ∧ Below w.heap.size w w' := by
  have hF := FlAt.new w
  have hb0 := below_alloc1 w (.cells #[.int .i64 0, .int .i64 0] 25)
  have HR := Lib.hid (show ∀ w', Below w.heap.size w w' → RowAt w' b off l from fun w' hb => RowAt.below hlt hR hb)
  have HP := Lib.hid (show ∀ w1, Below w.heap.size w w1 → PowLaid w1 from fun w1 h1 => hp.below h1)
  have HZ := Lib.hid hz
  have HG := Lib.hid hG
  have HB := Lib.hid hB
  have G := Lib.hid good_any
  have hF0 := Lib.hid (And.intro hb0 hF)
  clear hR hp hz hG hB hlt hb0 hF
  go_enter Tryd.func19, Tryd.ntmps19
  go_wp2
  go_loopg [15, 4] m (fun g s15 s4 wr => ∃ i : Nat, i ≤ m ∧ m - i ≤ g ∧ s15 = .int .i64 i ∧ s4 = .string (mkS (recsL (l.take i))) ∧ Aside (Below w.heap.size w wr ∧ FlAt wr w.heap.size))
  case atStart => exact ⟨0, by omega, by omega, rfl, rfl, hF0.out⟩
  case round =>
    obtain ⟨i, hi, hg, rfl, rfl, A⟩ := hrel
    by_cases hil : i < l.length
    · obtain ⟨q, hq⟩ : ∃ p, l[i]? = some p := ⟨_, List.getElem?_eq_getElem hil⟩
      obtain ⟨c1, c2⟩ := HR.out wr A.out.1 i q hq
      obtain ⟨hz1, hz2⟩ := HZ.out q (List.mem_of_getElem? hq)
      have hX := recsL_take l i q hq
      have HQ := Lib.hid hq
      clear hq
      have hb1 := (A.out.1.alloc A.out.1.size (.cells #[.string (mkS q.1), .string (mkS q.2)] 36))
      have hf1 := A.out.2.below (below_alloc1 wr (.cells #[.string (mkS q.1), .string (mkS q.2)] 36))
      have A1 := Lib.hid (And.intro hb1 hf1)
      clear hb1 hf1
      by_cases him : i = m
      · subst him
        have R := Lib.hid (fun w => refRecord_bad q.1 q.2 hz1 hz2 (HB.out q HQ.out) w)
        clear hX
        generalize recsL (l.take i) = T at *
        go_wp2_with (go_at_call 15; refine (R.out _).mono ?_; rintro e w2 ⟨rfl, h2⟩; obtain ⟨f0, f1, f2, f3, f4⟩ := A1.out.2.below h2)
        obtain ⟨g0, g1⟩ := (A1.out.2.below h2).put 1 i
        refine bodyPost_ret (v := .tuple #[.string (mkS []), flV 1 i]) (by simp [results, Tryd.results19, go_sem, g0, g1]; rfl) rfl ⟨by rw [recsV_bad l i hil], below_store (below_store (A1.out.1.trans (h2.mono A1.out.1.size)) _ _ (Nat.le_refl _) _) _ _ (Nat.le_refl _) _⟩
      · have hgood := HG.out i q (by omega) HQ.out
        have R := Lib.hid (fun w hp => refRecord_ok q.1 q.2 hgood w hp)
        have hlen := recL_length q.1 q.2 (rightP_true q.1 q.2 hgood).2.2
        have hbd := lenOf_bound (q.1.length + q.2.length + 3)
        have hl2 := (rightP_true q.1 q.2 hgood).2.2
        have htk := recsL_take_bound l i (fun j p hj => HG.out j p (by omega)) (by omega)
        have hC : ∀ w, (Op.stringOp .add (mkS (recsL (l.take i))) (mkS (recL q.1 q.2))).run Tryd.prog w = .ok (.string (mkS (recsL (l.take (i + 1))))) w := fun w => by
          rw [hX]; exact mkS_cat _ _ (by omega) w
        clear hX hlen hbd hl2 htk hgood
        generalize recsL (l.take i) = T at *
        generalize hT2 : recsL (l.take (i + 1)) = T2 at *
        generalize recL q.1 q.2 = T1 at *
        have HT := Lib.hid hT2
        clear hT2
        go_wp2_with (go_at_call 15; refine (R.out _ (HP.out _ A1.out.1)).mono ?_; rintro e w2 ⟨rfl, h2⟩)
        go_roundg (m - (i + 1))
        case measure => omega
        case rel => exact ⟨i + 1, by omega, by omega, by first | rfl | simp, by rw [HT.out], (show Aside _ from ⟨A1.out.1.trans (h2.mono A1.out.1.size), A1.out.2.below h2⟩)⟩
    · obtain rfl : i = l.length := by omega
      obtain rfl : m = l.length := by omega
      rw [List.take_length]
      go_wp2_with (go_at_call 39; refine (G.out _).mono ?_; rintro e w2 ⟨rfl, h2⟩; obtain ⟨f0, f1, f2, f3, f4⟩ := A.out.2.below h2)
      obtain ⟨g0, g1⟩ := (A.out.2.below h2).put 0 (-1)
      refine bodyPost_ret (v := .tuple #[.string (mkS (recsL l)), flV 0 (-1)]) (by simp [results, Tryd.results19, go_sem, g0, g1]) rfl ⟨by rw [recsV_all], below_store (below_store (A.out.1.trans (h2.mono A.out.1.size)) _ _ (Nat.le_refl _) _) _ _ (Nat.le_refl _) _⟩
end Go.Proofs.YtheiamidochooaaDoor
