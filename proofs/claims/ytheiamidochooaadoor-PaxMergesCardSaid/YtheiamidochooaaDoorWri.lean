/- pax.Write: records one behind the other, or the first fault. -/
import Derived.Test.YtheiamidochooaaDoorRecs
namespace Go.Proofs.YtheiamidochooaaDoor
open Go.RowKit Go.Joins

theorem own_below {w w' : World} {B e size n : Nat} {v : Value} {xs : List Value} (h : w.ownsRow B e size v n xs) (hb : Below w.heap.size w w') : w'.ownsRow B e size v n xs := by
  obtain ⟨h1, h2⟩ := h
  refine ⟨h1, ?_⟩
  rcases h2 with h2 | ⟨g, cap, cur, e1, e2, e3, e4, e5, e6, e7⟩
  · exact Or.inl h2
  · exact Or.inr ⟨g, cap, cur, e1, e2, (hb.block _ (Array.getElem?_eq_some_iff.1 e3).1).trans e3, e4, e5, e6, e7⟩
theorem builder_below {T e B b : Nat} {bs : List Value} {w w' : World} (h : Lib.IsBuilder T e B b bs w) (hb : Below w.heap.size w w') : Lib.IsBuilder T e B b bs w' := by
  rcases h with ⟨h1, v, h2, h3, h4⟩ | ⟨h1, v, h2, h3, h4⟩
  · exact Or.inl ⟨h1, v, (hb.block _ (Array.getElem?_eq_some_iff.1 h2).1).trans h2, own_below h3 hb, h4⟩
  · exact Or.inr ⟨h1, v, (hb.block _ (Array.getElem?_eq_some_iff.1 h2).1).trans h2, own_below h3 hb, h4⟩

theorem write_many (ad : Option Addr) (cap : Nat) (l : List (List UInt8 × List UInt8)) (hl : l.length ≤ maxLen) (h20 : 20 < l.length) (w : World) :
    Calls Tryd.prog 20 #[.slice ad l.length cap] w fun e w' => e = .returned (.tuple #[.string (mkS []), .iface 23 (.int .i64 4)]) ∧ Below w.heap.size w w' := by
  unfold maxLen at hl
  have h20' : (20 : Int) < (l.length : Int) := by omega
  clear h20
  go_enter Tryd.func20, Tryd.ntmps20
  go_wp2
  go_ret2
  exact ⟨rfl, Below.refl _ _⟩

/-- What Write hands back where the first m are valid and the m-th isn't. -/
def WriteIs (l : List (List UInt8 × List UInt8)) (m : Nat) (e : Ending) (w' : World) : Prop :=
  (m = l.length ∧ e = .returned (.tuple #[.string (mkS (recsL l)), .nilIface])) ∨
  (m < l.length ∧ ∃ pb, e = .returned (.tuple #[.string (mkS []), .iface 70 (.pointer (some ⟨pb, 0, none⟩))]) ∧ w'.cell? ⟨pb, 0, none⟩ = some (.int .i64 1) ∧ w'.cell? ⟨pb, 1, none⟩ = some (.int .i64 m))

set_option maxHeartbeats 2000000 in
set_option maxRecDepth 100000 in
theorem write_row (b off : Nat) (cap : Nat) (l : List (List UInt8 × List UInt8)) (h20 : l.length ≤ 20) (hz : ∀ p ∈ l, p.1.length ≤ 100000 ∧ p.2.length ≤ 100000) (m : Nat) (hm : m ≤ l.length) (hG : GoodTo l m) (hB : ∀ p, l[m]? = some p → rightP p.1 p.2 = false)
    (w : World) (hp : PowLaid w) (hlt : b < w.heap.size) (hR : RowAt w b off l) :
    Calls Tryd.prog 20 #[.slice (some ⟨b, off, none⟩) l.length cap] w fun e w' => WriteIs l m e w' ∧ Below w.heap.size w w' := by
  have hF := Lib.fresh_isBuilder 79 5 w
  have hb0 := below_alloc1 w (.cells #[.pointer none, .slice none 0 0] 79)
  have HR := Lib.hid (show ∀ w', Below w.heap.size w w' → RowAt w' b off l from fun w' hb => RowAt.below hlt hR hb)
  have HP := Lib.hid (show ∀ w1, Below w.heap.size w w1 → PowLaid w1 from fun w1 h1 => hp.below h1)
  have HZ := Lib.hid hz
  have HG := Lib.hid hG
  have HB := Lib.hid hB
  have hF0 := Lib.hid (And.intro hb0 (show Lib.IsBuilder 79 5 w.heap.size w.heap.size (Lib.byteCells (recsL (l.take 0))) (w.alloc (.cells #[.pointer none, .slice none 0 0] 79)) from hF))
  have HW := Lib.hid (show ∀ (i : Nat) (q : List UInt8 × List UInt8) W, i < m → l[i]? = some q → Lib.IsBuilder 79 5 w.heap.size w.heap.size (Lib.byteCells (recsL (l.take i))) W → w.heap.size ≤ W.heap.size →
      Calls Tryd.prog 47 #[.pointer (some ⟨w.heap.size, 0, none⟩), .string (mkS (recL q.1 q.2))] W fun e w' => (∃ v, e = .returned v) ∧ Lib.IsBuilder 79 5 w.heap.size w.heap.size (Lib.byteCells (recsL (l.take (i + 1)))) w' ∧ Below w.heap.size W w' from fun i q W hi hq hW hs => by
    have hg := hG i q hi hq
    have h1 := recL_length q.1 q.2 (rightP_true q.1 q.2 hg).2.2
    have h2 := lenOf_bound (q.1.length + q.2.length + 3)
    have h3 := (rightP_true q.1 q.2 hg).2.2
    have h4 := recsL_take_bound l i (fun j p hj => hG j p (by omega)) (by omega)
    refine (bld_WriteString w.heap.size w.heap.size _ (mkS (recL q.1 q.2)) W hW (by rw [Lib.byteCells_length, mkS_size]; omega) hs).mono fun e w' ⟨h5, h6, h7⟩ => ⟨⟨_, h5⟩, Or.inr ?_, h7⟩
    rw [recsL_take l i q hq]
    have hc : Lib.byteCells (recsL (l.take i)) ++ Lib.strCells (mkS (recL q.1 q.2)) = Lib.byteCells (recsL (l.take i) ++ recL q.1 q.2) := by
      unfold Lib.strCells Lib.byteCells; rw [mkS_list, List.map_append]
    rw [hc] at h6
    exact h6)
  have HS := Lib.hid (show ∀ W, Lib.IsBuilder 79 5 w.heap.size w.heap.size (Lib.byteCells (recsL l)) W → w.heap.size ≤ W.heap.size → Calls Tryd.prog 48 #[.pointer (some ⟨w.heap.size, 0, none⟩)] W fun e w' => e = .returned (.string (mkS (recsL l))) ∧ Below w.heap.size W w' from fun W h1 h2 => bld_String w.heap.size w.heap.size (recsL l) W h1 h2)
  clear hR hp hz hG hB hlt hb0 hF
  go_enter Tryd.func20, Tryd.ntmps20
  go_wp2
  go_loopg [15] m (fun g s15 wr => ∃ i : Nat, i ≤ m ∧ m - i ≤ g ∧ s15 = .int .i64 i ∧ Aside (Below w.heap.size w wr ∧ Lib.IsBuilder 79 5 w.heap.size w.heap.size (Lib.byteCells (recsL (l.take i))) wr))
  case atStart => exact ⟨0, by omega, by omega, rfl, hF0.out⟩
  case round =>
    obtain ⟨i, hi, hg, rfl, A⟩ := hrel
    by_cases hil : i < l.length
    · obtain ⟨q, hq⟩ : ∃ p, l[i]? = some p := ⟨_, List.getElem?_eq_getElem hil⟩
      obtain ⟨c1, c2⟩ := HR.out wr A.out.1 i q hq
      obtain ⟨hz1, hz2⟩ := HZ.out q (List.mem_of_getElem? hq)
      have HQ := Lib.hid hq
      clear hq
      have hb1 := (A.out.1.alloc A.out.1.size (.cells #[.string (mkS q.1), .string (mkS q.2)] 36))
      have hf1 := builder_below A.out.2 (below_alloc1 wr (.cells #[.string (mkS q.1), .string (mkS q.2)] 36))
      have A1 := Lib.hid (And.intro hb1 hf1)
      clear hb1 hf1
      by_cases him : i = m
      · subst him
        have R := Lib.hid (fun w => record_bad q.1 q.2 hz1 hz2 (HB.out q HQ.out) w)
        go_wp2_with (go_at_call 16; refine (R.out _).mono ?_; rintro e w2 ⟨rfl, h2⟩)
        go_ret2
        have h3 := A1.out.1.trans (h2.mono A1.out.1.size)
        exact ⟨Or.inr ⟨hil, w2.heap.size, rfl, by simp, by simp⟩, h3.alloc h3.size _⟩
      · have R := Lib.hid (fun w hp => record_ok q.1 q.2 (HG.out i q (by omega) HQ.out) w hp)
        have HW2 := Lib.hid (fun W => HW.out i q W (by omega) HQ.out)
        generalize recL q.1 q.2 = T1 at *
        go_wp2_with (first
          | (go_at_call 16; refine (R.out _ (HP.out _ A1.out.1)).mono ?_; rintro e w2 ⟨rfl, h2⟩)
          | (go_at_call 47; refine (HW2.out _ (builder_below A1.out.2 h2) (A1.out.1.trans (h2.mono A1.out.1.size)).size).mono ?_; rintro e w3 ⟨⟨v, rfl⟩, h3, h4⟩))
        go_roundg (m - (i + 1))
        case measure => omega
        case rel => exact ⟨i + 1, by omega, by omega, by first | rfl | simp, (show Aside _ from ⟨(A1.out.1.trans (h2.mono A1.out.1.size)).trans h4, h3⟩)⟩
    · obtain rfl : i = l.length := by omega
      obtain rfl : m = l.length := by omega
      rw [List.take_length] at A
      go_wp2_with (go_at_call 48; refine (HS.out _ A.out.2 A.out.1.size).mono ?_; rintro e w2 ⟨rfl, h2⟩)
      go_ret2
      exact ⟨Or.inl ⟨rfl, rfl⟩, A.out.1.trans h2⟩
end Go.Proofs.YtheiamidochooaaDoor
