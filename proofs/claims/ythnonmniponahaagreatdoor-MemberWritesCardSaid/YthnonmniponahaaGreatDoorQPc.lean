/- Pc: what the texts of the name hold, joined. -/
import Derived.Test.YthnonmniponahaaGreatDoorQPb
import Derived.Test.YthnonmniponahaaGreatDoorQShelf
import Derived.Lib.Bytealg
import Derived.Lib.AtoiErrMem
import Derived.Lib.AtoiAllCases
import Derived.RangeFuncNested
import Derived.RangeFuncBox
import Derived.RangeFuncBound
import Derived.RangeFuncCalls
import Derived.RangeFuncLeaves
import Derived.Shelf.Abstract
import Derived.OwnWalkIn
import Derived.TacticsInMore
import Derived.LoopNIn
import Derived.LoopIn
import Derived.Maps.AppendAt
set_option linter.unusedSimpArgs false
set_option linter.unusedVariables false
section
/- Records one behind the other, read back: a text begins with the record of at most one pair; what is read of a text. -/
namespace Go.Proofs.YthnonmniponahaaGreatDoor.Px
open Go.RowKit Go.Joins

/-- The text begins with the record of this pair. -/
def Begins (u k v : List UInt8) : Prop := rightP k v = true ∧ recL k v <+: u
/-- The text begins with some record. -/
def Nx (u : List UInt8) : Prop := ∃ k v, Begins u k v
theorem recL_pos (k v : List UInt8) : 1 ≤ (recL k v).length := by
  unfold recL; rw [List.length_append, restL_length]; omega

/-- What is read of a text: these records, and behind them nothing (bad = false) or no record (bad = true). -/
def ReadIs (s : List UInt8) (M : List (List UInt8 × List UInt8)) (bad : Bool) : Prop :=
  (∀ p ∈ M, rightP p.1 p.2 = true) ∧ recsL M <+: s ∧ (bad = false → recsL M = s) ∧ (bad = true → (recsL M).length < s.length ∧ ¬ Nx (s.drop (recsL M).length))
theorem recsL_cons (p : List UInt8 × List UInt8) (M : List (List UInt8 × List UInt8)) : recsL (p :: M) = recL p.1 p.2 ++ recsL M := by
  unfold recsL; rw [List.flatMap_cons]
theorem read_is : ∀ (n : Nat) (s : List UInt8), s.length ≤ n → ∃ M bad, ReadIs s M bad := by
  intro n
  induction n with
  | zero =>
    intro s hs
    obtain rfl : s = [] := List.length_eq_zero_iff.1 (by omega)
    exact ⟨[], false, fun p hp => by simp at hp, List.prefix_refl _, fun _ => rfl, fun h => by cases h⟩
  | succ n ih =>
    intro s hs
    by_cases hN : Nx s
    · obtain ⟨k, v, hr, r, rfl⟩ := hN
      have hp := recL_pos k v
      obtain ⟨M, bad, h1, h2, h3, h4⟩ := ih r (by rw [List.length_append] at hs; omega)
      refine ⟨(k, v) :: M, bad, fun p hp => ?_, ?_, fun hb => ?_, fun hb => ?_⟩
      · rcases List.mem_cons.1 hp with rfl | hp
        · exact hr
        · exact h1 p hp
      · rw [recsL_cons]; exact (List.prefix_append_right_inj _).2 h2
      · rw [recsL_cons, h3 hb]
      · obtain ⟨h5, h6⟩ := h4 hb
        rw [recsL_cons, List.length_append, List.length_append]
        refine ⟨by show (recL k v).length + _ < _; omega, ?_⟩
        show ¬ Nx (((recL k v) ++ r).drop ((recL k v).length + (recsL M).length))
        rw [← List.drop_drop, List.drop_left]
        exact h6
    · cases s with
      | nil => exact ⟨[], false, fun p hp => by simp at hp, List.prefix_refl _, fun _ => rfl, fun h => by cases h⟩
      | cons c s => exact ⟨[], true, fun p hp => by simp at hp, List.nil_prefix, fun h => by (cases h), fun _ => ⟨by simp [recsL], by simpa [recsL] using hN⟩⟩

end Go.Proofs.YthnonmniponahaaGreatDoor.Px
end
section
/- strings.Cut at one byte: what it returns. -/
namespace Go.Proofs.YthnonmniponahaaGreatDoor.Px
open Go.RowKit Go.Joins

def wholeOf (c : UInt8) (u : List UInt8) : List UInt8 := u.takeWhile (· != c)
def fracOf (c : UInt8) (u : List UInt8) : List UInt8 := (u.dropWhile (· != c)).drop 1
def pointOf (c : UInt8) (u : List UInt8) : Bool := u.contains c

end Go.Proofs.YthnonmniponahaaGreatDoor.Px
end
section
/- pax.first: the record that a text begins with, if any. -/
namespace Go.Proofs.YthnonmniponahaaGreatDoor.Px
open Go.RowKit Go.Joins

/-- strconv's two errors lie in their variables. -/
def AtoiLaid (w : World) : Prop := (∃ te pe, w.cell? ⟨4, 0, none⟩ = some (.iface te pe)) ∧ (∃ te pe, w.cell? ⟨5, 0, none⟩ = some (.iface te pe))
theorem lt_of_cell {w : World} {b o : Nat} {v : Value} (h : w.cell? ⟨b, o, none⟩ = some v) : b < w.heap.size := by
  rcases Nat.lt_or_ge b w.heap.size with h0 | h0
  · exact h0
  · simp [World.cell?, Array.getElem?_eq_none h0] at h
theorem AtoiLaid.below {w w' : World} (h : AtoiLaid w) (hb : Below w.heap.size w w') : AtoiLaid w' := by
  obtain ⟨⟨t1, p1, h1⟩, t2, p2, h2⟩ := h
  exact ⟨⟨t1, p1, (hb.cell (p := ⟨4, 0, none⟩) (lt_of_cell h1)).trans h1⟩, t2, p2, (hb.cell (p := ⟨5, 0, none⟩) (lt_of_cell h2)).trans h2⟩

def PairRow (W : World) (b : Nat) : Prop := b < W.heap.size ∧ W.cell? ⟨b, 0, none⟩ = some (.string { data := #[] }) ∧ W.cell? ⟨b, 1, none⟩ = some (.string { data := #[] }) ∧ W.frozen? ⟨b, 0, none⟩ = false ∧ W.frozen? ⟨b, 1, none⟩ = false
theorem PairRow.new (w : World) : PairRow (w.alloc (.cells #[.string { data := #[] }, .string { data := #[] }] 53)) w.heap.size := ⟨by simp, by simp, by simp, by simp, by simp⟩
theorem PairRow.below {W W' : World} {b : Nat} (h : PairRow W b) (hb : Below W.heap.size W W') : PairRow W' b :=
  ⟨Nat.lt_of_lt_of_le h.1 hb.size, (hb.cell (p := ⟨b, 0, none⟩) h.1).trans h.2.1, (hb.cell (p := ⟨b, 1, none⟩) h.1).trans h.2.2.1, (hb.frozen (p := ⟨b, 0, none⟩) h.1).trans h.2.2.2.1, (hb.frozen (p := ⟨b, 1, none⟩) h.1).trans h.2.2.2.2⟩
theorem PairRow.put {W : World} {b : Nat} (h : PairRow W b) (x y : ByteArray) :
    ((W.setCell ⟨b, 0, none⟩ (.string x)).setCell ⟨b, 1, none⟩ (.string y)).cell? ⟨b, 0, none⟩ = some (.string x) ∧ ((W.setCell ⟨b, 0, none⟩ (.string x)).setCell ⟨b, 1, none⟩ (.string y)).cell? ⟨b, 1, none⟩ = some (.string y) := by
  obtain ⟨h0, h1, h2, _⟩ := h
  have e1 : (W.setCell ⟨b, 0, none⟩ (.string x)).cell? ⟨b, 0, none⟩ = some (.string x) := World.cell?_setCell_same' _ _ _ (by rw [h1]; rfl)
  have e2 : (W.setCell ⟨b, 0, none⟩ (.string x)).cell? ⟨b, 1, none⟩ = some (.string { data := #[] }) := by rw [World.cell?_setCell_other _ _ _ _ (by simp)]; exact h2
  exact ⟨by rw [World.cell?_setCell_other _ _ _ _ (by simp)]; exact e1, World.cell?_setCell_same' _ _ _ (by rw [e2]; rfl)⟩

theorem PairRow.base {w W : World} (hb : Below (w.alloc (.cells #[.string { data := #[] }, .string { data := #[] }] 53)).heap.size (w.alloc (.cells #[.string { data := #[] }, .string { data := #[] }] 53)) W) : PairRow W w.heap.size ∧ Below w.heap.size w W :=
  ⟨(PairRow.new w).below hb, (below_alloc1 w _).trans (hb.mono (below_alloc1 w _).size)⟩
end Go.Proofs.YthnonmniponahaaGreatDoor.Px
end
section
/- pax.first, at any text. -/
namespace Go.Proofs.YthnonmniponahaaGreatDoor.Px
open Go.RowKit Go.Joins

end Go.Proofs.YthnonmniponahaaGreatDoor.Px
end
section
/- pax.records: what its iterator hands on. -/
namespace Go.Proofs.YthnonmniponahaaGreatDoor.Px
open Go.RowKit Go.Shelf Go.Joins
set_option linter.unusedVariables false
attribute [local go_sem] Oper.semAt_some

def upto {α : Type} (f : Nat → α) (k : Nat) : List α := (List.range k).map f
/-- What comes: an offset and a pair, none of them great. -/
abbrev It := { x : Nat × Pr // x.1 ≤ 6000 ∧ x.2.1.length ≤ 6000 ∧ x.2.2.length ≤ 6000 }
/-- What a round keeps: all that lay below n₀, and the box Bs. -/
def KpR (n₀ Bs : Nat) (W W' : World) : Prop := Below n₀ W W' ∧ ∀ o : Obj, W.heap[Bs]? = some o → o.isCells = true → W'.heap[Bs]? = some o
theorem KpR.refl (n₀ Bs : Nat) (W : World) : KpR n₀ Bs W W := ⟨Below.refl _ _, fun _ h _ => h⟩
theorem KpR.trans {n₀ Bs : Nat} {A B C : World} (h : KpR n₀ Bs A B) (k : KpR n₀ Bs B C) : KpR n₀ Bs A C := ⟨h.1.trans k.1, fun o h1 h2 => k.2 o (h.2 o h1 h2) h2⟩
theorem KpR.of_below {n₀ Bs : Nat} {W W' : World} (h : Below W.heap.size W W') (hn : n₀ ≤ W.heap.size) : KpR n₀ Bs W W' := ⟨h.mono hn, fun o h1 _ => (h.block Bs (Array.getElem?_eq_some_iff.1 h1).1).trans h1⟩
end Go.Proofs.YthnonmniponahaaGreatDoor.Px
end
section
/- pax.Read: the records in a text, or the first fault. -/
namespace Go.Proofs.YthnonmniponahaaGreatDoor.Px
open Go.RowKit Go.Shelf Go.Joins
set_option linter.unusedVariables false
attribute [local go_sem] Oper.semAt_some

theorem below_alloc4 (w : World) (o1 o2 o3 o4 : Obj) : Below w.heap.size w ((((w.alloc o1).alloc o2).alloc o3).alloc o4) := ((below_alloc2 w o1 o2).alloc (by simp; omega) o3).alloc (by simp; omega) o4
/-- The cells of a list of pairs. -/
def pairCells (l : List Pr) : List Value := l.flatMap fun p => [.string (mkS p.1), .string (mkS p.2)]
theorem pairCells_at : ∀ (l : List Pr) (i : Nat) (p : Pr), l[i]? = some p → (pairCells l)[i * 2]? = some (.string (mkS p.1)) ∧ (pairCells l)[i * 2 + 1]? = some (.string (mkS p.2))
  | q :: l, 0, p, h => by
    simp at h; subst h
    exact ⟨rfl, rfl⟩
  | q :: l, i + 1, p, h => by
    have := pairCells_at l i p (by simpa using h)
    unfold pairCells at this ⊢
    rw [List.flatMap_cons, show (i + 1) * 2 = (i * 2) + 1 + 1 by omega]
    exact this
theorem Tryz.infoPair : (Tryz.prog.info? 53).map (fun i => (i.zero, i.size, i.bytes)) = some (some (.agg #[.string { data := #[] }, .string { data := #[] }]), 2, 32) := by kernel_rfl

theorem cells_own {β : Type} (B : Nat) (f : β → Obj) (hf : ∀ s, (f s).isCells = true) : Own (fun s W => W.heap[B]? = some (f s)) := fun s X Y row hs hg hrow => by
  have hlt : B < X.heap.size := (Array.getElem?_eq_some_iff.1 hs).1
  refine (hg.block B hlt fun e => ?_).trans hs
  obtain ⟨o, ho, hc⟩ := hrow B e.symm
  rw [hs] at ho
  cases ho
  rw [hf s] at hc
  cases hc
theorem boxed_below {W W' : World} {B : Nat} {t : TypeId} {v : Value} (h : Boxed W B t v) (hb : Below W.heap.size W W') : Boxed W' B t v := (hb.block B h.lt).trans h
abbrev atObj (er : Int) (a : Nat) : Obj := .cells #[.int .i64 er, .int .i64 (a : Int)] 87 (0, 0)
/-- Between two rounds. -/
def RdI (w : World) (s : List UInt8) (pre : List It) (W : World) : Prop :=
  ((Boxed W w.heap.size 22 (.slice none 0 0) ∧ Boxed W (w.heap.size + 1) 35 .nilIface) ∧ Boxed W (w.heap.size + 1 + 1 + 1) 9 (.string (mkS s))) ∧
  ((∃ v, Boxed W (w.heap.size + 1 + 1) 22 v ∧ W.ownsRow w.heap.size 53 2 v pre.length (pairCells (pre.map fun x => x.1.2)) ∧ True) ∧
   (Below w.heap.size w W ∧ (pre.length ≤ 20 ∧ ∀ x ∈ pre, rightP x.1.2.1 x.1.2.2 = true)))
/-- A round has left. -/
def RdX (w : World) (c : Code) (pre : List It) (W : World) : Prop :=
  c = .ret ∧ ∃ pb er x pre', ((Boxed W w.heap.size 22 (.slice none 0 0) ∧ Boxed W (w.heap.size + 1) 35 (.iface 84 (.pointer (some ⟨pb, 0, none⟩)))) ∧ W.heap[pb]? = some (atObj er (x : It).1.1)) ∧
    (Below w.heap.size w W ∧ (pre = pre' ++ [x] ∧ pre'.length ≤ 20 ∧ (∀ y ∈ pre', rightP y.1.2.1 y.1.2.2 = true) ∧ ((er = 3 ∧ rightP x.1.2.1 x.1.2.2 = false) ∨ (er = 4 ∧ rightP x.1.2.1 x.1.2.2 = true ∧ pre'.length = 20))))
theorem RdI.own (w : World) (s : List UInt8) (B : Nat) (hB : w.heap.size ≤ B) : OwnFrom B (RdI w s) := by
  unfold RdI
  exact OwnFrom.and (OwnFrom.and (OwnFrom.and (Own.from (boxed_own _ _ _) _) (Own.from (boxed_own _ _ _) _)) (Own.from (boxed_own _ _ _) _))
    (OwnFrom.and (Own.from (holdsRow_own w.heap.size _ _ _ 2 (fun pre : List It => pre.length) (fun pre => pairCells (pre.map fun x => x.1.2)) (fun _ _ => True)) _) (OwnFrom.and (ownFrom_below (Nat.le_refl _) hB) (ownFrom_pure _ _)))
theorem RdX.own (w : World) (c : Code) (B : Nat) (hB : w.heap.size ≤ B) : OwnFrom B (RdX w c) := by
  rintro pre X Y row ⟨hc, pb, er, x, pre', ⟨⟨h1, h2⟩, h3⟩, h4, h5⟩ hg hr
  have hr' : ∀ r, row = some r → ∃ o : Obj, X.heap[r]? = some o ∧ o.isCells = false := fun r e => (hr r e).2
  exact ⟨hc, pb, er, x, pre', ⟨⟨boxed_own _ _ (fun (_ : Unit) => Value.slice none 0 0) () X Y row h1 hg hr', boxed_own _ _ (fun (_ : Unit) => Value.iface 84 (.pointer (some ⟨pb, 0, none⟩))) () X Y row h2 hg hr'⟩, cells_own pb (fun (_ : Unit) => atObj er x.1.1) (fun _ => rfl) () X Y row h3 hg hr'⟩, ownFrom_below (β := Unit) (Nat.le_refl _) (B := B) hB () X Y row h4 hg hr, h5⟩

theorem RdI.below {w : World} {s : List UInt8} {pre : List It} {W W' : World} (h : RdI w s pre W) (hb : Below W.heap.size W W') : RdI w s pre W' := by
  obtain ⟨⟨⟨h0, h1⟩, h3⟩, ⟨v, h4, h5, _⟩, h6, h7⟩ := h
  exact ⟨⟨⟨boxed_below h0 hb, boxed_below h1 hb⟩, boxed_below h3 hb⟩, ⟨v, boxed_below h4 hb, own_below h5 hb, trivial⟩, h6.trans (hb.mono h6.size), h7⟩
theorem pairsAt_of_row {W : World} {base : Nat} {e : TypeId} {ad : Option Addr} {cap : Nat} {M : List Pr} (h : W.ownsRow base e 2 (.slice ad M.length cap) M.length (pairCells M)) : PairsAt W ad M := fun i p hi => by
  have hil := (List.getElem?_eq_some_iff.1 hi).1
  rcases h.2 with ⟨_, h0⟩ | ⟨g, cap', cur, hv, _, hg, _, _, _, htk⟩
  · omega
  · injection hv with e1 e2 e3
    obtain ⟨c1, c2⟩ := pairCells_at M i p hi
    rw [← htk, List.getElem?_take, if_pos (by omega)] at c1
    rw [← htk, List.getElem?_take, if_pos (by omega)] at c2
    refine ⟨g, 0, e1, (Array.getElem?_eq_some_iff.1 hg).1, ?_, ?_⟩
    · rw [Nat.zero_add]; simp only [World.cell?, hg]; simpa using c1
    · rw [Nat.zero_add]; simp only [World.cell?, hg]; simpa using c2
theorem cell_two_new (W : World) (t : TypeId) (a b : Value) : ∀ (j : Nat) (u : Value), [a, b][j]? = some u → (W.alloc (.cells #[a, b] t)).cell? ((⟨W.heap.size, 0, none⟩ : Addr).add j) = some u
  | 0, u, h => by simp at h; subst h; simp [Addr.add]
  | 1, u, h => by simp at h; subst h; simp [Addr.add]
  | j + 2, u, h => by simp at h
end Go.Proofs.YthnonmniponahaaGreatDoor.Px
end
