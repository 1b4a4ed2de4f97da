/- pax.Read: the records in a text, or the first fault. -/
import Derived.Test.YtheiamidochooaaDoorIts
import Derived.Test.YtheiamidochooaaDoorWri
import Derived.Maps.AppendAt
import Derived.RangeFuncBox
namespace Go.Proofs.YtheiamidochooaaDoor
open Go.RowKit Go.Shelf Go.Joins
set_option linter.unusedVariables false
attribute [local go_sem] Oper.semAt_some

theorem below_alloc4 (w : World) (o1 o2 o3 o4 : Obj) : Below w.heap.size w ((((w.alloc o1).alloc o2).alloc o3).alloc o4) := ((below_alloc2 w o1 o2).alloc (by simp; omega) o3).alloc (by simp; omega) o4
/-- The cells of a list of pairs. -/
def pairCells (l : List Pr) : List Value := l.flatMap fun p => [.string (mkS p.1), .string (mkS p.2)]
theorem pairCells_length (l : List Pr) : (pairCells l).length = l.length * 2 := by
  induction l with
  | nil => rfl
  | cons p l ih => unfold pairCells at ih ⊢; rw [List.flatMap_cons, List.length_append, ih]; simp; omega
theorem pairCells_snoc (l : List Pr) (p : Pr) : pairCells (l ++ [p]) = pairCells l ++ [.string (mkS p.1), .string (mkS p.2)] := by
  unfold pairCells; rw [List.flatMap_append]; simp
theorem pairCells_at : ∀ (l : List Pr) (i : Nat) (p : Pr), l[i]? = some p → (pairCells l)[i * 2]? = some (.string (mkS p.1)) ∧ (pairCells l)[i * 2 + 1]? = some (.string (mkS p.2))
  | q :: l, 0, p, h => by
    simp at h; subst h
    exact ⟨rfl, rfl⟩
  | q :: l, i + 1, p, h => by
    have := pairCells_at l i p (by simpa using h)
    unfold pairCells at this ⊢
    rw [List.flatMap_cons, show (i + 1) * 2 = (i * 2) + 1 + 1 by omega]
    exact this
theorem Tryd.infoPair : (Tryd.prog.info? 36).map (fun i => (i.zero, i.size, i.bytes)) = some (some (.agg #[.string { data := #[] }, .string { data := #[] }]), 2, 32) := by kernel_rfl

/-- What Read hands back of a text that is read so. -/
def ReadOut (M : List Pr) (bad : Bool) (e : Ending) (w' : World) : Prop :=
  (M.length ≤ 20 ∧ bad = false ∧ ∃ ad cap, (ad = none → cap = 0) ∧ e = .returned (.tuple #[.slice ad M.length cap, .nilIface]) ∧ PairsAt w' ad M) ∨
  (∃ pb er at_, ((M.length ≤ 20 ∧ bad = true ∧ er = 3 ∧ at_ = offL M M.length) ∨ (20 < M.length ∧ er = 4 ∧ at_ = offL M 20)) ∧
    e = .returned (.tuple #[.slice none 0 0, .iface 70 (.pointer (some ⟨pb, 0, none⟩))]) ∧ w'.cell? ⟨pb, 0, none⟩ = some (.int .i64 er) ∧ w'.cell? ⟨pb, 1, none⟩ = some (.int .i64 (at_ : Nat)))

theorem offL_le (s : List UInt8) (M : List Pr) (bad : Bool) (h : ReadIs s M bad) (i : Nat) : offL M i ≤ s.length := by
  have h1 : recsL (M.take i) <+: recsL M := by
    conv => rhs; rw [← List.take_append_drop i M]
    unfold recsL; rw [List.flatMap_append]; exact List.prefix_append _ _
  exact (h1.trans h.2.1).length_le

theorem cells_own {β : Type} (B : Nat) (f : β → Obj) (hf : ∀ s, (f s).isCells = true) : Own (fun s W => W.heap[B]? = some (f s)) := fun s X Y row hs hg hrow => by
  have hlt : B < X.heap.size := (Array.getElem?_eq_some_iff.1 hs).1
  refine (hg.block B hlt fun e => ?_).trans hs
  obtain ⟨o, ho, hc⟩ := hrow B e.symm
  rw [hs] at ho
  cases ho
  rw [hf s] at hc
  cases hc
theorem boxed_below {W W' : World} {B : Nat} {t : TypeId} {v : Value} (h : Boxed W B t v) (hb : Below W.heap.size W W') : Boxed W' B t v := (hb.block B h.lt).trans h
/-- The box of the pair that a round is handed. -/
abbrev pairObj (p : Pr) : Obj := .cells #[.string (mkS p.1), .string (mkS p.2)] 36 (0, 0)
abbrev atObj (er : Int) (a : Nat) : Obj := .cells #[.int .i64 er, .int .i64 (a : Int)] 72 (0, 0)
/-- Between two rounds. -/
def RdI (w : World) (s : List UInt8) (pre : List It) (W : World) : Prop :=
  ((Boxed W w.heap.size 22 (.slice none 0 0) ∧ Boxed W (w.heap.size + 1) 29 .nilIface) ∧ Boxed W (w.heap.size + 1 + 1 + 1) 9 (.string (mkS s))) ∧
  ((∃ v, Boxed W (w.heap.size + 1 + 1) 22 v ∧ W.ownsRow w.heap.size 36 2 v pre.length (pairCells (pre.map fun x => x.1.2)) ∧ True) ∧
   (Below w.heap.size w W ∧ (pre.length ≤ 20 ∧ ∀ x ∈ pre, rightP x.1.2.1 x.1.2.2 = true)))
/-- A round has left. -/
def RdX (w : World) (c : Code) (pre : List It) (W : World) : Prop :=
  c = .ret ∧ ∃ pb er x pre', ((Boxed W w.heap.size 22 (.slice none 0 0) ∧ Boxed W (w.heap.size + 1) 29 (.iface 70 (.pointer (some ⟨pb, 0, none⟩)))) ∧ W.heap[pb]? = some (atObj er (x : It).1.1)) ∧
    (Below w.heap.size w W ∧ (pre = pre' ++ [x] ∧ pre'.length ≤ 20 ∧ (∀ y ∈ pre', rightP y.1.2.1 y.1.2.2 = true) ∧ ((er = 3 ∧ rightP x.1.2.1 x.1.2.2 = false) ∨ (er = 4 ∧ rightP x.1.2.1 x.1.2.2 = true ∧ pre'.length = 20))))
theorem RdI.own (w : World) (s : List UInt8) (B : Nat) (hB : w.heap.size ≤ B) : OwnFrom B (RdI w s) := by
  unfold RdI
  exact OwnFrom.and (OwnFrom.and (OwnFrom.and (Own.from (boxed_own _ _ _) _) (Own.from (boxed_own _ _ _) _)) (Own.from (boxed_own _ _ _) _))
    (OwnFrom.and (Own.from (holdsRow_own w.heap.size _ _ _ 2 (fun pre : List It => pre.length) (fun pre => pairCells (pre.map fun x => x.1.2)) (fun _ _ => True)) _) (OwnFrom.and (ownFrom_below (Nat.le_refl _) hB) (ownFrom_pure _ _)))
theorem RdX.own (w : World) (c : Code) (B : Nat) (hB : w.heap.size ≤ B) : OwnFrom B (RdX w c) := by
  rintro pre X Y row ⟨hc, pb, er, x, pre', ⟨⟨h1, h2⟩, h3⟩, h4, h5⟩ hg hr
  have hr' : ∀ r, row = some r → ∃ o : Obj, X.heap[r]? = some o ∧ o.isCells = false := fun r e => (hr r e).2
  exact ⟨hc, pb, er, x, pre', ⟨⟨boxed_own _ _ (fun (_ : Unit) => Value.slice none 0 0) () X Y row h1 hg hr', boxed_own _ _ (fun (_ : Unit) => Value.iface 70 (.pointer (some ⟨pb, 0, none⟩))) () X Y row h2 hg hr'⟩, cells_own pb (fun (_ : Unit) => atObj er x.1.1) (fun _ => rfl) () X Y row h3 hg hr'⟩, ownFrom_below (β := Unit) (Nat.le_refl _) (B := B) hB () X Y row h4 hg hr, h5⟩

theorem RdI.below {w : World} {s : List UInt8} {pre : List It} {W W' : World} (h : RdI w s pre W) (hb : Below W.heap.size W W') : RdI w s pre W' := by
  obtain ⟨⟨⟨h0, h1⟩, h3⟩, ⟨v, h4, h5, _⟩, h6, h7⟩ := h
  exact ⟨⟨⟨boxed_below h0 hb, boxed_below h1 hb⟩, boxed_below h3 hb⟩, ⟨v, boxed_below h4 hb, own_below h5 hb, trivial⟩, h6.trans (hb.mono h6.size), h7⟩
theorem keeps_below {W W' : World} (h : Below W.heap.size W W') : KeepsOthers W W' := ⟨h.size, fun k o hk _ => (h.block k (Array.getElem?_eq_some_iff.1 hk).1).trans hk⟩

/-- A round that ends in a fault. -/
theorem rdX_of {w : World} {s : List UInt8} {pre : List It} {W w2 : World} (x : It) (er : Int) (hI : RdI w s pre W) (h2 : Below W.heap.size W w2)
    (he : (er = 3 ∧ rightP x.1.2.1 x.1.2.2 = false) ∨ (er = 4 ∧ rightP x.1.2.1 x.1.2.2 = true ∧ pre.length = 20)) (B : Nat) :
    KeepsFrom B W (((w2.alloc (.cells #[.int .i64 er, .int .i64 (x.1.1 : Int)] 72)).setCell ⟨w.heap.size, 0, none⟩ (.slice none 0 0)).setCell ⟨w.heap.size + 1, 0, none⟩ (.iface 70 (.pointer (some ⟨w2.heap.size, 0, none⟩)))) ∧
    RdX w .ret (pre ++ [x]) (((w2.alloc (.cells #[.int .i64 er, .int .i64 (x.1.1 : Int)] 72)).setCell ⟨w.heap.size, 0, none⟩ (.slice none 0 0)).setCell ⟨w.heap.size + 1, 0, none⟩ (.iface 70 (.pointer (some ⟨w2.heap.size, 0, none⟩)))) := by
  obtain ⟨⟨⟨h0, h1⟩, h3⟩, _, h6, h7, h8⟩ := hI.below h2
  have hlt := h3.lt
  have hk := ((keeps_below h2).trans (KeepsOthers.alloc w2 (.cells #[.int .i64 er, .int .i64 (x.1.1 : Int)] 72)))
  refine ⟨((hk.trans (KeepsOthers.setCell _ _ _)).trans (KeepsOthers.setCell _ _ _)).from _, rfl, w2.heap.size, er, x, pre, ⟨⟨?_, ?_⟩, ?_⟩, ?_, rfl, h7, h8, he⟩
  · exact ((h0.alloc _).set _).other (by omega) _
  · exact ((h1.alloc _).other (by omega) _).set _
  · have hnew : (w2.alloc (.cells #[.int .i64 er, .int .i64 (x.1.1 : Int)] 72)).heap[w2.heap.size]? = some (atObj er x.1.1) := World.alloc_heap_new w2 _
    exact ((grownBy_setCell' _ (w.heap.size + 1) _).block _ (by simp [World.setCell]) (fun e => by have := Option.some.inj e; omega)).trans (((grownBy_setCell' _ w.heap.size _).block _ (by simp) (fun e => by have := Option.some.inj e; omega)).trans hnew)
  · have h9 := h6.alloc h6.size (.cells #[.int .i64 er, .int .i64 (x.1.1 : Int)] 72)
    exact below_store (below_store h9 _ _ (Nat.le_refl _) _) _ _ (by omega) _

theorem pairsAt_of_row {W : World} {base : Nat} {e : TypeId} {ad : Option Addr} {cap : Nat} {M : List Pr} (h : W.ownsRow base e 2 (.slice ad M.length cap) M.length (pairCells M)) : PairsAt W ad M := fun i p hi => by
  have hil := (List.getElem?_eq_some_iff.1 hi).1
  rcases h.2 with ⟨_, h0⟩ | ⟨g, cap', cur, hv, _, hg, _, _, _, htk⟩
  · omega
  · injection hv with e1 e2 e3
    obtain ⟨c1, c2⟩ := pairCells_at M i p hi
    rw [← htk, List.getElem?_take, if_pos (by omega)] at c1
    rw [← htk, List.getElem?_take, if_pos (by omega)] at c2
    refine ⟨g, 0, e1, (Array.getElem?_eq_some_iff.1 hg).1, ?_, ?_⟩
    · rw [Nat.zero_add]; simp only [World.cell?, hg]; simpa using c1
    · rw [Nat.zero_add]; simp only [World.cell?, hg]; simpa using c2
theorem row_none {W : World} {base : Nat} {e : TypeId} {size : Nat} {ad : Option Addr} {k cap : Nat} {xs : List Value} (h : W.ownsRow base e size (.slice ad k cap) k xs) : ad = none → cap = 0 := fun ha => by
  rcases h.2 with ⟨hv, _⟩ | ⟨g, cap', _, hv, _⟩
  · injection hv with e1 e2 e3
  · injection hv with e1 e2 e3
    rw [ha] at e1; cases e1
theorem items_good (s : List UInt8) (hs : s.length ≤ 6000) (M : List Pr) (bad : Bool) (hR : ReadIs s M bad) (h : ∀ x ∈ items M bad, rightP x.1.2.1 x.1.2.2 = true) : bad = false ∧ (items M bad).length = M.length ∧ (items M bad).map (fun x => x.1.2) = M := by
  have ho := offL_le s M bad hR
  cases bad with
  | true =>
    have h1 := h (itF M M.length) (by unfold items upto; exact List.mem_map.2 ⟨M.length, by rw [List.mem_range]; simp, rfl⟩)
    rw [itF_end M (by have := ho M.length; omega)] at h1
    cases h1
  | false =>
    refine ⟨rfl, by unfold items; rw [upto_length]; simp, ?_⟩
    unfold items upto
    rw [List.map_map]
    apply List.ext_getElem
    · simp
    · intro i h1 h2
      simp only [List.getElem_map, List.getElem_range, Function.comp]
      rw [itF_at M i M[i] (List.getElem?_eq_getElem h2) (by have := ho i; omega) (hR.1 _ (List.getElem_mem h2))]

theorem row_shape {W : World} {base : Nat} {e : TypeId} {size : Nat} {v : Value} {k : Nat} {xs : List Value} (h : W.ownsRow base e size v k xs) : ∃ ad cap, v = .slice ad k cap := by
  rcases h.2 with ⟨rfl, h0⟩ | ⟨g, cap, _, rfl, _⟩
  · exact ⟨none, 0, by rw [h0]⟩
  · exact ⟨_, cap, rfl⟩
theorem cell_two_new (W : World) (t : TypeId) (a b : Value) : ∀ (j : Nat) (u : Value), [a, b][j]? = some u → (W.alloc (.cells #[a, b] t)).cell? ((⟨W.heap.size, 0, none⟩ : Addr).add j) = some u
  | 0, u, h => by simp at h; subst h; simp [Addr.add]
  | 1, u, h => by simp at h; subst h; simp [Addr.add]
  | j + 2, u, h => by simp at h
/-- A round that has appended. -/
theorem rdI_of {w : World} {s : List UInt8} {pre : List It} {W w2 w1 : World} (x : It) (hI : RdI w s pre W) (h2 : Below W.heap.size W w2) {v v' : Value} (hbv : Boxed w2 (w.heap.size + 1 + 1) 22 v)
    (hrow : w2.ownsRow w.heap.size 36 2 v pre.length (pairCells (pre.map fun x => x.1.2))) {tmp : Obj}
    (hown' : w1.ownsRow w.heap.size 36 2 v' (pre.length + 1) (pairCells (pre.map fun x => x.1.2) ++ [.string (mkS x.1.2.1), .string (mkS x.1.2.2)])) (hgrow : (w2.alloc tmp).grownBy w1 v.ownBlock)
    (h20 : pre.length < 20) (hr : rightP x.1.2.1 x.1.2.2 = true) (B : Nat) :
    KeepsFrom B W (w1.setCell ⟨w.heap.size + 1 + 1, 0, none⟩ v') ∧ KpR w.heap.size (w.heap.size + 1 + 1 + 1) W (w1.setCell ⟨w.heap.size + 1 + 1, 0, none⟩ v') ∧ RdI w s (pre ++ [x]) (w1.setCell ⟨w.heap.size + 1 + 1, 0, none⟩ v') := by
  have hI2 := hI.below h2
  obtain ⟨⟨⟨h0, h1⟩, h3⟩, _, h6, h7, h8⟩ := hI2
  obtain ⟨hv1, hv2, hr2, hk2, hb2⟩ := hbv.appended (by decide) hrow h6.size (by omega) hown' hgrow
  have e0 := ((h0.alloc tmp).kept hgrow (h0.not_row (by decide) hrow)).other (B' := w.heap.size + 1 + 1) (by omega) v'
  have e1 := ((h1.alloc tmp).kept hgrow (h1.not_row (by decide) hrow)).other (B' := w.heap.size + 1 + 1) (by omega) v'
  have e3 := ((h3.alloc tmp).kept hgrow (h3.not_row (by decide) hrow)).other (B' := w.heap.size + 1 + 1) (by omega) v'
  have hBW : Below w.heap.size W (w1.setCell ⟨w.heap.size + 1 + 1, 0, none⟩ v') := (h2.mono hI.2.2.1.size).trans hb2
  refine ⟨((keeps_below h2).trans hk2).from _, ⟨hBW, fun o ho _ => ?_⟩, ⟨⟨e0, e1⟩, e3⟩, ⟨v', hv2, ?_, trivial⟩, hI.2.2.1.trans hBW, ?_, fun y hy => ?_⟩
  · have := (show W.heap[w.heap.size + 1 + 1 + 1]? = _ from hI.1.2).symm.trans ho
    rw [← this]; exact e3
  · rw [List.length_append, List.map_append]
    show World.ownsRow _ _ _ _ _ (pre.length + 1) (pairCells (pre.map (fun x => x.1.2) ++ [x.1.2]))
    rw [pairCells_snoc]; exact hr2
  · simp; omega
  · rcases List.mem_append.1 hy with hy | hy
    · exact h8 y hy
    · rw [List.mem_singleton.1 hy]; exact hr

set_option maxRecDepth 100000 in
set_option maxHeartbeats 4000000 in
theorem read_in (n : Nat) (hn : 6 ≤ n) (s : List UInt8) (hs : s.length ≤ 6000) (M : List Pr) (bad : Bool) (hR : ReadIs s M bad) (w : World) (hp : PowLaid w) (hA : AtoiLaid w) :
    CallsIn Fence.wide n Tryd.prog 12 #[.string (mkS s)] w fun e W' => ReadOut M bad e W' ∧ Below w.heap.size w W' := by
  have h1 : 1 ≤ n := by omega
  refine callsIn_of_wp_marks Tryd.func12 rfl trivial ?_ rfl
  simp only [Tryd.ntmps12, List.size_toArray, List.length_cons, List.length_nil, Nat.reduceAdd, Nat.reduceSub, Array.replicate_succ, Array.replicate_zero, List.push_toArray, List.append_toArray, List.nil_append, List.cons_append]
  have hfn : Fence.wide.fn 40 := trivial
  gi_wp2_with (gi_at_call 40; refine (records_in (n - 1) s _).mono ?_; rintro e w' ⟨rfl, rfl⟩)
  have b0 := (((Boxed.new w 22 (.slice none 0 0)).alloc (.cells #[.nilIface] 29)).alloc (.cells #[.slice none 0 0] 22)).alloc (.cells #[.string (mkS s)] 9)
  have b1 := ((Boxed.new (w.alloc (.cells #[.slice none 0 0] 22)) 29 .nilIface).alloc (.cells #[.slice none 0 0] 22)).alloc (.cells #[.string (mkS s)] 9)
  have b2 := (Boxed.new ((w.alloc (.cells #[.slice none 0 0] 22)).alloc (.cells #[.nilIface] 29)) 22 (.slice none 0 0)).alloc (.cells #[.string (mkS s)] 9)
  have b3 := Boxed.new (((w.alloc (.cells #[.slice none 0 0] 22)).alloc (.cells #[.nilIface] 29)).alloc (.cells #[.slice none 0 0] 22)) 9 (.string (mkS s))
  simp only [World.size_alloc] at b1 b2 b3
  have hB0 := below_alloc4 w (.cells #[.slice none 0 0] 22) (.cells #[.nilIface] 29) (.cells #[.slice none 0 0] 22) (.cells #[.string (mkS s)] 9)
  have hsz : ((((w.alloc (.cells #[.slice none 0 0] 22)).alloc (.cells #[.nilIface] 29)).alloc (.cells #[.slice none 0 0] 22)).alloc (.cells #[.string (mkS s)] 9)).heap.size = w.heap.size + 4 := by simp
  obtain ⟨W0, hW0⟩ : ∃ W0, (((w.alloc (.cells #[.slice none 0 0] 22)).alloc (.cells #[.nilIface] 29)).alloc (.cells #[.slice none 0 0] 22)).alloc (.cells #[.string (mkS s)] 9) = W0 := ⟨_, rfl⟩
  rw [hW0] at b0 b1 b2 b3 hB0 hsz ⊢
  clear hW0
  have hpA : ∀ W', Below w.heap.size W0 W' → PowLaid W' ∧ AtoiLaid W' := fun W' h => ⟨hp.below (hB0.trans h), hA.below (hB0.trans h)⟩
  have hle : w.heap.size ≤ W0.heap.size := by omega
  refine wpIn_rangeFunc_ownH rfl h1 (gf := 61) (lb := #[.pointer (some ⟨w.heap.size + 1 + 1 + 1, 0, none⟩)]) rfl trivial (enters_of Tryd.func61 (by kernel_rfl) rfl)
    (records_stops (n - 1) (by omega) (w.heap.size + 1 + 1 + 1) w.heap.size s hs M bad hR W0 hle b3 hpA) KpR.trans (kpR_b hle) (Below.refl _ _) (fun _ => rfl)
    (RdI w s) (RdX w) (RdI.own w s _ hle) (fun c => RdX.own w c _ hle)
    ⟨⟨⟨b0, b1⟩, b3⟩, ⟨_, b2, World.ownsRow_nil _ _ _ _, trivial⟩, hB0, by simp, fun x hx => by simp at hx⟩
    (fun x a' W => ∃ Bx, W0.heap.size ≤ Bx ∧ W.heap[Bx]? = some (pairObj x.1.2) ∧ a' = { tmps := #[.string (mkS s), undef, .pointer (some ⟨w.heap.size, 0, none⟩), .pointer (some ⟨w.heap.size + 1, 0, none⟩), .pointer (some ⟨w.heap.size + 1 + 1, 0, none⟩), .int .i64 (x.1.1 : Int), .pointer (some ⟨Bx, 0, none⟩), .string (mkS s), .func (.func 61) #[] #[.pointer (some ⟨w.heap.size + 1 + 1 + 1, 0, none⟩)], .int .i64 (x.1.1 : Int), prV x.1.2.1 x.1.2.2, undef, undef, undef, undef, undef, undef, undef, undef, undef, undef, undef, undef, undef, undef, undef, undef, undef, undef, undef], defers := [] })
    (fun x a' _ X Y row hs hg hr => by obtain ⟨Bx, h1, h2, h3⟩ := hs; exact ⟨Bx, h1, cells_own Bx (fun (_ : Unit) => pairObj x.1.2) (fun _ => rfl) () X Y row h2 hg (fun r e => (hr r e).2), h3⟩)
    ?assign ?body ?done ?stop
  case assign =>
    rintro l pre x W K hI hK
    have hsW : w.heap.size ≤ W.heap.size := hI.2.2.1.size
    have hlt4 : W0.heap.size ≤ W.heap.size := by have := hI.1.2.lt; omega
    have hb := (Below.refl W.heap.size W).alloc (Nat.le_refl _) (.cells #[.string (mkS x.1.2.1), .string (mkS x.1.2.2)] 36)
    gi_wp2
    refine hK _ _ ((KeepsOthers.alloc _ _).from _) (KpR.of_below hb hsW) ?_ ⟨W.heap.size, hlt4, World.alloc_heap_new W _, rfl⟩
    exact (RdI.own w s w.heap.size (Nat.le_refl _)).alloc _ hI
  case body =>
    rintro l pre x a' W hl ⟨r, hr⟩ hI ⟨Bx, hBx, bX, rfl⟩ hlt
    have hfR : Fence.wide.fn 41 := trivial
    have h1' : 1 ≤ n - 1 - 1 := by omega
    have x1 : W.cell? ⟨Bx, 0, none⟩ = some (.string (mkS x.1.2.1)) := by simp [World.cell?, bX]
    have x2 : W.cell? ⟨Bx, 1, none⟩ = some (.string (mkS x.1.2.2)) := by simp [World.cell?, bX]
    have C := Lib.hid (right_any x.1.2.1 x.1.2.2 (by have := x.2.2.1; omega) (by have := x.2.2.2; omega) W)
    have Z := Lib.hid (show ∀ w2, Below W.heap.size W w2 → ((∀ O, (w2.alloc O).cell? ⟨w.heap.size, 0, none⟩ = some (.slice none 0 0)) ∧ (∀ O, (w2.alloc O).frozen? ⟨w.heap.size, 0, none⟩ = false)) ∧ ((∀ O, (w2.alloc O).cell? ⟨w.heap.size + 1, 0, none⟩ = some .nilIface) ∧ (∀ O, (w2.alloc O).frozen? ⟨w.heap.size + 1, 0, none⟩ = false)) ∧ w.heap.size + 1 < w2.heap.size ∧ w2.cell? ⟨Bx, 0, none⟩ = some (.string (mkS x.1.2.1)) ∧ w2.cell? ⟨Bx, 1, none⟩ = some (.string (mkS x.1.2.2)) ∧ (∃ v, Boxed w2 (w.heap.size + 1 + 1) 22 v ∧ w2.ownsRow w.heap.size 36 2 v pre.length (pairCells (pre.map fun x => x.1.2))) from fun w2 h2 => by
      obtain ⟨⟨⟨h0, h1⟩, h3⟩, ⟨v, h4, h5, _⟩, _⟩ := hI.below h2
      have hbx := (Array.getElem?_eq_some_iff.1 bX).1
      exact ⟨⟨fun O => (h0.alloc O).cell, fun O => (h0.alloc O).frozen⟩, ⟨fun O => (h1.alloc O).cell, fun O => (h1.alloc O).frozen⟩, h1.lt, (h2.cell (p := ⟨Bx, 0, none⟩) hbx).trans x1, (h2.cell (p := ⟨Bx, 1, none⟩) hbx).trans x2, v, h4, h5⟩)
    have HI := Lib.hid hI
    cases hr : rightP x.1.2.1 x.1.2.2
    · rw [hr] at C
      have HR := Lib.hid hr
      clear hI hr bX hpA hp hA hR b0 b1 b2 b3
      gi_wp2_with (gi_at_call 41; refine (CallsIn.inRound l (callsIn_wide.2 C.out)).mono ?_; rintro e w2 ⟨rfl, h2⟩; obtain ⟨⟨c0, f0⟩, ⟨c1, f1⟩, hz, _⟩ := Z.out _ h2)
      exact rdX_of x 3 HI.out h2 (Or.inl ⟨rfl, HR.out⟩) _
    · rw [hr] at C
      have HR := Lib.hid hr
      obtain ⟨_, ⟨v, hbv, hrow, _⟩, hBW, hlen, hgood⟩ := hI
      clear hr bX hpA hp hA hR b0 b1 b2 b3
      have hV := Lib.hid (show ∀ w2, Below W.heap.size W w2 → Boxed w2 (w.heap.size + 1 + 1) 22 v ∧ w2.ownsRow w.heap.size 36 2 v pre.length (pairCells (pre.map fun x => x.1.2)) ∧ w.heap.size ≤ w2.heap.size from fun w2 h2 => ⟨boxed_below hbv h2, own_below hrow h2, Nat.le_trans hBW.size h2.size⟩)
      obtain ⟨ad, cap, rfl⟩ := row_shape hrow
      have HG := Lib.hid hgood
      clear hbv hrow hBW hgood
      by_cases h20 : pre.length = 20
      · have HL := Lib.hid h20
        have h20' : (pre.length : Int) = 20 := by omega
        clear h20
        gi_wp2_with (gi_at_call 41; refine (CallsIn.inRound l (callsIn_wide.2 C.out)).mono ?_; rintro e w2 ⟨rfl, h2⟩; obtain ⟨⟨c0, f0⟩, ⟨c1, f1⟩, hz, _⟩ := Z.out _ h2; have c4 := (hV.out _ h2).1.cell)
        exact rdX_of x 4 HI.out h2 (Or.inr ⟨rfl, HR.out, HL.out⟩) _
      · have hL : ¬ (pre.length : Int) = 20 := by omega
        have h20' : pre.length < 20 := by omega
        obtain ⟨i0, hi, hz0, hz1, hz2⟩ := info_parts Tryd.infoPair
        clear h20
        gi_wp2_with (first
          | (gi_at_call 41; refine (CallsIn.inRound l (callsIn_wide.2 C.out)).mono ?_; rintro e w2 ⟨rfl, h2⟩; obtain ⟨_, _, hz, y1, y2, _⟩ := Z.out _ h2; obtain ⟨hbv, hrow, hsz2⟩ := hV.out _ h2; have c4 := hbv.cell)
          | (gi_at_builtin; refine wpListIn_append_own _ rfl _ _ 22 rfl w.heap.size 36 i0 (.agg #[.string { data := #[] }, .string { data := #[] }]) 2 32 Tryd.underlying22 hi hz0 hz1 hz2 rfl (by decide) _ _ _ rfl (hrow.alloc _) ⟨w2.heap.size, 0, none⟩ 1 1 [.string (mkS x.1.2.1), .string (mkS x.1.2.2)] rfl rfl (cell_two_new _ _ _ _) (by simp [Value.oneCell']) (by unfold maxLen; omega) (by omega) (by simp; omega) ?_; intro v' w1 hown' hgrow _; obtain ⟨g', cap', rfl⟩ := ownsRow_succ hown'; have hv1 := (hbv.alloc _).kept hgrow (hbv.not_row (by decide) hrow); have hc1 := hv1.cell; have hf1 := hv1.frozen))
        exact rdI_of x HI.out h2 hbv hrow hown' hgrow h20' HR.out _
  case done =>
    rintro D xs W hD rfl ⟨⟨⟨c0, c1⟩, c3⟩, ⟨v, c4, hrow, _⟩, hBW, hlen, hgood⟩ hK
    obtain ⟨rfl, hil, him⟩ := items_good s hs M bad hR hgood
    rw [him, hil] at hrow
    rw [hil] at hlen
    obtain ⟨ad, cap, rfl⟩ := row_shape hrow
    have k0 := c0.cell
    have k1 := c1.cell
    have k4 := c4.cell
    have f0 := c0.frozen
    have f1 := c1.frozen
    have n0 := c0.not_row (by decide) hrow
    have n1 := c1.not_row (by decide) hrow
    have HB := Lib.hid (And.intro (And.intro c0 c1) (And.intro hBW (And.intro hrow (And.intro n0 n1))))
    have hD' := hD
    clear hpA hp hA hR b0 b1 b2 b3 c0 c1 c3 c4 hBW hgood him n0 n1 hrow hil hB0
    gi_wp2
    obtain ⟨⟨c0, c1⟩, hBW, hrow, n0, n1⟩ := HB.out
    have hK' := ((KeepsOthers.setCell W ⟨w.heap.size, 0, none⟩ (.slice ad M.length cap)).trans (KeepsOthers.setCell _ ⟨w.heap.size + 1, 0, none⟩ .nilIface)).same D _ hK rfl
    refine ⟨by simp, .inl ⟨_, _, rfl, run_takeDeferred hK', ?_⟩⟩
    have d2 := cell_kept ((c0.set (.slice ad M.length cap)).other (B' := w.heap.size + 1) (by omega) .nilIface).cell (grownBy_putObj' _ D (.deferred none)) (fun r e => by cases e; exact ⟨_, hK', rfl⟩)
    have d3 := cell_kept ((c1.other (B' := w.heap.size) (by omega) (.slice ad M.length cap)).set .nilIface).cell (grownBy_putObj' _ D (.deferred none)) (fun r e => by cases e; exact ⟨_, hK', rfl⟩)
    have hr2 := ownsRow_putObj ((hrow.kept (grownBy_setCell' W w.heap.size (.slice ad M.length cap)) (.inr n0.symm)).kept (grownBy_setCell' _ (w.heap.size + 1) .nilIface) (.inr n1.symm)) (.deferred none) hK' rfl
    refine ⟨.tuple #[.slice ad M.length cap, .nilIface], ?_, Or.inl ⟨hlen, rfl, ad, cap, row_none hr2, rfl, pairsAt_of_row hr2⟩, ((hBW.setCell (p := ⟨w.heap.size, 0, none⟩) (Nat.le_refl _) _).setCell (p := ⟨w.heap.size + 1, 0, none⟩) (by simp) _).trans (belowK_b (w := w) (Nat.le_refl _) _ D _ _ (by omega) hK' rfl rfl)⟩
    simp [results, Tryd.f12, go_sem, d2, d3]
  case stop =>
    rintro D c pre W hD ⟨k, hk, rfl⟩ ⟨rfl, pb, er, x, pre', ⟨⟨c0, c1⟩, c5⟩, hBW, hpre, hlen, hgood, her⟩ hK
    have ho := offL_le s M bad hR
    have hout : (M.length ≤ 20 ∧ bad = true ∧ er = 3 ∧ x.1.1 = offL M M.length) ∨ (20 < M.length ∧ er = 4 ∧ x.1.1 = offL M 20) := by
      cases k with
      | zero => simp [upto] at hpre
      | succ k =>
        rw [upto_succ] at hpre
        obtain ⟨q1, q2⟩ := List.append_inj' hpre rfl
        have q3 : itF M k = x := by simpa using q2
        have q4 : pre'.length = k := by rw [← q1, upto_length]
        unfold items at hk
        rw [upto_length] at hk
        by_cases hkM : k < M.length
        · have q5 := itF_at M k M[k] (List.getElem?_eq_getElem hkM) (by have := ho k; omega) (hR.1 _ (List.getElem_mem hkM))
          rw [q3] at q5
          rcases her with ⟨_, h⟩ | ⟨h, _, h2⟩
          · rw [q5, hR.1 _ (List.getElem_mem hkM)] at h; cases h
          · right
            refine ⟨by omega, h, ?_⟩
            rw [q5]
            show offL M k = offL M 20
            rw [← q4, h2]
        · have hb : bad = true := by cases bad with
            | true => rfl
            | false => simp at hk; omega
          have hkl : k = M.length := by rw [hb] at hk; simp at hk; omega
          have q5 := itF_end M (by have := ho M.length; omega)
          rw [← hkl, q3] at q5
          rcases her with ⟨h, _⟩ | ⟨_, h, _⟩
          · left
            exact ⟨by omega, hb, h, by rw [q5, hkl]⟩
          · rw [q5] at h; cases h
    have HB := Lib.hid (And.intro (And.intro c0 c1) (And.intro hBW (And.intro c5 hout)))
    clear hpA hp hA hR b0 b1 b2 b3 c0 c1 hBW hgood hpre hout her c5 ho hB0
    gi_wp2
    obtain ⟨⟨c0, c1⟩, hBW, c5, hout⟩ := HB.out
    refine ⟨by simp, .inl ⟨_, _, rfl, run_takeDeferred hK, ?_⟩⟩
    have d2 := cell_kept c0.cell (grownBy_putObj' _ D (.deferred none)) (fun r e => by cases e; exact ⟨_, hK, rfl⟩)
    have d3 := cell_kept c1.cell (grownBy_putObj' _ D (.deferred none)) (fun r e => by cases e; exact ⟨_, hK, rfl⟩)
    have e0 : W.cell? ⟨pb, 0, none⟩ = some (.int .i64 er) := by simp [World.cell?, c5]
    have e1 : W.cell? ⟨pb, 1, none⟩ = some (.int .i64 (x.1.1 : Int)) := by simp [World.cell?, c5]
    have d4 := cell_kept e0 (grownBy_putObj' _ D (.deferred none)) (fun r e => by cases e; exact ⟨_, hK, rfl⟩)
    have d5 := cell_kept e1 (grownBy_putObj' _ D (.deferred none)) (fun r e => by cases e; exact ⟨_, hK, rfl⟩)
    refine ⟨.tuple #[.slice none 0 0, .iface 70 (.pointer (some ⟨pb, 0, none⟩))], ?_, Or.inr ⟨pb, er, x.1.1, hout, rfl, d4, d5⟩, hBW.trans (belowK_b (w := w) (Nat.le_refl _) W D _ _ (by omega) hK rfl rfl)⟩
    simp [results, Tryd.f12, go_sem, d2, d3]

/-- pax.Read, as called from anywhere. -/
theorem read_any (s : List UInt8) (hs : s.length ≤ 6000) (M : List Pr) (bad : Bool) (hR : ReadIs s M bad) (w : World) (hp : PowLaid w) (hA : AtoiLaid w) :
    Calls Tryd.prog 12 #[.string (mkS s)] w fun e W' => ReadOut M bad e W' ∧ Below w.heap.size w W' :=
  (callsIn_wide (n := 6)).1 (read_in 6 (by omega) s hs M bad hR w hp hA)
end Go.Proofs.YtheiamidochooaaDoor
