/- pax.Get: the last value of a key. -/
import Derived.Test.YtheiamidochooaaDoorBwd
namespace Go.Proofs.YtheiamidochooaaDoor
open Go.RowKit Go.Shelf Go.Joins
attribute [local go_sem] Oper.semAt_some

/-- The last value of a key, empty if there is none. -/
def getL (l : List Pr) (key : List UInt8) : List UInt8 := l.foldl (fun v p => if p.1 = key then p.2 else v) []
theorem fold_keep (key : List UInt8) : ∀ (l : List Pr) (v : List UInt8), (∀ q ∈ l, q.1 ≠ key) → l.foldl (fun v p => if p.1 = key then p.2 else v) v = v
  | [], _, _ => rfl
  | q :: l, v, h => by
    rw [List.foldl_cons, if_neg (h q (List.mem_cons_self ..))]
    exact fold_keep key l v fun r hr => h r (List.mem_cons_of_mem _ hr)
theorem getL_none (l : List Pr) (key : List UInt8) (h : ∀ q ∈ l, q.1 ≠ key) : getL l key = [] := fold_keep key l [] h
theorem getL_at (l : List Pr) (key : List UInt8) (i : Nat) (p : Pr) (hp : l[i]? = some p) (hk : p.1 = key) (h : ∀ (j : Nat) q, i < j → l[j]? = some q → q.1 ≠ key) : getL l key = p.2 := by
  obtain ⟨hi, hpe⟩ := List.getElem?_eq_some_iff.1 hp
  have hl : l = l.take i ++ p :: l.drop (i + 1) := by
    rw [← hpe, ← List.drop_eq_getElem_cons hi, List.take_append_drop]
  unfold getL
  rw [hl, List.foldl_append, List.foldl_cons, if_pos hk]
  apply fold_keep
  intro q hq
  obtain ⟨j, hj⟩ := List.mem_iff_getElem?.1 hq
  rw [List.getElem?_drop] at hj
  exact h (i + 1 + j) q (by omega) hj

def PairBox (W : World) (B : Nat) (p : Pr) : Prop := W.heap[B]? = some (.cells #[.string (mkS p.1), .string (mkS p.2)] 36 (0, 0))
theorem PairBox.own {β : Type} (B : Nat) (f : β → Pr) : Own (fun s W => PairBox W B (f s)) := fun s X Y row hs hg hrow => by
  have hlt : B < X.heap.size := (Array.getElem?_eq_some_iff.1 hs).1
  refine (hg.block B hlt fun e => ?_).trans hs
  obtain ⟨o, ho, hc⟩ := hrow B e.symm
  rw [show X.heap[B]? = _ from hs] at ho
  cases ho
  simp [Obj.isCells] at hc
theorem PairBox.new (W : World) (p : Pr) : PairBox (W.alloc (.cells #[.string (mkS p.1), .string (mkS p.2)] 36)) W.heap.size p := World.alloc_heap_new W _
theorem PairBox.cells {W : World} {B : Nat} {p : Pr} (h : PairBox W B p) : W.cell? ⟨B, 0, none⟩ = some (.string (mkS p.1)) ∧ W.cell? ⟨B, 1, none⟩ = some (.string (mkS p.2)) := by
  unfold PairBox at h
  simp [World.cell?, h]

set_option maxRecDepth 100000 in
set_option maxHeartbeats 4000000 in
theorem get_in (F : Fence) (n : Nat) (h3 : F.fn 32) (h4 : F.fn 57) (h5 : F.fn 72) (hro : F.round = none) (hn : 6 ≤ n)
    (ad : Option Addr) (cap : Nat) (zs : List Pr) (hl : zs.length ≤ 1000000000) (key : List UInt8) (w : World) (hI : zs = [] ∨ ∃ b off, ad = some ⟨b, off, none⟩ ∧ b < w.heap.size ∧ RowAt w b off zs) :
    CallsIn F n Tryd.prog 32 #[.slice ad zs.length cap, .string (mkS key)] w fun e W' => e = .returned (.tuple #[.string (mkS (getL zs key)), .bool (!(getL zs key).isEmpty)]) ∧ Below w.heap.size w W' := by
  have h1 : 1 ≤ n := by omega
  refine callsIn_of_wp_marks Tryd.func32 rfl h3 ?_ hro
  simp only [Tryd.ntmps32, List.size_toArray, List.length_cons, List.length_nil, Nat.reduceAdd, Nat.reduceSub, Array.replicate_succ, Array.replicate_zero, List.push_toArray, List.append_toArray, List.nil_append, List.cons_append]
  gi_wp2_with (gi_at_call 57; refine (backward_in F (n - 1) h4 hro _ _ _ _).mono ?_; rintro e w' ⟨rfl, rfl⟩)
  have bK := (((Boxed.new w 9 (.string (mkS key))).alloc (.cells #[.string { data := #[] }] 9)).alloc (.cells #[.bool false] 4)).alloc (.cells #[.slice ad zs.length cap] 22)
  have bV := ((Boxed.new (w.alloc (.cells #[.string (mkS key)] 9)) 9 (.string { data := #[] })).alloc (.cells #[.bool false] 4)).alloc (.cells #[.slice ad zs.length cap] 22)
  have bO := (Boxed.new ((w.alloc (.cells #[.string (mkS key)] 9)).alloc (.cells #[.string { data := #[] }] 9)) 4 (.bool false)).alloc (.cells #[.slice ad zs.length cap] 22)
  have bS := Boxed.new (((w.alloc (.cells #[.string (mkS key)] 9)).alloc (.cells #[.string { data := #[] }] 9)).alloc (.cells #[.bool false] 4)) 22 (.slice ad zs.length cap)
  simp only [World.size_alloc] at bV bO bS
  have hB0 : Below w.heap.size w ((((w.alloc (.cells #[.string (mkS key)] 9)).alloc (.cells #[.string { data := #[] }] 9)).alloc (.cells #[.bool false] 4)).alloc (.cells #[.slice ad zs.length cap] 22)) := ((((Below.refl _ w).alloc (Nat.le_refl _) _).alloc (by simp) _).alloc (by simp; omega) _).alloc (by simp; omega) _
  have hsz : ((((w.alloc (.cells #[.string (mkS key)] 9)).alloc (.cells #[.string { data := #[] }] 9)).alloc (.cells #[.bool false] 4)).alloc (.cells #[.slice ad zs.length cap] 22)).heap.size = w.heap.size + 4 := by simp
  obtain ⟨W0, hW0⟩ : ∃ W0, (((w.alloc (.cells #[.string (mkS key)] 9)).alloc (.cells #[.string { data := #[] }] 9)).alloc (.cells #[.bool false] 4)).alloc (.cells #[.slice ad zs.length cap] 22) = W0 := ⟨_, rfl⟩
  rw [hW0] at bK bV bO bS hB0 hsz ⊢
  clear hW0
  have hI0 : zs = [] ∨ ∃ b off, ad = some ⟨b, off, none⟩ ∧ b < W0.heap.size ∧ RowAt W0 b off zs := hI.imp id fun ⟨b, off, h1, h2, h3⟩ => ⟨b, off, h1, by omega, h3.below h2 hB0⟩
  refine wpIn_rangeFunc_ownH hro h1 (gf := 72) (lb := #[.pointer (some ⟨w.heap.size + 1 + 1 + 1, 0, none⟩)]) rfl h5 (enters_of Tryd.func72 (by kernel_rfl) rfl)
    (backward_stops F (n - 1) h5 hro (by omega) (w.heap.size + 1 + 1 + 1) W0.heap.size ad cap zs hl W0 (by omega) (by omega) (Nat.le_refl _) bS.cell hI0) belowK_t (belowK_b (by omega)) (Below.refl _ _) (fun _ => rfl)
    (fun pre W => ((Boxed W w.heap.size 9 (.string (mkS key)) ∧ Boxed W (w.heap.size + 1) 9 (.string { data := #[] })) ∧ Boxed W (w.heap.size + 1 + 1) 4 (.bool false)) ∧ (Below W0.heap.size W0 W ∧ ∀ x ∈ pre, x.2.1 ≠ key))
    (fun c pre W => c = .ret ∧ ∃ x, ((Boxed W (w.heap.size + 1) 9 (.string (mkS x.2.2)) ∧ Boxed W (w.heap.size + 1 + 1) 4 (.bool (!x.2.2.isEmpty))) ∧ Below w.heap.size w W) ∧ (∃ pre', pre = pre' ++ [x] ∧ x.2.1 = key ∧ ∀ y ∈ pre', y.2.1 ≠ key))
    ?hI ?hIx
    ⟨⟨⟨bK, bV⟩, bO⟩, Below.refl _ _, fun x hx => by simp at hx⟩
    (fun x a' W => ∃ Bx, W0.heap.size ≤ Bx ∧ PairBox W Bx x.2 ∧ a' = { tmps := #[.slice ad zs.length cap, .string (mkS key), undef, .pointer (some ⟨w.heap.size, 0, none⟩), .pointer (some ⟨w.heap.size + 1, 0, none⟩), .pointer (some ⟨w.heap.size + 1 + 1, 0, none⟩), undef, .pointer (some ⟨Bx, 0, none⟩), .slice ad zs.length cap, .func (.func 72) #[] #[.pointer (some ⟨w.heap.size + 1 + 1 + 1, 0, none⟩)], .int .i64 (x.1 : Int), prV x.2.1 x.2.2, undef, undef, undef, undef, undef, undef, undef, undef, undef], defers := [] })
    (fun x a' _ X Y row hs hg hr => by obtain ⟨Bx, h1, h2, h3⟩ := hs; exact ⟨Bx, h1, PairBox.own Bx (fun (_ : Unit) => x.2) () X Y row h2 hg (fun r e => (hr r e).2), h3⟩)
    ?assign ?body ?done ?stop
  case hI => exact OwnFrom.and (OwnFrom.and (OwnFrom.and (Own.from (boxed_own _ _ _) _) (Own.from (boxed_own _ _ _) _)) (Own.from (boxed_own _ _ _) _)) (OwnFrom.and (ownFrom_below (Nat.le_refl _) (Nat.le_refl _)) (ownFrom_pure _ _))
  case hIx =>
    rintro c s X Y row ⟨hc, x, ⟨⟨h1, h2⟩, h3⟩, h4⟩ hg hr
    exact ⟨hc, x, ⟨⟨boxed_own _ _ (fun (_ : Unit) => Value.string (mkS x.2.2)) () X Y row h1 hg (fun r e => (hr r e).2), boxed_own _ _ (fun (_ : Unit) => Value.bool (!x.2.2.isEmpty)) () X Y row h2 hg (fun r e => (hr r e).2)⟩, ownFrom_below (β := Unit) (Nat.le_refl _) (B := W0.heap.size) (by omega) () X Y row h3 hg hr⟩, h4⟩
  case assign =>
    rintro l pre x W K ⟨⟨⟨b1, b2⟩, b3⟩, hB, hp⟩ hK
    gi_wp2
    exact hK _ _ ((KeepsOthers.alloc _ _).from _) ((Below.refl _ W).alloc hB.size _) ⟨⟨⟨b1.alloc _, b2.alloc _⟩, b3.alloc _⟩, hB.alloc hB.size _, hp⟩ ⟨W.heap.size, hB.size, PairBox.new W _, rfl⟩
  case body =>
    rintro l pre x a' W hl ⟨r, hr⟩ ⟨⟨⟨b1, b2⟩, b3⟩, hB, hp⟩ ⟨Bx, hBx, bX, rfl⟩ hlt
    obtain ⟨x1, x2⟩ := bX.cells
    have k1 := b1.cell
    have f2 := b2.frozen
    have f3 := b3.frozen
    have c2 := b2.cell
    have c3 := b3.cell
    have hem : (mkS x.2.2).toList.isEmpty = x.2.2.isEmpty := by rw [ByteArray.toList_eq, mkS_list]
    by_cases hk : x.2.1 = key
    · have HB := Lib.hid (And.intro (And.intro b2 b3) (And.intro (hB0.trans (hB.mono (by omega))) hp))
      clear hp hI hI0 hB b1 b2 b3 bX bS bO bV bK hB0
      gi_wp2
      gi_region
      all_goals
        gi_wp2
        obtain ⟨⟨b2, b3⟩, hB, hp⟩ := HB.out
        refine ⟨(((KeepsOthers.setCell _ _ _).trans (KeepsOthers.setCell _ _ _)).trans (KeepsOthers.drew _)).from _, rfl, x, ?_, pre, rfl, hk, hp⟩
        have q1 : w.heap.size ≤ w.heap.size + 1 := by omega
        have q2 : w.heap.size ≤ w.heap.size + 1 + 1 := by omega
        first
          | exact ⟨⟨(b2.set _).other (by omega) _, (b3.other (by omega) _).set _⟩, ((hB.setCell (p := ⟨w.heap.size + 1, 0, none⟩) q1 _).setCell (p := ⟨w.heap.size + 1 + 1, 0, none⟩) q2 _).drew⟩
          | exact ⟨⟨(b2.other (by omega) _).set _, (b3.set _).other (by omega) _⟩, ((hB.setCell (p := ⟨w.heap.size + 1 + 1, 0, none⟩) q2 _).setCell (p := ⟨w.heap.size + 1, 0, none⟩) q1 _).drew⟩
    · have hne : ((mkS x.2.1).toList == (mkS key).toList) = false := by
        rw [ByteArray.toList_eq, ByteArray.toList_eq, mkS_list, mkS_list]
        simpa using hk
      have HB := Lib.hid (And.intro (And.intro (And.intro b1 b2) b3) (And.intro hB hp))
      clear hp hI hI0 hB b1 b2 b3 bX bS bO bV bK hB0
      gi_wp2
      obtain ⟨⟨⟨b1, b2⟩, b3⟩, hB, hp⟩ := HB.out
      refine ⟨(KeepsOthers.refl _).from _, Below.refl _ _, ⟨⟨⟨b1, b2⟩, b3⟩, hB, fun y hy => ?_⟩⟩
      rcases List.mem_append.1 hy with hy | hy
      · exact hp y hy
      · rw [List.mem_singleton.1 hy]; exact hk
  case done =>
    rintro D xs W hD rfl ⟨⟨⟨b1, b2⟩, b3⟩, hB, hp⟩ hK
    have hnone : ∀ q ∈ zs, q.1 ≠ key := fun q hq => by
      obtain ⟨i, hi⟩ := List.mem_iff_getElem?.1 hq
      have hlt := (List.getElem?_eq_some_iff.1 hi).1
      have := hp (backF zs (zs.length - 1 - i)) (by unfold uptoW; exact List.mem_map.2 ⟨zs.length - 1 - i, by rw [List.mem_range]; omega, rfl⟩)
      unfold backF at this
      rw [show zs.length - 1 - (zs.length - 1 - i) = i by omega, hi] at this
      exact this
    have HV := Lib.hid (getL_none zs key hnone)
    have f2 := b2.frozen
    have f3 := b3.frozen
    have c2 := b2.cell
    have c3 := b3.cell
    have HB := Lib.hid (And.intro (And.intro b2 b3) (hB0.trans (hB.mono (by omega))))
    clear hp hI hI0 hB b1 b2 b3 bS bO bV bK hB0 hnone
    gi_wp2
    obtain ⟨⟨b2, b3⟩, hB⟩ := HB.out
    have hK' := ((KeepsOthers.setCell W ⟨w.heap.size + 1, 0, none⟩ (.string { data := #[] })).trans (KeepsOthers.setCell _ ⟨w.heap.size + 1 + 1, 0, none⟩ (.bool false))).same D _ hK rfl
    refine ⟨by simp, .inl ⟨_, _, rfl, run_takeDeferred hK', ?_⟩⟩
    have d2 := cell_kept ((b2.set (.string { data := #[] })).other (B' := w.heap.size + 1 + 1) (by omega) (.bool false)).cell (grownBy_putObj' _ D (.deferred none)) (fun r e => by cases e; exact ⟨_, hK', rfl⟩)
    have d3 := cell_kept ((b3.other (B' := w.heap.size + 1) (by omega) (.string { data := #[] })).set (.bool false)).cell (grownBy_putObj' _ D (.deferred none)) (fun r e => by cases e; exact ⟨_, hK', rfl⟩)
    refine ⟨.tuple #[.string (mkS []), .bool false], ?_, by rw [HV.out]; rfl, ((hB.setCell (p := ⟨w.heap.size + 1, 0, none⟩) (by simp) _).setCell (p := ⟨w.heap.size + 1 + 1, 0, none⟩) (by simp; omega) _).trans (belowK_b (w := w) (Nat.le_refl _) _ D _ _ (by omega) hK' rfl rfl)⟩
    simp [results, Tryd.f32, go_sem, d2, d3]
    rfl
  case stop =>
    rintro D c pre W hD ⟨k, hk, rfl⟩ ⟨rfl, x, ⟨⟨b2, b3⟩, hB⟩, pre', hpre, hx, hall⟩ hK
    have hval : getL zs key = x.2.2 := by
      cases k with
      | zero => simp [uptoW] at hpre
      | succ k =>
        rw [uptoW_succ] at hpre
        obtain ⟨e1, e2⟩ := List.append_inj' hpre rfl
        have e3 : backF zs k = x := by simpa using e2
        subst e1
        refine getL_at zs key (zs.length - 1 - k) x.2 ?_ hx fun j q hj hq => ?_
        · rw [← e3]; unfold backF
          rw [List.getElem?_eq_getElem (by omega)]; rfl
        · have hlt := (List.getElem?_eq_some_iff.1 hq).1
          have := hall (backF zs (zs.length - 1 - j)) (by unfold uptoW; exact List.mem_map.2 ⟨zs.length - 1 - j, by rw [List.mem_range]; omega, rfl⟩)
          unfold backF at this
          rw [show zs.length - 1 - (zs.length - 1 - j) = j by omega, hq] at this
          exact this
    have HV := Lib.hid hval
    have HB := Lib.hid (And.intro (And.intro b2 b3) hB)
    clear hI hI0 hB b2 b3 bS bO bV bK hB0 hval hall hpre
    gi_wp2
    obtain ⟨⟨b2, b3⟩, hB⟩ := HB.out
    refine ⟨by simp, .inl ⟨_, _, rfl, run_takeDeferred hK, ?_⟩⟩
    have d2 := cell_kept b2.cell (grownBy_putObj' _ D (.deferred none)) (fun r e => by cases e; exact ⟨_, hK, rfl⟩)
    have d3 := cell_kept b3.cell (grownBy_putObj' _ D (.deferred none)) (fun r e => by cases e; exact ⟨_, hK, rfl⟩)
    refine ⟨.tuple #[.string (mkS x.2.2), .bool (!x.2.2.isEmpty)], ?_, by rw [HV.out], hB.trans (belowK_b (w := w) (Nat.le_refl _) W D _ _ (by omega) hK rfl rfl)⟩
    simp [results, Tryd.f32, go_sem, d2, d3]
end Go.Proofs.YtheiamidochooaaDoor
