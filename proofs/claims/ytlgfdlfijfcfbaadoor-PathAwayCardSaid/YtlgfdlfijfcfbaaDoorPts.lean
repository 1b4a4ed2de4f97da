/- path.Parts. -/
import Derived.Test.YtlgfdlfijfcfbaaDoorEach
import Derived.Test.YtlgfdlfijfcfbaaDoorTx
import Derived.Maps.AppendAt
import Derived.Laws.AppendOwnNone
namespace Go.Proofs.YtlgfdlfijfcfbaaDoor
open Go.RowKit Go.Shelf Go.Joins
set_option linter.unusedVariables false

theorem Tryd.infoStr : (Tryd.prog.info? 9).map (fun i => (i.zero, i.size, i.bytes)) = some (some (.string ByteArray.empty), 1, 16) := by kernel_rfl

/-- The box b0 holds a slice that owns the texts L, beyond n₀. -/
def KeptAt (b0 n₀ : Nat) (L : List (List UInt8)) (W : World) : Prop := ∃ v, Boxed W b0 23 v ∧ W.ownsRow n₀ 9 1 v L.length (L.map encS)
theorem KeptAt.grown {b0 n₀ : Nat} {L : List (List UInt8)} {W W' : World} {row : Option Nat} (h : KeptAt b0 n₀ L W) (hg : W.grownBy W' row) (hr : ∀ r, row = some r → r ≠ b0 ∧ (r < n₀ ∨ ∃ o : Obj, W.heap[r]? = some o ∧ o.isCells = false)) : KeptAt b0 n₀ L W' := by
  obtain ⟨v, hb, ho⟩ := h
  refine ⟨v, hb.kept hg (fun e => (hr b0 e.symm).1 rfl), ho.kept hg ?_⟩
  rcases ho.2 with ⟨rfl, _⟩ | ⟨g, cap, cur, rfl, hb2, hgb, _⟩
  · exact .inl rfl
  · refine .inr fun e' => ?_
    have e2 : row = some g := by simpa [Value.ownBlock] using e'.symm
    rcases (hr g e2).2 with h | ⟨o, ho, hc⟩
    · omega
    · rw [hgb] at ho; cases ho; cases hc
theorem KeptAt.nil (W : World) (n₀ : Nat) : KeptAt W.heap.size n₀ [] (W.alloc (.cells #[.slice none 0 0] 23)) := ⟨_, Boxed.new _ _ _, World.ownsRow_nil _ _ _ _⟩

/-- 'x = append(x, p)' where x lies in the box b0. -/
theorem collected {W w1 : World} {b0 n₀ B base : Nat} {v v' : Value} {L : List (List UInt8)} {x : List UInt8} {tmp : Obj} (hb : Boxed W b0 23 v) (hrow : W.ownsRow n₀ 9 1 v L.length (L.map encS))
    (hn : n₀ ≤ W.heap.size) (hbase : base ≤ b0) (h0 : b0 < B) (hB : B + 4 ≤ n₀) (hown' : w1.ownsRow n₀ 9 1 v' (L.length + 1) (L.map encS ++ [encS x])) (hgrow : (W.alloc tmp).grownBy w1 v.ownBlock) :
    Boxed w1 b0 23 v ∧ KeptAt b0 n₀ (L ++ [x]) (w1.setCell ⟨b0, 0, none⟩ v') ∧ KeptB B W (w1.setCell ⟨b0, 0, none⟩ v') ∧ Below base W (w1.setCell ⟨b0, 0, none⟩ v') ∧
      ∀ b t u, Boxed W b t u → b ≠ b0 → b < n₀ → Boxed (w1.setCell ⟨b0, 0, none⟩ v') b t u := by
  have hv1 : Boxed w1 b0 23 v := (hb.alloc tmp).kept hgrow (hb.not_row (by decide) hrow)
  have hrow1 := hrow.alloc tmp
  have hblk : ∀ k (o : Obj), W.heap[k]? = some o → (k < n₀ ∨ o.isCells = false) → w1.heap[k]? = some o := fun k o ho hk => by
    have h1 : (W.alloc tmp).heap[k]? = some o := (Below.heap_alloc W tmp k (Array.getElem?_eq_some_iff.1 ho).1).trans ho
    refine (hgrow.block k (Array.getElem?_eq_some_iff.1 h1).1 (fun e => ?_)).trans h1
    rcases hrow.2 with ⟨rfl, _⟩ | ⟨g, cap, cur, rfl, hb2, hgb, _⟩
    · simp [Value.ownBlock] at e
    · have e2 : k = g := by simpa [Value.ownBlock] using e
      subst e2
      rcases hk with h | h
      · omega
      · rw [hgb] at ho; cases ho; cases h
  have hset : ∀ k (o : Obj), k ≠ b0 → w1.heap[k]? = some o → (w1.setCell ⟨b0, 0, none⟩ v').heap[k]? = some o := fun k o hk h =>
    (Below.heap_setCell w1 ⟨b0, 0, none⟩ v' k (fun e => hk e)).trans h
  have hsz : W.heap.size ≤ w1.heap.size := by have := hgrow.size; simp at this; omega
  refine ⟨hv1, ⟨v', hv1.set v', ?_⟩, ⟨?_, fun k o h1 h2 h3 => hset k o (by omega) (hblk k o h2 (by rcases h3 with h | h; exact .inl (by omega); exact .inr h))⟩, ?_, fun b t u h1 h2 h3 => hset b _ h2 (hblk b _ h1 (.inl h3))⟩
  · rw [List.length_append, List.map_append]
    exact hown'.kept (grownBy_setCell' w1 b0 v') (.inr (hv1.not_row (by decide) hown').symm)
  · exact Nat.le_trans hsz (grownBy_setCell' w1 b0 v').size
  · refine (((Below.refl base W).alloc (by have := hb.lt; omega) tmp).grown hgrow (by have := hb.lt; simp; omega) fun j ej => ?_).setCell (p := ⟨b0, 0, none⟩) hbase v'
    rcases hrow.2 with ⟨rfl, _⟩ | ⟨g, cap, cur, rfl, hb2, _, _⟩
    · simp [Value.ownBlock] at ej
    · obtain rfl : g = j := by simpa [Value.ownBlock] using ej
      omega

set_option maxHeartbeats 1000000 in
theorem partsC_any (b0 n₀ B base : Nat) (L : List (List UInt8)) (p : List UInt8) (W : World) (hK : KeptAt b0 n₀ L W) (hn : n₀ ≤ W.heap.size) (hl : L.length ≤ 1000001) (hbase : base ≤ b0) (h0 : b0 < B) (hB : B + 4 ≤ n₀) :
    Calls Tryd.prog 31 #[.string (mkS p), .pointer (some ⟨b0, 0, none⟩)] W fun e W' => (∃ v, e = .returned v) ∧ KeptAt b0 n₀ (L ++ [p]) W' ∧ KeptB B W W' ∧ Below base W W' := by
  obtain ⟨v, hb, hrow⟩ := hK
  obtain ⟨i0, hi, hz0, hz1, hz2⟩ := info_parts Tryd.infoStr
  have bc := hb.cell
  have HB := Lib.hid hb
  have HR := Lib.hid hrow
  obtain ⟨k, hk⟩ : ∃ k, L.length = k := ⟨_, rfl⟩
  rw [hk] at hrow hl
  have HO := Lib.hid hrow
  have HK := Lib.hid hk
  clear hb hrow hk
  go_enter Tryd.func31, Tryd.ntmps31
  go_wp2_with (at_builtin; refine wpList_append_own _ rfl _ _ 23 rfl n₀ 9 i0 (.string ByteArray.empty) 1 16 Tryd.underlying23 hi hz0 hz1 hz2 rfl (by decide) _ _ _ rfl (HO.out.alloc _) ⟨W.heap.size, 0, none⟩ 1 1 [.string (mkS p)] rfl rfl (cell_one_new _ _ _) (by simp [Value.oneCell']) (by unfold maxLen; omega) (by omega) (by simp; omega) ?_; intro v' w1 hown' hgrow _; obtain ⟨g4, cap4, hv4⟩ := ownsRow_succ hown'; subst hv4; have HC := Lib.hid (collected (x := p) HB.out HR.out hn hbase h0 hB (by rw [HK.out]; exact hown') hgrow); have bc1 := HC.out.1.cell; have bf1 := HC.out.1.frozen; clear hown' hgrow)
  go_end0
  exact ⟨⟨_, rfl⟩, HC.out.2.1, HC.out.2.2.1, HC.out.2.2.2.1⟩

set_option maxHeartbeats 1000000 in
theorem parts_any (l : List UInt8) (hl : l.length ≤ 1000000) (w : World) :
    Calls Tryd.prog 13 #[.string (mkS l)] w fun e w' => (∃ v, e = .returned v ∧ SlIs w' v (partsL l)) ∧ Below w.heap.size w w' := by
  have E := Lib.hid (each_any l hl 31 #[.pointer (some ⟨w.heap.size, 0, none⟩)] (fun pre W => KeptAt w.heap.size (w.heap.size + 1 + 4) pre W ∧ Below w.heap.size w W) (w.alloc (.cells #[.slice none 0 0] 23))
    (enters_of Tryd.func31 (by kernel_rfl) rfl)
    (fun s W W' row hs hg hr => by
      rw [World.size_alloc] at hr
      exact ⟨hs.1.grown hg (fun r e => ⟨by have := (hr r e).1; omega, (hr r e).2⟩), hs.2.grown hg hs.2.size (fun r e => by have := (hr r e).1; omega)⟩)
    (fun pre p W hi hp hsz hok => by
      rw [World.size_alloc] at hsz ⊢
      refine (partsC_any w.heap.size (w.heap.size + 1 + 4) (w.heap.size + 1) w.heap.size pre p W hi.1 hsz (by omega) (Nat.le_refl _) (by omega) (Nat.le_refl _)).mono fun e W' h => ⟨h.1, ⟨h.2.1, hi.2.trans (h.2.2.2)⟩, h.2.2.1⟩)
    ⟨KeptAt.nil w _, (Below.refl _ w).alloc (Nat.le_refl _) _⟩)
  go_enter Tryd.func13, Tryd.ntmps13
  go_wp2_with (go_at_call 30; refine E.out.mono ?_; rintro e w1 ⟨⟨u, rfl⟩, ⟨v, hb, ho⟩, hbel⟩; have bc := hb.cell; have HO := Lib.hid (slIs_of_own ho); have HB := Lib.hid hbel; clear hb ho hbel)
  go_ret
  exact ⟨⟨v, rfl, HO.out⟩, HB.out⟩
end Go.Proofs.YtlgfdlfijfcfbaaDoor
