/- path.Clean. -/
import Derived.Test.YtlgfdlfijfcfbaaDoorPts
import Derived.Deep.RegionHeld3
namespace Go.Proofs.YtlgfdlfijfcfbaaDoor
open Go.RowKit Go.Shelf Go.Joins
set_option linter.unusedVariables false

/-- While parts come: what is kept (box b0), whether none led above (box b0 + 1). -/
def CleanAt (b0 n₀ : Nat) (s : St) (W : World) : Prop := KeptAt b0 n₀ s.1 W ∧ Boxed W (b0 + 1) 4 (.bool s.2)
theorem setCell_other {W : World} {b0 : Nat} (v : Value) (k : Nat) (h : k ≠ b0) : (W.setCell ⟨b0, 0, none⟩ v).heap[k]? = W.heap[k]? := Below.heap_setCell W ⟨b0, 0, none⟩ v k (fun e => h e)
theorem keptB_set {W : World} {b0 B : Nat} (v : Value) (h : b0 < B) : KeptB B W (W.setCell ⟨b0, 0, none⟩ v) :=
  ⟨(grownBy_setCell' W b0 v).size, fun k o h1 h2 _ => (setCell_other v k (by omega)).trans h2⟩
/-- What owns a row owns a shorter one. -/
theorem own_short {W : World} {base : Nat} {e : TypeId} {g : Option Addr} {k cap : Nat} {xs : List Value} (h : W.ownsRow base e 1 (.slice g (k + 1) cap) (k + 1) xs) : W.ownsRow base e 1 (.slice g k cap) k (xs.take k) := by
  obtain ⟨h1, ⟨h2, h3⟩ | ⟨b, c, cur, h2, h3, h4, h5, h6, h7, h8⟩⟩ := h
  · omega
  · injection h2 with e1 e2 e3
    subst e1; subst e3
    refine ⟨by rw [List.length_take, h1]; omega, .inr ⟨b, cap, cur, rfl, h3, h4, by omega, h6, h7, ?_⟩⟩
    rw [← h8, List.take_take]
    congr 1
    omega

set_option maxHeartbeats 2000000 in
theorem cleanC_any (b0 n₀ B base : Nat) (s : St) (p : List UInt8) (W : World) (hK : CleanAt b0 n₀ s W) (hn : n₀ ≤ W.heap.size) (hl : s.1.length ≤ 1000001) (hbase : base ≤ b0) (h0 : b0 + 1 < B) (hB : B + 4 ≤ n₀) :
    Calls Tryd.prog 34 #[.string (mkS p), .pointer (some ⟨b0, 0, none⟩), .pointer (some ⟨b0 + 1, 0, none⟩)] W fun e W' => (∃ v, e = .returned v) ∧ CleanAt b0 n₀ (stepC s p) W' ∧ KeptB B W W' ∧ Below base W W' := by
  obtain ⟨L, f⟩ := s
  obtain ⟨⟨v, hb, hrow⟩, hb1⟩ := hK
  obtain ⟨i0, hi, hz0, hz1, hz2⟩ := info_parts Tryd.infoStr
  have bc := hb.cell
  have bf := hb.frozen
  have bc1 := hb1.cell
  have bf1 := hb1.frozen
  dsimp only at hrow hl hb1
  have e1 := sEq p dd
  have hlit : (⟨#[46, 46]⟩ : ByteArray) = mkS dd := rfl
  by_cases hp : p = dd
  · rw [decide_eq_true hp] at e1
    have e1' : ((mkS p).toList != (mkS dd).toList) = false := by rw [bne, e1]; rfl
    by_cases hLe : L = []
    · subst hLe
      have hv : ∃ g cap, v = .slice g 0 cap := by
        rcases hrow.2 with ⟨rfl, _⟩ | ⟨g, cap, cur, rfl, _⟩
        · exact ⟨_, _, rfl⟩
        · exact ⟨_, _, rfl⟩
      obtain ⟨g, cap, rfl⟩ := hv
      have HS := Lib.hid (show CleanAt b0 n₀ (stepC ([], f) p) (W.setCell ⟨b0 + 1, 0, none⟩ (.bool false)) ∧ KeptB B W (W.setCell ⟨b0 + 1, 0, none⟩ (.bool false)) ∧ Below base W (W.setCell ⟨b0 + 1, 0, none⟩ (.bool false)) from by
        rw [hp, stepC_none]
        refine ⟨⟨⟨_, hb.other (by omega) _, hrow.kept (grownBy_setCell' W (b0 + 1) _) ?_⟩, hb1.set _⟩, keptB_set _ h0, (Below.refl base W).setCell (p := ⟨b0 + 1, 0, none⟩) (by show base ≤ b0 + 1; omega) _⟩
        exact .inr (hb1.not_row (by decide) hrow).symm)
      clear hb hb1 hrow hp
      go_enter Tryd.func34, Tryd.ntmps34
      go_wp2
      go_end0
      exact ⟨⟨_, rfl⟩, HS.out⟩
    · obtain ⟨k, hk⟩ : ∃ k, L.length = k + 1 := ⟨L.length - 1, by have := List.length_pos_iff.2 hLe; omega⟩
      have hrow2 := hrow
      rw [hk] at hrow2
      obtain ⟨g, cap, rfl⟩ := ownsRow_succ hrow2
      have hsh := own_short hrow2
      have hcap : k + 1 ≤ cap := by
        rcases hrow2.2 with ⟨h, _⟩ | ⟨_, _, _, h, _, _, h5, _⟩
        · cases h
        · injection h with _ _ e3; omega
      have HS := Lib.hid (show CleanAt b0 n₀ (stepC (L, f) p) (W.setCell ⟨b0, 0, none⟩ (.slice (some ⟨g, 0, none⟩) k cap)) ∧ KeptB B W (W.setCell ⟨b0, 0, none⟩ (.slice (some ⟨g, 0, none⟩) k cap)) ∧ Below base W (W.setCell ⟨b0, 0, none⟩ (.slice (some ⟨g, 0, none⟩) k cap)) from by
        rw [hp, stepC_up (L, f) hLe]
        have hd : L.dropLast.length = k := by rw [List.length_dropLast]; omega
        have hm : L.dropLast.map encS = (L.map encS).take k := by rw [List.dropLast_eq_take, hk, List.map_take]; rfl
        refine ⟨⟨⟨_, hb.set _, ?_⟩, hb1.other (by omega) _⟩, keptB_set _ (by omega), (Below.refl base W).setCell (p := ⟨b0, 0, none⟩) hbase _⟩
        show (W.setCell ⟨b0, 0, none⟩ _).ownsRow n₀ 9 1 _ L.dropLast.length (L.dropLast.map encS)
        rw [hd, hm]
        exact hsh.kept (grownBy_setCell' W b0 _) (.inr (hb.not_row (by decide) hsh).symm))
      rw [hk] at hl
      clear hb hb1 hrow hrow2 hsh hp hk hLe
      go_enter Tryd.func34, Tryd.ntmps34
      go_wp2
      go_end0
      exact ⟨⟨_, rfl⟩, HS.out⟩
  · rw [decide_eq_false hp] at e1
    have e1' : ((mkS p).toList != (mkS dd).toList) = true := by rw [bne, e1]; rfl
    have HB := Lib.hid hb
    have HB1 := Lib.hid hb1
    have HR := Lib.hid hrow
    have HST := Lib.hid (stepC_part (L, f) p hp)
    obtain ⟨k, hk⟩ : ∃ k, L.length = k := ⟨_, rfl⟩
    rw [hk] at hrow hl
    have HO := Lib.hid hrow
    have HK := Lib.hid hk
    clear hb hb1 hrow hk hp bc1 bf1 bf
    go_enter Tryd.func34, Tryd.ntmps34
    go_wp2_with (at_builtin; refine wpList_append_own _ rfl _ _ 23 rfl n₀ 9 i0 (.string ByteArray.empty) 1 16 Tryd.underlying23 hi hz0 hz1 hz2 rfl (by decide) _ _ _ rfl (HO.out.alloc _) ⟨W.heap.size, 0, none⟩ 1 1 [.string (mkS p)] rfl rfl (cell_one_new _ _ _) (by simp [Value.oneCell']) (by unfold maxLen; omega) (by omega) (by simp; omega) ?_; intro v' w1 hown' hgrow _; obtain ⟨g4, cap4, hv4⟩ := ownsRow_succ hown'; subst hv4; have HC := Lib.hid (collected (B := B) (x := p) HB.out HR.out hn hbase (by omega) hB (by rw [HK.out]; exact hown') hgrow); have bc1 := HC.out.1.cell; have bf1 := HC.out.1.frozen; clear hown' hgrow)
    go_end0
    refine ⟨⟨_, rfl⟩, ?_, HC.out.2.2.1, HC.out.2.2.2.1⟩
    rw [HST.out]
    exact ⟨HC.out.2.1, HC.out.2.2.2.2 _ _ _ HB1.out (by omega) (by omega)⟩

/-- A text and a bool, as a result. -/
abbrev txB (p : List UInt8 × Bool) : Value := .tuple #[.string (mkS p.1), .bool p.2]

set_option maxHeartbeats 2000000 in
theorem clean_any (l : List UInt8) (hl : l.length ≤ 100000) (w : World) :
    Calls Tryd.prog 16 #[.string (mkS l)] w fun e w' => e = .returned (txB (cleanL l)) ∧ Below w.heap.size w w' := by
  have hbA : Below w.heap.size w ((w.alloc (.cells #[.slice none 0 0] 23)).alloc (.cells #[.bool true] 4)) := ((Below.refl _ w).alloc (Nat.le_refl _) _).alloc (by simp) _
  have hlen := fun pre : List (List UInt8) => foldC_length pre ([], true)
  have E := Lib.hid (each_any l (by omega) 34 #[.pointer (some ⟨w.heap.size, 0, none⟩), .pointer (some ⟨w.heap.size + 1, 0, none⟩)] (fun pre W => CleanAt w.heap.size (w.heap.size + 2 + 4) (foldC pre ([], true)) W ∧ Below w.heap.size w W) ((w.alloc (.cells #[.slice none 0 0] 23)).alloc (.cells #[.bool true] 4))
    (enters_of Tryd.func34 (by kernel_rfl) rfl)
    (fun s W W' row hs hg hr => by
      rw [World.size_alloc, World.size_alloc] at hr
      exact ⟨⟨hs.1.1.grown hg (fun r e => ⟨by have := (hr r e).1; omega, by have := (hr r e).2; rcases this with h | h; exact .inl (by omega); exact .inr h⟩), hs.1.2.kept hg (fun e => by have := (hr _ e.symm).1; omega)⟩, hs.2.grown hg hs.2.size (fun r e => by have := (hr r e).1; omega)⟩)
    (fun pre p W hi hp hsz hok => by
      rw [World.size_alloc, World.size_alloc] at hsz ⊢
      have hl3 := hlen pre
      refine (cleanC_any w.heap.size (w.heap.size + 2 + 4) (w.heap.size + 2) w.heap.size (foldC pre ([], true)) p W hi.1 (by omega) (by simp at hl3; omega) (Nat.le_refl _) (by omega) (by omega)).mono fun e W' h => ⟨h.1, ⟨by rw [foldC_snoc]; exact h.2.1, hi.2.trans (h.2.2.2)⟩, h.2.2.1⟩)
    ⟨⟨(KeptAt.nil w _).grown (World.grownBy_alloc _ _ none) (fun r e => by cases e), by have := Boxed.new (w.alloc (.cells #[.slice none 0 0] 23)) 4 (.bool true); rw [World.size_alloc] at this; exact this⟩, hbA⟩)
  have hw1 : wt (foldC (partsL l) ([], true)).1 ≤ 1000000 := by
    have h1 := wt_fold (partsL l) ([], true)
    have h2 := wt_parts l
    rw [wt_nil] at h1
    omega
  have HR := Lib.hid (show cleanL l = (joinS (foldC (partsL l) ([], true)).1, (foldC (partsL l) ([], true)).2) from rfl)
  generalize foldC (partsL l) ([], true) = s at *
  clear hbA hlen
  go_enter Tryd.func16, Tryd.ntmps16
  go_upto_region 4 with (go_at_call 30; refine E.out.mono ?_; rintro e W ⟨⟨u, rfl⟩, ⟨⟨v, hb, ho⟩, hb1⟩, hbel⟩; have bc := hb.cell; have bc1 := hb1.cell; have HO := Lib.hid (slIs_of_own ho); have HB := Lib.hid (And.intro hbel (And.intro hb hb1)); clear ho hbel hb hb1)
  have hlt0 := HB.out.2.1.lt
  have hlt1 := HB.out.2.2.lt
  have C := Lib.hid (show ∀ w', Below W.heap.size W w' → w'.cell? ⟨w.heap.size, 0, none⟩ = some v ∧ w'.cell? ⟨w.heap.size + 1, 0, none⟩ = some (.bool s.2) from fun w' hb => ⟨(hb.cell (p := ⟨w.heap.size, 0, none⟩) hlt0).trans bc, (hb.cell (p := ⟨w.heap.size + 1, 0, none⟩) hlt1).trans bc1⟩)
  have J := Lib.hid (show ∀ w', Below W.heap.size W w' → Calls Tryd.prog 33 #[v, .string ⟨#[47]⟩] w' fun e w'' => e = .returned (.string (mkS (joinS s.1))) ∧ Below w'.heap.size w' w'' from fun w' h => join_mk v s.1 hw1 w' (HO.out.below h))
  clear bc bc1 hw1
  go_region_held3 (fun w' => Below W.heap.size W w' ∧ (w'.cell? ⟨w.heap.size, 0, none⟩ = some v ∧ w'.cell? ⟨w.heap.size + 1, 0, none⟩ = some (.bool s.2)))
    (first
      | assumption
      | exact ⟨Below.refl _ _, C.out _ (Below.refl _ _)⟩
      | exact ⟨h4, C.out _ h4⟩
      | exact ⟨(Below.refl _ _).drew, C.out _ (Below.refl _ _).drew⟩
      | fail)
    (first | (go_at_call 33; with_reducible refine (J.out _ ‹Below W.heap.size W _ ∧ _›.1).mono ?_; rintro e w4 ⟨rfl, h4⟩; obtain ⟨hB, _⟩ := ‹Below W.heap.size W _ ∧ _›; replace h4 := hB.trans (h4.mono hB.size)))
  all_goals
    go_wp2
    go_ret2
    exact ⟨by rw [HR.out]; rfl, HB.out.1.trans (h4.mono HB.out.1.size)⟩
end Go.Proofs.YtlgfdlfijfcfbaaDoor
