/- glob.only, byteSet.inverse, noSlash. -/
import Derived.Test.YtcdoiadmnckccaaDoorAr
namespace Go.Proofs.YtcdoiadmnckccaaDoor
set_option linter.unusedVariables false
set_option linter.unusedSimpArgs false
open Go.RowKit Go.Joins
set_option maxRecDepth 100000

theorem u8_lt (c : UInt8) : (c.toNat : Int) < 256 := by have := c.toNat_lt; omega

set_option maxHeartbeats 1000000 in
theorem only_any (c : UInt8) (w : World) : Calls Tryd.prog 22 #[.int .u8 (c.toNat : Int)] w fun e w' => e = .returned (setV (onlyT c)) ∧ Below w.heap.size w w' := by
  have hc := u8_lt c
  have hcn : c.toNat < 256 := c.toNat_lt
  generalize hn : c.toNat = n at hc hcn ⊢
  have e : rowA 256 (onlyT c) = (rowA 256 (fun _ => false)).setIfInBounds n (.bool true) := by
    rw [rowA_set]; apply rowA_congr; intro i _; unfold onlyT; rw [hn]; by_cases h : i = n <;> simp [h]
  unfold setV
  rw [e]
  have hsz : ((rowA 256 (fun _ => false)).setIfInBounds n (.bool true)).size = 256 := by rw [rowA_set, rowA_size]
  have hone := Lib.hid (show ((rowA 256 (fun _ => false)).setIfInBounds n (.bool true)).all (·.oneCell') = true by rw [rowA_set]; exact rowA_one _ _)
  have hz : (rowA 256 (fun _ => false))[n]? = some (.bool false) := rowA_get hcn
  have Z := Lib.hid (fun (w : World) => zeroSet w)
  have hinf := Lib.hid (show (Tryd.prog.info? 40).map (·.size) = some ((rowA 256 (fun _ => false)).setIfInBounds n (.bool true)).size by rw [hsz]; exact infoSet)
  have hsz0 := rowA_size 256 (fun _ => false)
  clear e hn
  generalize rowA 256 (fun _ => false) = R0 at *
  have hold := Lib.hid (show R0.size = (R0.setIfInBounds n (.bool true)).size by rw [hsz, hsz0])
  clear hsz hsz0
  go_enter Tryd.func22, Tryd.ntmps22
  go_wp2_with (first
    | refine wpList_alloc_row rfl _ rfl _ (Z.out _) ?_
    | refine wpList_load_row rfl _ _ rfl _ rfl _ _ _ _ (heap_alloc2_new w _ _) Tryd.underlying40 rfl hinf.out ?_
    | refine wpList_store_row rfl _ _ _ rfl _ _ rfl rfl _ _ (heap_alloc2_old w _ _) hinf.out hold.out hone.out ?_)
  refine bodyPost_ret (results_cell_row rfl _ _ w.heap.size _ _ _ _ rfl (setRow_heap _ _ _ _ _ _ (heap_alloc2_old w _ _)) Tryd.underlying40 rfl hinf.out) rfl ?_
  exact ⟨rfl, below_setRow ((below_alloc1 w _).alloc (by simp) _) (Nat.le_refl _) _⟩

theorem inverse_row (f : Nat → Bool) (i : Nat) : (rowA 256 (fun j => if j < i then !f j else f j)).setIfInBounds i (.bool (!f i)) = rowA 256 (fun j => if j < i + 1 then !f j else f j) := by
  rw [rowA_set]
  apply rowA_congr
  intro j _
  by_cases h : j = i
  · subst h; simp
  · by_cases h2 : j < i
    · simp [h, h2, show j < i + 1 by omega]
    · simp [h, h2, show ¬ j < i + 1 by omega]

set_option maxHeartbeats 1000000 in
theorem inverse_any (f : Nat → Bool) (w : World) : Calls Tryd.prog 18 #[setV f] w fun e w' => e = .returned (setV (fun i => !f i)) ∧ Below w.heap.size w w' := by
  have Z := Lib.hid (fun (w : World) => zeroSet w)
  unfold setV
  go_enter Tryd.func18, Tryd.ntmps18
  go_wp2_with (first
    | refine wpList_alloc_row rfl _ rfl _ (Z.out _) ?_
    | refine wpList_box_row rfl _ _ rfl _ rfl ?_)
  go_loopg [4] 256 (fun g s4 wr => ∃ i : Nat, i + g = 256 ∧ s4 = .int .i64 (i : Int) ∧ wr = ((w.alloc (.cells (rowA 256 (fun j => if j < i then !f j else f j)) 40)).alloc (.cells (rowA 256 (fun _ => false)) 40)))
  case atStart => exact ⟨0, rfl, rfl, by simp⟩
  case round =>
    obtain ⟨i, hig, rfl, rfl⟩ := hrel
    cases gk with
    | zero =>
      obtain rfl : i = 256 := by omega
      rw [rowA_congr (f := fun j => if j < 256 then !f j else f j) (g := fun j => !f j) (fun j hj => by simp [hj])]
      generalize hN : (fun j => !f j) = N
      have hold := Lib.hid (show (rowA 256 (fun _ => false)).size = (rowA 256 N).size by rw [rowA_size, rowA_size])
      have HE := Lib.hid hN
      have I := Lib.hid (infoSet' N)
      have O := Lib.hid (rowA_one 256 N)
      clear hN
      go_wp2_with (first
        | refine wpList_load_row rfl _ _ rfl _ rfl _ _ _ _ (heap_alloc2_old w _ _) Tryd.underlying40 rfl I.out ?_
        | refine wpList_store_row rfl _ _ _ rfl _ _ rfl rfl _ _ (heap_alloc2_new w _ _) I.out hold.out O.out ?_)
      refine bodyPost_ret (results_cell_row rfl _ _ (w.heap.size + 1) _ _ _ _ rfl (setRow_heap _ _ _ _ _ _ (heap_alloc2_new w _ _)) Tryd.underlying40 rfl I.out) rfl ?_
      exact ⟨by rw [HE.out], below_setRow ((below_alloc1 w _).alloc (by simp) _) (Nat.le_succ _) _⟩
    | succ g =>
      have hi : i < 256 := by omega
      have hiz : (i : Int) < 256 := by omega
      have hg0 := rowA_get (f := fun j => if j < i then !f j else f j) hi
      simp only [Nat.lt_irrefl, if_false] at hg0
      have hst := inverse_row f i
      go_wp2
      go_roundg g
      case measure => omega
      case rel => exact ⟨i + 1, by omega, by first | rfl | simp, rfl⟩
theorem noSl_inv : (fun i => !onlyT 47 i) = noSl := rfl
set_option maxHeartbeats 1000000 in
theorem noSlash_any (w : World) : Calls Tryd.prog 19 #[] w fun e w' => e = .returned (setV noSl) ∧ Below w.heap.size w w' := by
  have Z := Lib.hid (fun (w : World) => zeroSet w)
  have O := Lib.hid (show ∀ w, Calls Tryd.prog 22 #[.int .u8 47] w fun e w' => e = .returned (setV (onlyT 47)) ∧ Below w.heap.size w w' from fun (w : World) => only_any 47 w)
  have I := Lib.hid (show ∀ w, Calls Tryd.prog 18 #[setV (onlyT 47)] w fun e w' => e = .returned (setV noSl) ∧ Below w.heap.size w w' from fun (w : World) => inverse_any (onlyT 47) w)
  have KR := Lib.hid (show ∀ w1 w2, Below (w.alloc (.cells (rowA 256 (fun _ => false)) 40)).heap.size (w.alloc (.cells (rowA 256 (fun _ => false)) 40)) w1 → Below w1.heap.size w1 w2 → IsRow w2 w.heap.size 40 256 (fun _ => false) ∧ Below w.heap.size w w2 from fun w1 w2 h1 h2 => by
    have h0 := IsRow.new w 40 256 (fun _ => false)
    have h3 := h0.below h1 h0.lt
    exact ⟨h3.below h2 h3.lt, ((below_alloc1 w _).trans (h1.mono (by simp))).trans (h2.mono (Nat.le_trans (by simp) h1.size))⟩)
  have hold := Lib.hid (show (rowA 256 (fun _ => false)).size = (rowA 256 noSl).size by rw [rowA_size, rowA_size])
  go_enter Tryd.func19, Tryd.ntmps19
  go_wp2_with (first
    | refine wpList_alloc_row rfl _ rfl _ (Z.out _) ?_
    | (go_at_call 22; with_reducible refine (O.out _).mono ?_; rintro e w1 ⟨rfl, hb1⟩)
    | (go_at_call 18; with_reducible refine (I.out _).mono ?_; rintro e w2 ⟨rfl, hb2⟩; obtain ⟨kr, hbz⟩ := KR.out _ _ hb1 hb2)
    | refine wpList_store_row rfl _ _ _ rfl _ _ rfl rfl _ _ kr (infoSet' _) hold.out (rowA_one _ _) ?_)
  refine bodyPost_ret (results_cell_row rfl _ _ w.heap.size _ _ _ _ rfl (kr.setRow noSl) Tryd.underlying40 rfl (infoSet' _)) rfl ?_
  exact ⟨rfl, below_setRow hbz (Nat.le_refl _) _⟩
end Go.Proofs.YtcdoiadmnckccaaDoor
