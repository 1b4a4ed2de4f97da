/- (glob.piece).follow. -/
import Derived.Test.YtcdoiadmnckccaaDoorPcs
namespace Go.Proofs.YtcdoiadmnckccaaDoor
set_option linter.unusedVariables false
set_option linter.unusedSimpArgs false
open Go.RowKit Go.Joins
set_option maxRecDepth 100000

theorem zeroEnd (w : World) : (zeroValue 38).run Tryd.prog w = .ok (.agg (rowA 121 (fun _ => false))) w := by kernel_rfl
theorem infoEnd (f : Nat → Bool) : (Tryd.prog.info? 38).map (·.size) = some (rowA 121 f).size := by rw [rowA_size]; kernel_rfl

/-- The blocks of follow: the piece, what was reached, the result. -/
def FolAt (n₀ : Nat) (w wr : World) (p : Pc) (R : Nat → Bool) : Prop := IsPc wr n₀ p ∧ IsRow wr (n₀ + 1) 38 121 R ∧ IsRow wr (n₀ + 2) 38 121 (fun _ => false) ∧ Below n₀ w wr

/-- What one piece of many has reached by place i. -/
def manyTo (p : Pc) (n : List UInt8) (R : Nat → Bool) (i : Nat) : Nat → Bool := fun j => if j ≤ i then followL p n R j else R j
def oneTo (p : Pc) (n : List UInt8) (R : Nat → Bool) (i : Nat) : Nat → Bool := fun j => if j ≤ i then followL p n R j else false
theorem follow_many_step {p : Pc} (hp : p.m = true) {n : List UInt8} {i : Nat} {c : UInt8} (hc : n[i]? = some c) (R : Nat → Bool) : followL p n R (i + 1) = (R (i + 1) || (followL p n R i && p.t c.toNat)) := by
  simp [followL, hp, hc]
theorem follow_one_step {p : Pc} (hp : p.m = false) {n : List UInt8} {i : Nat} {c : UInt8} (hc : n[i]? = some c) (R : Nat → Bool) : followL p n R (i + 1) = (R i && p.t c.toNat) := by
  simp [followL, hp, hc]
theorem manyTo_zero {p : Pc} (hp : p.m = true) (n : List UInt8) (R : Nat → Bool) : ∀ j, manyTo p n R 0 j = R j := by
  intro j
  unfold manyTo
  by_cases h : j ≤ 0
  · obtain rfl : j = 0 := by omega
    simp [followL, hp]
  · simp [h]
theorem oneTo_zero {p : Pc} (hp : p.m = false) (n : List UInt8) (R : Nat → Bool) : ∀ j, oneTo p n R 0 j = false := by
  intro j
  unfold oneTo
  by_cases h : j ≤ 0
  · obtain rfl : j = 0 := by omega
    simp [followL, hp]
  · simp [h]
theorem follow_past {p : Pc} {n : List UInt8} (R : Nat → Bool) {j : Nat} (hj : n.length < j) : followL p n R j = (if p.m = true then R j else false) := by
  cases j with
  | zero => omega
  | succ j => simp [followL, List.getElem?_eq_none (show n.length ≤ j by omega)]
theorem manyTo_end {p : Pc} (hp : p.m = true) (n : List UInt8) (R : Nat → Bool) : ∀ j, manyTo p n R n.length j = followL p n R j := by
  intro j
  unfold manyTo
  by_cases h : j ≤ n.length
  · rw [if_pos h]
  · rw [if_neg h, follow_past R (by omega), if_pos hp]
theorem oneTo_end {p : Pc} (hp : p.m = false) (n : List UInt8) (R : Nat → Bool) : ∀ j, oneTo p n R n.length j = followL p n R j := by
  intro j
  unfold oneTo
  by_cases h : j ≤ n.length
  · rw [if_pos h]
  · rw [if_neg h, follow_past R (by omega), if_neg (by simp [hp])]

theorem fol_start (w : World) (p : Pc) (R : Nat → Bool) : FolAt w.heap.size w (((w.alloc (.cells (pcA p) 42)).alloc (.cells (rowA 121 R) 38)).alloc (.cells (rowA 121 (fun _ => false)) 38)) p R := by
  refine ⟨((IsPc.new w p).alloc _).alloc _, ?_, ?_, (((below_alloc1 w _).alloc (by simp) _).alloc (by simp; omega) _)⟩
  · have := IsRow.new (w.alloc (.cells (pcA p) 42)) 38 121 R
    rw [World.size_alloc] at this
    exact this.alloc _
  · have := IsRow.new ((w.alloc (.cells (pcA p) 42)).alloc (.cells (rowA 121 R) 38)) 38 121 (fun _ => false)
    rw [World.size_alloc, World.size_alloc] at this
    exact this

set_option maxHeartbeats 1000000 in
theorem follow_any (p : Pc) (R : Nat → Bool) (n : List UInt8) (hn : n.length ≤ 120) (w : World) :
    Calls Tryd.prog 10 #[.agg (pcA p), .agg (rowA 121 R), .string (mkS n)] w fun e w' => e = .returned (.agg (rowA 121 (followL p n R))) ∧ Below w.heap.size w w' := by
  have ZE := Lib.hid (fun (w : World) => zeroEnd w)
  have HS := Lib.hid (fol_start w p R)
  have hsz := mkS_size n
  have HI := Lib.hid (fun (i : Nat) (c : UInt8) (h : n[i]? = some c) (w : World) => mkS_index n (i : Int) c (by omega) (by simpa using h) w)
  obtain ⟨L, hL⟩ : ∃ L, n.length = L := ⟨_, rfl⟩
  have HL := Lib.hid hL
  rw [hL] at hsz hn
  clear hL
  cases hm : p.m with
  | false =>
    have hw3 := HS.out
    generalize hW : ((w.alloc (.cells (pcA p) 42)).alloc (.cells (rowA 121 R) 38)).alloc (.cells (rowA 121 (fun _ => false)) 38) = W at hw3
    have hl := hw3.1.last
    rw [hm] at hl
    have HW := Lib.hid hW
    have H3 := Lib.hid hw3
    clear hW hw3 HS
    go_enter Tryd.func10, Tryd.ntmps10
    go_wp2_with (first
      | refine wpList_box_row rfl _ _ rfl _ rfl ?_
      | (refine wpList_alloc_row rfl _ rfl _ (ZE.out _) ?_; try rw [HW.out]))
    go_loopg [15] L (fun g s15 wr => ∃ i : Nat, i + g = L ∧ s15 = .int .i64 (i : Int) ∧ FolAt w.heap.size w wr p R ∧ IsRow wr W.heap.size 38 121 (oneTo p n R i))
    case atStart =>
      have h := H3.out
      have hb : Below w.heap.size w (W.alloc (.cells (rowA 121 (fun _ => false)) 38)) := h.2.2.2.alloc h.2.2.2.size _
      exact ⟨0, by omega, rfl, ⟨h.1.alloc _, h.2.1.alloc _, h.2.2.1.alloc _, hb⟩, (IsRow.new W _ _ _).congr (fun j _ => (oneTo_zero hm n R j).symm)⟩
    case round =>
      obtain ⟨i, hig, rfl, hF, hN⟩ := hrel
      have HF := Lib.hid hF
      have HN := Lib.hid hN
      have hlt := H3.out.2.2.1.lt
      have HLT := Lib.hid hlt
      clear hl
      cases gk with
      | zero =>
        obtain rfl : i = L := by omega
        have hN2 := hN.congr (g := followL p n R) (fun j _ => by rw [← HL.out]; exact oneTo_end hm n R j)
        have HB := Lib.hid (hF.2.2.2)
        have hr := hF.2.2.1
        have h3 := Lib.hid (show (rowA 121 (fun _ => false)).size = (rowA 121 (followL p n R)).size by rw [rowA_size, rowA_size])
        clear hF hN
        go_wp2_with (first
          | refine wpList_load_row rfl _ _ rfl _ rfl _ _ _ _ hN2 Tryd.underlying38 rfl (infoEnd _) ?_
          | refine wpList_store_row rfl _ _ _ rfl _ (rowA 121 (followL p n R)) rfl rfl _ _ hr (infoEnd _) h3.out (rowA_one _ _) ?_)
        refine bodyPost_ret (results_cell_row rfl _ _ (w.heap.size + 2) _ _ _ _ rfl (hr.setRow _) Tryd.underlying38 rfl (infoEnd _)) rfl ?_
        exact ⟨rfl, below_setRow HB.out (by omega) _⟩
      | succ g =>
        have hi : i < L := by omega
        have hiz : (i : Int) < (L : Int) := by omega
        obtain ⟨c, hc⟩ : ∃ c, n[i]? = some c := ⟨_, List.getElem?_eq_getElem (by rw [HL.out]; exact hi)⟩
        have hidx := HI.out i c hc
        have c1 := hF.2.1.cell (i := i) (by omega)
        have c2 := hF.1.cell (i := c.toNat) c.toNat_lt
        have c3 := hN.cell (i := i + 1) (by omega)
        have f3 := hN.frozen (i + 1)
        have hu := u8_lt c
        have h121 : (i : Int) < 121 := by omega
        have h121' : (i : Int) + 1 < 121 := by omega
        have h9 : (i : Int) + 1 ≤ 9223372036854775807 := by omega
        have NX := Lib.hid (show ∀ v, v = (R i && p.t c.toNat) → FolAt w.heap.size w (wr.setCell ⟨W.heap.size, i + 1, none⟩ (.bool v)) p R ∧ IsRow (wr.setCell ⟨W.heap.size, i + 1, none⟩ (.bool v)) W.heap.size 38 121 (oneTo p n R (i + 1)) from fun v hv => by
          have hz : w.heap.size < W.heap.size := by omega
          refine ⟨⟨hF.1.setOther (by show w.heap.size ≠ W.heap.size; omega) _, hF.2.1.setOther (by show w.heap.size + 1 ≠ W.heap.size; omega) _, hF.2.2.1.setOther (by show w.heap.size + 2 ≠ W.heap.size; omega) _, hF.2.2.2.setCell (by show w.heap.size ≤ W.heap.size; omega) _⟩, (hN.set (i + 1) v).congr (fun j _ => ?_)⟩
          unfold oneTo
          by_cases h : j = i + 1
          · subst h; simp [hv, follow_one_step hm hc]
          · by_cases h2 : j ≤ i
            · simp [h, h2, show j ≤ i + 1 by omega]
            · simp [h, h2, show ¬ j ≤ i + 1 by omega])
        generalize R i = v1 at NX c1
        generalize p.t c.toNat = v2 at NX c2
        clear hF hN hc hlt
        cases v1
        · go_wp2
          go_roundg g
          case measure => omega
          case rel => exact ⟨i + 1, by omega, by first | rfl | simp, NX.out _ rfl⟩
        · go_wp2
          go_roundg g
          case measure => omega
          case rel => exact ⟨i + 1, by omega, by first | rfl | simp, NX.out _ (by simp)⟩
  | true =>
    have hw3 := HS.out
    generalize hW : ((w.alloc (.cells (pcA p) 42)).alloc (.cells (rowA 121 R) 38)).alloc (.cells (rowA 121 (fun _ => false)) 38) = W at hw3
    have hl := hw3.1.last
    rw [hm] at hl
    have HW := Lib.hid hW
    have H3 := Lib.hid hw3
    clear hW hw3 HS
    go_enter Tryd.func10, Tryd.ntmps10
    go_wp2_with (first
      | refine wpList_box_row rfl _ _ rfl _ rfl ?_
      | (refine wpList_alloc_row rfl _ rfl _ (ZE.out _) ?_; try rw [HW.out]))
    go_loopg [36] L (fun g s36 wr => ∃ i : Nat, i + g = L ∧ s36 = .int .i64 (i : Int) ∧ FolAt w.heap.size w wr p (manyTo p n R i))
    case atStart =>
      have h := H3.out
      exact ⟨0, by omega, rfl, h.1, h.2.1.congr (fun j _ => (manyTo_zero hm n R j).symm), h.2.2⟩
    case round =>
      obtain ⟨i, hig, rfl, hF⟩ := hrel
      have HF := Lib.hid hF
      clear hl
      cases gk with
      | zero =>
        obtain rfl : i = L := by omega
        have hN2 := hF.2.1.congr (g := followL p n R) (fun j _ => by rw [← HL.out]; exact manyTo_end hm n R j)
        have HB := Lib.hid (hF.2.2.2)
        have hr := hF.2.2.1
        have h3 := Lib.hid (show (rowA 121 (fun _ => false)).size = (rowA 121 (followL p n R)).size by rw [rowA_size, rowA_size])
        clear hF
        go_wp2_with (first
          | refine wpList_load_row rfl _ _ rfl _ rfl _ _ _ _ hN2 Tryd.underlying38 rfl (infoEnd _) ?_
          | refine wpList_store_row rfl _ _ _ rfl _ (rowA 121 (followL p n R)) rfl rfl _ _ hr (infoEnd _) h3.out (rowA_one _ _) ?_)
        refine bodyPost_ret (results_cell_row rfl _ _ (w.heap.size + 2) _ _ _ _ rfl (hr.setRow _) Tryd.underlying38 rfl (infoEnd _)) rfl ?_
        exact ⟨rfl, below_setRow HB.out (by omega) _⟩
      | succ g =>
        have hi : i < L := by omega
        have hiz : (i : Int) < (L : Int) := by omega
        obtain ⟨c, hc⟩ : ∃ c, n[i]? = some c := ⟨_, List.getElem?_eq_getElem (by rw [HL.out]; exact hi)⟩
        have hidx := HI.out i c hc
        have c1 := hF.2.1.cell (i := i) (by omega)
        have c2 := hF.1.cell (i := c.toNat) c.toNat_lt
        have c3 := hF.2.1.cell (i := i + 1) (by omega)
        have f3 := hF.2.1.frozen (i + 1)
        have hu := u8_lt c
        have h121 : (i : Int) < 121 := by omega
        have h121' : (i : Int) + 1 < 121 := by omega
        have h9 : (i : Int) + 1 ≤ 9223372036854775807 := by omega
        have e1 : manyTo p n R i i = followL p n R i := by simp [manyTo]
        have e2 : manyTo p n R i (i + 1) = R (i + 1) := by unfold manyTo; rw [if_neg (by omega)]
        rw [e1] at c1
        rw [e2] at c3
        have NXT := Lib.hid (show (followL p n R i && p.t c.toNat) = true → FolAt w.heap.size w (wr.setCell ⟨w.heap.size + 1, i + 1, none⟩ (.bool true)) p (manyTo p n R (i + 1)) from fun hv => by
          refine ⟨hF.1.setOther (by show w.heap.size ≠ w.heap.size + 1; omega) _, (hF.2.1.set (i + 1) true).congr (fun j _ => ?_), hF.2.2.1.setOther (by show w.heap.size + 2 ≠ w.heap.size + 1; omega) _, hF.2.2.2.setCell (by show w.heap.size ≤ w.heap.size + 1; omega) _⟩
          unfold manyTo
          by_cases h : j = i + 1
          · subst h; simp [follow_many_step hm hc, hv]
          · by_cases h2 : j ≤ i
            · simp [h, h2, show j ≤ i + 1 by omega]
            · simp [h, h2, show ¬ j ≤ i + 1 by omega])
        have NXF := Lib.hid (show (followL p n R i && p.t c.toNat) = false → FolAt w.heap.size w wr p (manyTo p n R (i + 1)) from fun hv => by
          refine ⟨hF.1, hF.2.1.congr (fun j _ => ?_), hF.2.2⟩
          unfold manyTo
          by_cases h : j = i + 1
          · subst h; simp [follow_many_step hm hc, hv]
          · by_cases h2 : j ≤ i
            · simp [h2, show j ≤ i + 1 by omega]
            · simp [h2, show ¬ j ≤ i + 1 by omega])
        generalize followL p n R i = v1 at NXT NXF c1
        generalize p.t c.toNat = v2 at NXT NXF c2
        clear hF hc e1 e2
        cases v1
        · go_wp2
          go_roundg g
          case measure => omega
          case rel => exact ⟨i + 1, by omega, by first | rfl | simp, NXF.out rfl⟩
        · cases v2
          · go_wp2
            go_roundg g
            case measure => omega
            case rel => exact ⟨i + 1, by omega, by first | rfl | simp, NXF.out (by first | rfl | simp | trivial)⟩
          · go_wp2
            go_roundg g
            case measure => omega
            case rel => exact ⟨i + 1, by omega, by first | rfl | simp, NXT.out (by first | rfl | simp | trivial)⟩
end Go.Proofs.YtcdoiadmnckccaaDoor
