/- slices.DeleteFunc at pairs; the keeps' fair. -/
import Derived.Test.YtheiamidochooaaDoorDel
namespace Go.Proofs.YtheiamidochooaaDoor
open Go.RowKit Go.Joins
set_option linter.unusedVariables false

/-- Of the first j those that are kept. -/
def keptL (M : List Pr) (j : Nat) : List Pr := (M.take j).filter fairP
theorem keptL_le (M : List Pr) (j : Nat) : (keptL M j).length ≤ j := by
  unfold keptL
  have := List.length_filter_le fairP (M.take j)
  rw [List.length_take] at this
  omega
theorem keptL_keep (M : List Pr) (j : Nat) (p : Pr) (h : M[j]? = some p) (hf : fairP p = true) : keptL M (j + 1) = keptL M j ++ [p] := by
  unfold keptL; rw [List.take_add_one, h, List.filter_append]; simp [hf]
theorem keptL_skip (M : List Pr) (j : Nat) (p : Pr) (h : M[j]? = some p) (hf : fairP p = false) : keptL M (j + 1) = keptL M j := by
  unfold keptL; rw [List.take_add_one, h, List.filter_append]; simp [hf]
theorem keptL_all (M : List Pr) : ∀ j, j ≤ M.length → (∀ (i : Nat) p, i < j → M[i]? = some p → fairP p = true) → keptL M j = M.take j := fun j hj h => by
  unfold keptL
  refine List.filter_eq_self.2 fun p hp => ?_
  obtain ⟨i, hi, e⟩ := List.getElem_of_mem hp
  have hi2 : i < j := by simp at hi; omega
  refine h i p hi2 ?_
  rw [← e, List.getElem_take]
  exact List.getElem?_eq_getElem _

/-- The clone's block while DeleteFunc is under way. -/
def DelAt (W : World) (g : Nat) (K M : List Pr) (j : Nat) : Prop :=
  g < W.heap.size ∧ RowAt W g 0 K ∧ (∀ (a : Nat) p, j ≤ a → M[a]? = some p → W.cell? ⟨g, 0 + a * 2, none⟩ = some (.string (mkS p.1)) ∧ W.cell? ⟨g, 0 + a * 2 + 1, none⟩ = some (.string (mkS p.2))) ∧
  ∀ o, o < M.length * 2 → (W.cell? ⟨g, o, none⟩).isSome = true ∧ W.frozen? ⟨g, o, none⟩ = false
theorem DelAt.below {W W' : World} {g : Nat} {K M : List Pr} {j : Nat} (h : DelAt W g K M j) (hb : Below W.heap.size W W') : DelAt W' g K M j := by
  obtain ⟨h1, h2, h3, h4⟩ := h
  refine ⟨Nat.lt_of_lt_of_le h1 hb.size, RowAt.below h1 h2 hb, fun a p ha hp => ?_, fun o ho => ?_⟩
  · obtain ⟨c1, c2⟩ := h3 a p ha hp
    exact ⟨(hb.cell (p := ⟨g, _, none⟩) h1).trans c1, (hb.cell (p := ⟨g, _, none⟩) h1).trans c2⟩
  · obtain ⟨c1, c2⟩ := h4 o ho
    exact ⟨by rw [hb.cell (p := ⟨g, o, none⟩) h1]; exact c1, (hb.frozen (p := ⟨g, o, none⟩) h1).trans c2⟩
theorem DelAt.next {W : World} {g : Nat} {K M : List Pr} {j : Nat} (h : DelAt W g K M j) : DelAt W g K M (j + 1) :=
  ⟨h.1, h.2.1, fun a p ha hp => h.2.2.1 a p (by omega) hp, h.2.2.2⟩
theorem DelAt.put {W : World} {g : Nat} {K M : List Pr} {j : Nat} (h : DelAt W g K M j) (p : Pr) (hk : K.length < j) (hj : j ≤ M.length) :
    DelAt ((W.setCell ⟨g, K.length * 2, none⟩ (.string (mkS p.1))).setCell ⟨g, K.length * 2 + 1, none⟩ (.string (mkS p.2))) g (K ++ [p]) M j := by
  obtain ⟨h1, h2, h3, h4⟩ := h
  obtain ⟨c0, f0⟩ := h4 (K.length * 2) (by omega)
  obtain ⟨c1, f1⟩ := h4 (K.length * 2 + 1) (by omega)
  have ot : ∀ o, o ≠ K.length * 2 → o ≠ K.length * 2 + 1 → ((W.setCell ⟨g, K.length * 2, none⟩ (.string (mkS p.1))).setCell ⟨g, K.length * 2 + 1, none⟩ (.string (mkS p.2))).cell? ⟨g, o, none⟩ = W.cell? ⟨g, o, none⟩ := fun o n1 n2 => by
    rw [World.cell?_setCell_other _ _ _ _ (by simp), World.cell?_setCell_other _ _ _ _ (by simp)]
  have a0 : (W.setCell ⟨g, K.length * 2, none⟩ (.string (mkS p.1))).cell? ⟨g, K.length * 2, none⟩ = some (.string (mkS p.1)) := World.cell?_setCell_same' _ _ _ c0
  have b0 : ((W.setCell ⟨g, K.length * 2, none⟩ (.string (mkS p.1))).setCell ⟨g, K.length * 2 + 1, none⟩ (.string (mkS p.2))).cell? ⟨g, K.length * 2, none⟩ = some (.string (mkS p.1)) := by rw [World.cell?_setCell_other _ _ _ _ (by simp)]; exact a0
  have b1 : ((W.setCell ⟨g, K.length * 2, none⟩ (.string (mkS p.1))).setCell ⟨g, K.length * 2 + 1, none⟩ (.string (mkS p.2))).cell? ⟨g, K.length * 2 + 1, none⟩ = some (.string (mkS p.2)) := World.cell?_setCell_same' _ _ _ (by rw [World.cell?_setCell_other _ _ _ _ (by simp)]; exact c1)
  refine ⟨by simpa using h1, fun i q hq => ?_, fun a q ha hq => ?_, fun o ho => ⟨?_, by simp; exact (h4 o ho).2⟩⟩
  · have hi := (List.getElem?_eq_some_iff.1 hq).1
    rw [List.length_append] at hi
    simp at hi
    by_cases e : i = K.length
    · subst e
      rw [List.getElem?_append_right (Nat.le_refl _), Nat.sub_self] at hq
      simp at hq
      subst hq
      rw [Nat.zero_add]
      exact ⟨b0, b1⟩
    · rw [List.getElem?_append_left (by omega)] at hq
      obtain ⟨x1, x2⟩ := h2 i q hq
      exact ⟨(ot _ (by omega) (by omega)).trans x1, (ot _ (by omega) (by omega)).trans x2⟩
  · obtain ⟨x1, x2⟩ := h3 a q ha hq
    exact ⟨(ot _ (by omega) (by omega)).trans x1, (ot _ (by omega) (by omega)).trans x2⟩
  · by_cases e0 : o = K.length * 2
    · rw [e0, b0]; rfl
    · by_cases e1 : o = K.length * 2 + 1
      · rw [e1, b1]; rfl
      · rw [ot o e0 e1]; exact (h4 o ho).1

theorem sizeSetCells (b : Nat) : ∀ (vs : List Value) (o : Nat) (w : World), (w.setCells b o vs).heap.size = w.heap.size
  | [], _, _ => rfl
  | v :: vs, o, w => by rw [World.setCells, sizeSetCells b vs]; simp
theorem belowSetCells {b0 : Nat} {w0 : World} (g : Nat) (hg : b0 ≤ g) : ∀ (vs : List Value) (o : Nat) (w : World), Below b0 w0 w → Below b0 w0 (w.setCells g o vs)
  | [], _, _, h => h
  | v :: vs, o, w, h => belowSetCells g hg vs (o + 1) _ (h.setCell (p := ⟨g, o, none⟩) hg v)
theorem clear_pairs (w : World) (b o n c : Nat) (hn : 0 < n) (hc : ∀ j, j < n * 2 → (w.cell? ⟨b, o + j, none⟩).isSome = true) (hf : ∀ j, j < n * 2 → w.frozen? ⟨b, o + j, none⟩ = false) :
    ∃ vs : List Value, vs.length = n * 2 ∧ ∀ ty, (Builtin.clear_ #[22] ty #[.slice (some ⟨b, o, none⟩) n c]).run Tryd.prog w = .ok (.tuple #[]) (w.setCells b o vs) := by
  have hz := Tryd.zeroValue36
  have hl : (Builtin.zeroCells (Value.agg #[.string { data := #[] }, .string { data := #[] }]).cells n).toList.length = n * 2 := by
    simp [Builtin.zeroCells, Value.cells]
  have h1 : ∀ v ∈ (Builtin.zeroCells (Value.agg #[.string { data := #[] }, .string { data := #[] }]).cells n).toList, v.oneCell' = true := fun v hv => by
    simp only [Builtin.zeroCells, Array.toList_map, List.mem_map] at hv
    obtain ⟨i, _, rfl⟩ := hv
    rcases Nat.mod_two_eq_zero_or_one i with h | h
    · simp [Value.cells, h]; rfl
    · simp [Value.cells, h]; rfl
  refine ⟨_, hl, fun ty => ?_⟩
  have hst := run_storeCells_cells (P := Tryd.prog) b o (Builtin.zeroCells (Value.agg #[.string { data := #[] }, .string { data := #[] }]).cells n).toList 0 w (by rw [hl]; simpa using hc) (by rw [hl]; simpa using hf) h1
  simp only [Nat.add_zero] at hst
  obtain ⟨m, rfl⟩ : ∃ m, n = m + 1 := ⟨n - 1, by omega⟩
  simp [Builtin.clear_, run_underlying Tryd.underlying22, hz, hst]

set_option maxHeartbeats 2000000 in
set_option maxRecDepth 100000 in
theorem delete_row (g cap : Nat) (M : List Pr) (hl : M.length ≤ 100000) (hcap : M.length ≤ cap) (hcm : cap ≤ maxLen) (hz : ∀ p ∈ M, p.1.length ≤ reachBytes ∧ p.2.length ≤ reachBytes) (b0 : Nat) (w0 w : World) (hb : Below b0 w0 w) (hg : b0 ≤ g) (hs : b0 = w0.heap.size) (hD : DelAt w g M M 0) :
    Calls Tryd.prog 49 #[.slice (some ⟨g, 0, none⟩) M.length cap, .func (.func 51) #[] #[]] w fun e w' => (e = .returned (.slice (some ⟨g, 0, none⟩) (keptL M M.length).length cap) ∧ PairsAt w' (some ⟨g, 0, none⟩) (keptL M M.length)) ∧ Below b0 w0 w' := by
  unfold maxLen at hcm
  have HI := Lib.hid (indexF_any g 0 cap M hl hz w hD.1 hD.2.1)
  have HS := Lib.hid (fun (i : Nat) (p : Pr) (hp : M[i]? = some p) W => strike_any p.1 p.2 (hz p (List.mem_of_getElem? hp)).1 (hz p (List.mem_of_getElem? hp)).2 W)
  have HZ := Lib.hid hs
  have HB := Lib.hid (And.intro hb hD)
  have HL := Lib.hid (keptL_le M)
  clear hD hz hb hs
  go_enter Tryd.func49, Tryd.ntmps49
  go_wp2_with (go_at_call 59; refine HI.out.mono ?_; rintro e w1 ⟨⟨r, rfl, hr⟩, h1⟩; rcases hr with ⟨rfl, hall⟩ | ⟨k, rfl, hk, hkf, hkt⟩)
  · go_ret
    have hall' := keptL_all M M.length (Nat.le_refl _) fun i p _ hp => hall i p hp
    rw [List.take_length] at hall'
    rw [hall']
    obtain ⟨d1, d2, _⟩ := HB.out.2.below h1
    refine ⟨⟨rfl, fun i p hp => ⟨g, 0, rfl, d1, d2 i p hp⟩⟩, HB.out.1.trans (h1.mono (by rw [HZ.out]; exact HB.out.1.size))⟩
  · have HA := Lib.hid (show Below b0 w0 w1 ∧ DelAt w1 g (keptL M (k + 1)) M (k + 1) ∧ (keptL M (k + 1)).length < k + 1 from by
      have e1 : keptL M (k + 1) = M.take k := by
        rw [keptL_skip M k _ (List.getElem?_eq_getElem hk) (hkf _ (List.getElem?_eq_getElem hk)), keptL_all M k (by omega) hkt]
      have hd := HB.out.2.below h1
      refine ⟨HB.out.1.trans (h1.mono (by rw [HZ.out]; exact HB.out.1.size)), ⟨hd.1, fun i p hp => ?_, fun a p _ hp => hd.2.1 a p hp, hd.2.2.2⟩, by rw [e1]; simp; omega⟩
      rw [e1] at hp
      rw [List.getElem?_take] at hp
      split at hp
      · exact hd.2.1 i p hp
      · cases hp)
    have HK : (keptL M (k + 1)).length = k := by
      rw [keptL_skip M k _ (List.getElem?_eq_getElem hk) (hkf _ (List.getElem?_eq_getElem hk)), keptL_all M k (by omega) hkt]; simp; omega
    have HKK := Lib.hid HK
    clear hkf hkt h1 HI HB HK
    have hne1 : ((k : Int) == -1) = false := beq_eq_false_iff_ne.2 (by omega)
    go_wp2
    go_loopg [5, 6, 7] M.length (fun gg s5 s6 _ wr => ∃ (j m : Nat), s5 = .int .i64 m ∧ s6 = .int .i64 j ∧ j ≤ M.length ∧ M.length - j ≤ gg ∧ m < j ∧ Aside (Below b0 w0 wr ∧ DelAt wr g (keptL M j) M j ∧ (keptL M j).length = m))
    case atStart => exact ⟨k + 1, k, rfl, by first | rfl | simp, by omega, by omega, by omega, HA.out.1, HA.out.2.1, HKK.out⟩
    case round =>
      obtain ⟨j, m, rfl, rfl, hj, hgg, hmj, A⟩ := hrel
      by_cases hlt : j < M.length
      · obtain ⟨p, hp⟩ : ∃ p, M[j]? = some p := ⟨_, List.getElem?_eq_getElem hlt⟩
        obtain ⟨x1, x2⟩ := A.out.2.1.2.2.1 j p (Nat.le_refl _) hp
        have S := Lib.hid (HS.out j p hp)
        have HA2 := Lib.hid A.out
        have HP := Lib.hid hp
        clear A hp HA HKK
        rw [Nat.zero_add] at x1 x2
        have FX := Lib.hid (show ∀ w2, Below (wr.alloc (.cells #[.string (mkS p.1), .string (mkS p.2)] 36)).heap.size (wr.alloc (.cells #[.string (mkS p.1), .string (mkS p.2)] 36)) w2 →
            (w2.cell? ⟨wr.heap.size, 0, none⟩ = some (.string (mkS p.1)) ∧ w2.cell? ⟨wr.heap.size, 1, none⟩ = some (.string (mkS p.2))) ∧ (∃ o0 o1, w2.cell? ⟨g, m * 2, none⟩ = some o0 ∧ w2.cell? ⟨g, m * 2 + 1, none⟩ = some o1) ∧ (w2.frozen? ⟨g, m * 2, none⟩ = false ∧ w2.frozen? ⟨g, m * 2 + 1, none⟩ = false) ∧ DelAt w2 g (keptL M j) M j ∧ Below b0 w0 w2 from fun w2 h2 => by
          have hb1 := below_alloc1 wr (.cells #[.string (mkS p.1), .string (mkS p.2)] 36)
          have hd := (HA2.out.2.1.below hb1).below h2
          obtain ⟨e0, f0⟩ := hd.2.2.2 (m * 2) (by omega)
          obtain ⟨e1, f1⟩ := hd.2.2.2 (m * 2 + 1) (by omega)
          obtain ⟨o0, q0⟩ := Option.isSome_iff_exists.1 e0
          obtain ⟨o1, q1⟩ := Option.isSome_iff_exists.1 e1
          have hs1 : b0 ≤ wr.heap.size := by rw [HZ.out]; exact HA2.out.1.size
          refine ⟨⟨(h2.cell (p := ⟨wr.heap.size, 0, none⟩) (by simp)).trans (by simp), (h2.cell (p := ⟨wr.heap.size, 1, none⟩) (by simp)).trans (by simp)⟩, ⟨o0, o1, q0, q1⟩, ⟨f0, f1⟩, hd, HA2.out.1.trans ((hb1.trans (h2.mono (by simp))).mono hs1)⟩)
        have HM := Lib.hid HA2.out.2.2
        clear HA2
        cases hf : fairP (p.1, p.2) with
        | true =>
          have HF := Lib.hid hf
          clear hf
          go_wp2_with (go_at_call 51; refine (S.out _).mono ?_; rintro e w2 ⟨rfl, h2⟩; rw [HF.out]; obtain ⟨⟨y1, y2⟩, ⟨o0, o1, y3, y4⟩, ⟨y5, y6⟩, y7⟩ := FX.out _ h2; replace y7 := Lib.hid y7; clear h2)
          go_roundg (M.length - (j + 1))
          case measure => omega
          case rel =>
            refine ⟨j + 1, m + 1, by first | rfl | simp, by first | rfl | simp, by omega, Nat.le_refl _, by omega, (y7.out.2.setCell (p := ⟨g, _, none⟩) hg _).setCell (p := ⟨g, _, none⟩) hg _, ?_, ?_⟩
            · have h := (y7.out.1.put p (by rw [HM.out]; exact hmj) (by omega)).next
              rw [HM.out] at h
              rw [keptL_keep M j p HP.out HF.out]
              exact h
            · rw [keptL_keep M j p HP.out HF.out, List.length_append, HM.out]; rfl
        | false =>
          have HF := Lib.hid hf
          clear hf
          go_wp2_with (go_at_call 51; refine (S.out _).mono ?_; rintro e w2 ⟨rfl, h2⟩; rw [HF.out]; obtain ⟨⟨y1, y2⟩, ⟨o0, o1, y3, y4⟩, ⟨y5, y6⟩, y7⟩ := FX.out _ h2; replace y7 := Lib.hid y7; clear h2)
          go_roundg (M.length - (j + 1))
          case measure => omega
          case rel =>
            refine ⟨j + 1, m, by first | rfl | simp, by first | rfl | simp, by omega, Nat.le_refl _, by omega, y7.out.2, ?_, ?_⟩
            · rw [keptL_skip M j p HP.out HF.out]; exact y7.out.1.next
            · rw [keptL_skip M j p HP.out HF.out]; exact HM.out
      · obtain rfl : j = M.length := by omega
        obtain ⟨vs, hvl, hcl⟩ := clear_pairs wr g (m * 2) (M.length - m) (cap - m) (by omega) (fun t ht => (A.out.2.1.2.2.2 (m * 2 + t) (by omega)).1) (fun t ht => (A.out.2.1.2.2.2 (m * 2 + t) (by omega)).2)
        have HV := Lib.hid (show Below b0 w0 (wr.setCells g (m * 2) vs) ∧ PairsAt (wr.setCells g (m * 2) vs) (some ⟨g, 0, none⟩) (keptL M M.length) ∧ (keptL M M.length).length = m from by
          obtain ⟨a1, a2, a3⟩ := A.out
          refine ⟨belowSetCells g hg vs (m * 2) _ a1, fun i p hp => ?_, a3⟩
          have hi := (List.getElem?_eq_some_iff.1 hp).1
          obtain ⟨c1, c2⟩ := a2.2.1 i p hp
          refine ⟨g, 0, rfl, by rw [sizeSetCells]; exact a2.1, ?_, ?_⟩
          · rw [World.cell?_setCells_out _ _ _ _ _ (fun _ _ => Or.inl (by show 0 + i * 2 < m * 2; omega))]; exact c1
          · rw [World.cell?_setCells_out _ _ _ _ _ (fun _ _ => Or.inl (by show 0 + i * 2 + 1 < m * 2; omega))]; exact c2)
        clear hvl A HA HKK
        go_wp2
        go_ret
        refine ⟨⟨by rw [HV.out.2.2]; first | rfl | simp, HV.out.2.1⟩, HV.out.1⟩

set_option maxHeartbeats 1000000 in
theorem indexF_none (w : World) :
    Calls Tryd.prog 59 #[.slice none 0 0, .func (.func 51) #[] #[]] w fun e w' => e = .returned (.int .i64 (-1)) ∧ Below w.heap.size w w' := by
  go_enter Tryd.func59, Tryd.ntmps59
  go_wp2
  refine wp_loop_rounds 1 ?_
  rw [rounds_succ]
  go_wp2
  go_ret
  exact ⟨rfl, Below.refl _ _⟩
set_option maxHeartbeats 1000000 in
theorem delete_none (w : World) :
    Calls Tryd.prog 49 #[.slice none 0 0, .func (.func 51) #[] #[]] w fun e w' => e = .returned (.slice none 0 0) ∧ Below w.heap.size w w' := by
  have HI := Lib.hid (indexF_none w)
  go_enter Tryd.func49, Tryd.ntmps49
  go_wp2_with (go_at_call 59; refine HI.out.mono ?_; rintro e w1 ⟨rfl, h1⟩)
  go_ret
  exact ⟨rfl, h1⟩

theorem delAt_of_row {W : World} {base : Nat} {g cap : Nat} {M : List Pr} (h : W.ownsRow base 36 2 (.slice (some ⟨g, 0, none⟩) M.length cap) M.length (pairCells M)) : base ≤ g ∧ M.length ≤ cap ∧ cap ≤ maxLen ∧ DelAt W g M M 0 := by
  have hP := pairsAt_of_row h
  rcases h.2 with ⟨h0, _⟩ | ⟨g', cap', cur, h0, h1, h2, h3, h4, h5, _⟩
  · cases h0
  · cases h0
    have hlt : g < W.heap.size := (Array.getElem?_eq_some_iff.1 h2).1
    have hR : ∀ (i : Nat) p, M[i]? = some p → W.cell? ⟨g, 0 + i * 2, none⟩ = some (.string (mkS p.1)) ∧ W.cell? ⟨g, 0 + i * 2 + 1, none⟩ = some (.string (mkS p.2)) := fun i p hp => by
      obtain ⟨b, off, e, _, c1, c2⟩ := hP i p hp
      cases e
      exact ⟨c1, c2⟩
    refine ⟨h1, h3, h4, hlt, hR, fun a p _ hp => hR a p hp, fun o ho => ⟨?_, ?_⟩⟩
    · have : o < cur.size := by rw [h5]; omega
      simp [World.cell?, h2, this]
    · simp [World.frozen?, h2]

/-- What the keeps hold of a list. -/
def fairL (l : List Pr) : List Pr := (l.take 10).filter fairP
theorem fairL_kept (l : List Pr) (n : Nat) (hn : n = min l.length 10) : (l.take n).length = n ∧ keptL (l.take n) n = fairL l := by
  have h : l.take n = l.take 10 := by
    rcases Nat.le_total l.length 10 with h | h
    · rw [List.take_of_length_le (by omega), List.take_of_length_le h]
    · rw [show n = 10 by omega]
  refine ⟨by rw [List.length_take]; omega, ?_⟩
  unfold keptL fairL
  rw [List.take_take, Nat.min_self, h]
theorem PairsAt.take {W : World} {ad : Option Addr} {l : List Pr} (h : PairsAt W ad l) (n : Nat) : PairsAt W ad (l.take n) := fun i p hi => by
  rw [List.getElem?_take] at hi
  split at hi
  · exact h i p hi
  · cases hi

set_option maxHeartbeats 1000000 in
theorem fair_core (ad : Option Addr) (len c n : Nat) (hl : len ≤ maxLen) (hn : (min len 10) = n) (hc : len ≤ c) (hcm : c ≤ maxLen) (w : World) (L : List Pr) (X : Value → World → Prop)
    (hK : Calls Tryd.prog 50 #[.slice ad n c] w fun e w' => (∃ v, e = .returned v ∧ X v w') ∧ Below w.heap.size w w')
    (hD : ∀ v w1, X v w1 → Below w.heap.size w w1 → Calls Tryd.prog 49 #[v, .func (.func 51) #[] #[]] w1 fun e w' => (∃ v, e = .returned v ∧ SliceIs w' v L) ∧ Below w.heap.size w w') :
    Calls Tryd.prog 22 #[.slice ad len c] w fun e w' => (∃ v, e = .returned v ∧ SliceIs w' v L) ∧ Below w.heap.size w w' := by
  have K := Lib.hid hK
  have D := Lib.hid hD
  clear hK hD
  unfold maxLen at hl hcm
  by_cases h10 : len ≤ 10
  · obtain rfl : len = n := by omega
    have hm : min (len : Int) 10 = (len : Int) := by omega
    clear hn
    go_enter Tryd.func22, Tryd.ntmps22
    go_wp2_with (first
      | (go_at_call 50; refine K.out.mono ?_; rintro e w1 ⟨⟨v, rfl, hX⟩, h1⟩; have hX2 := Lib.hid hX; clear hX)
      | (go_at_call 49; refine (D.out _ _ hX2.out h1).mono ?_; rintro e w2 ⟨⟨v2, rfl, hY⟩, h2⟩))
    go_ret
    exact ⟨⟨_, rfl, hY⟩, h2⟩
  · obtain rfl : n = 10 := by omega
    have hm : min (len : Int) 10 = 10 := by omega
    clear hn
    go_enter Tryd.func22, Tryd.ntmps22
    go_wp2_with (first
      | (go_at_call 50; refine K.out.mono ?_; rintro e w1 ⟨⟨v, rfl, hX⟩, h1⟩; have hX2 := Lib.hid hX; clear hX)
      | (go_at_call 49; refine (D.out _ _ hX2.out h1).mono ?_; rintro e w2 ⟨⟨v2, rfl, hY⟩, h2⟩))
    go_ret
    exact ⟨⟨_, rfl, hY⟩, h2⟩

theorem fair_any (ad : Option Addr) (c : Nat) (l : List Pr) (hl : l.length ≤ maxLen) (hc : l.length ≤ c) (hcm : c ≤ maxLen) (hn : ad = none → c = 0) (hz : ∀ p ∈ l, p.1.length ≤ reachBytes ∧ p.2.length ≤ reachBytes) (w : World) (hM : PairsAt w ad l) :
    Calls Tryd.prog 22 #[.slice ad l.length c] w fun e w' => (∃ v, e = .returned v ∧ SliceIs w' v (fairL l)) ∧ Below w.heap.size w w' := by
  obtain ⟨e1, e2⟩ := fairL_kept l (min l.length 10) rfl
  refine fair_core ad l.length c (min l.length 10) hl rfl hc hcm w (fairL l) (fun v w' => w'.ownsRow w.heap.size 36 2 v (min l.length 10) (pairCells (l.take (min l.length 10)))) ?_ (fun v w1 hX hb => ?_)
  · cases ad with
    | none =>
      obtain rfl := hn rfl
      obtain rfl := pairsAt_none hM
      exact (clone_none w).mono fun e w' ⟨h1, h2⟩ => ⟨⟨_, h1, World.ownsRow_nil _ _ _ _⟩, h2⟩
    | some a =>
      have := clone_some a c (l.take (min l.length 10)) (by rw [e1]; omega) w (hM.take _)
      rw [e1] at this
      exact this
  · rcases hX.2 with ⟨rfl, h0⟩ | ⟨g, cap, cur, rfl, _⟩
    · refine (delete_none w1).mono fun e w' ⟨h1, h2⟩ => ⟨⟨_, h1, none, 0, ?_, fun _ => rfl, ?_⟩, hb.trans (h2.mono hb.size)⟩
      · rw [← e2, h0]; rfl
      · rw [← e2, h0]; exact fun i p hi => by simp [keptL] at hi
    · have hX' : w1.ownsRow w.heap.size 36 2 (.slice (some ⟨g, 0, none⟩) (l.take (min l.length 10)).length cap) (l.take (min l.length 10)).length (pairCells (l.take (min l.length 10))) := by rw [e1]; exact hX
      obtain ⟨d1, d2, d3, d4⟩ := delAt_of_row hX'
      have := delete_row g cap (l.take (min l.length 10)) (by rw [e1]; omega) d2 d3 (fun p hp => hz p (List.mem_of_mem_take hp)) w.heap.size w w1 hb d1 rfl d4
      rw [e1, e2] at this
      exact this.mono fun e w' ⟨⟨h1, h2⟩, h3⟩ => ⟨⟨_, h1, _, _, rfl, fun h => (by cases h), h2⟩, h3⟩
end Go.Proofs.YtheiamidochooaaDoor
