/- glob.first. -/
import Derived.Test.YtcdoiadmnckccaaDoorSet
import Derived.Test.YtcdoiadmnckccaaDoorPc
namespace Go.Proofs.YtcdoiadmnckccaaDoor
set_option linter.unusedVariables false
set_option linter.unusedSimpArgs false
open Go.RowKit Go.Joins
set_option maxRecDepth 100000

/-- What first tells: a piece, the rest; or something and false. -/
def FirstIs (s : List UInt8) (e : Ending) : Prop := match firstL s with
  | none => ∃ p r, e = .returned (.tuple #[pcV p, r, .bool false])
  | some (p, r) => e = .returned (.tuple #[pcV p, .string (mkS r), .bool true])

theorem u8_ne {c d : UInt8} (h : ¬ c = d) : ¬ (c.toNat : Int) = (d.toNat : Int) := fun e => h ((u8_eq c d).1 e)

/-- The result's block, behind a call. -/
theorem pc_below (w : World) : ∀ w1, Below (w.alloc (.cells (pcA noPc) 42)).heap.size (w.alloc (.cells (pcA noPc) 42)) w1 → IsPc w1 w.heap.size noPc ∧ Below w.heap.size w w1 := fun w1 h1 => by
  have h0 := IsPc.new w noPc
  exact ⟨h0.below h1 h0.lt, (below_alloc1 w _).trans (h1.mono (by simp))⟩
theorem pc_again {w w1 w2 : World} {n : Nat} {q : Pc} (h : IsPc w1 n q ∧ Below n w w1) (h1 : Below w1.heap.size w1 w2) : IsPc w2 n q ∧ Below n w w2 :=
  ⟨h.1.below h1 h.1.lt, h.2.trans (h1.mono (Nat.le_of_lt h.1.lt))⟩
theorem noSlash_agg (w : World) : Calls Tryd.prog 19 #[] w fun e w' => e = .returned (.agg (rowA 256 noSl)) ∧ Below w.heap.size w w' := noSlash_any w
theorem inverse_none (w : World) : Calls Tryd.prog 18 #[.agg (rowA 256 (fun _ => false))] w fun e w' => e = .returned (.agg (rowA 256 allT)) ∧ Below w.heap.size w w' := inverse_any (fun _ => false) w
theorem only_agg (c : UInt8) (w : World) : Calls Tryd.prog 22 #[.int .u8 (c.toNat : Int)] w fun e w' => e = .returned (.agg (rowA 256 (onlyT c))) ∧ Below w.heap.size w w' := only_any c w
theorem exec_build2 {P : Program} {o : Oper} {ρ : Operand → Value} {w : World} (t : TypeId) (x y : Operand) (hop : o.op = .build t #[(0, x), (1, y)]) (u v : Value) (hx : ρ x = u) (hy : ρ y = v) (c : Array Value) (hc : P.built t [(0, u), (1, v)] = some c) :
    (execOp ρ o).run P w = .ok (.value (.agg c)) w := by
  have e : (#[(0, x), (1, y)].map fun (p : Nat × Operand) => (p.1, ρ p.2)) = #[(0, u), (1, v)] := by simp [hx, hy]
  have h := run_build w t #[(0, u), (1, v)] c hc
  rw [← e] at h
  unfold execOp
  simp only [hop, Sem.run_bind]
  rw [h]; rfl
theorem exec_build0 {P : Program} {o : Oper} {ρ : Operand → Value} {w : World} (t : TypeId) (hop : o.op = .build t #[]) (c : Array Value) (hc : P.built t [] = some c) :
    (execOp ρ o).run P w = .ok (.value (.agg c)) w := by
  have h := run_build w t #[] c hc
  unfold execOp
  simp only [hop, Sem.run_bind]
  rw [show (#[].map fun (p : Nat × Operand) => (p.1, ρ p.2)) = (#[] : Array (Nat × Value)) from by simp, h]; rfl

set_option maxHeartbeats 1000000 in
theorem first_star (s : List UInt8) (w : World) : Calls Tryd.prog 15 #[.string (mkS (42 :: s))] w fun e w' => FirstIs (42 :: s) e ∧ Below w.heap.size w w' := by
  have Z := Lib.hid (fun (w : World) => zeroPc w)
  have P1 := Lib.hid (fun (w : World) => prefix_c s 42 w)
  have i0 := mkS_head 42 s
  rw [show ((42 : UInt8).toNat : Int) = 42 from rfl] at i0
  have s0 := mkS_tail 42 s
  have NS := Lib.hid (fun (w : World) => noSlash_agg w)
  have KR := Lib.hid (pc_below w)
  have BM := Lib.hid (built_many noSl)
  unfold FirstIs
  rw [firstL_cons, if_pos rfl]
  unfold starP
  rw [starred_eq]
  cases hs : ahead 42 s
  · rw [hs] at P1
    rw [if_neg (by simp)]
    clear hs
    go_enter Tryd.func15, Tryd.ntmps15
    go_wp2_with (first
      | refine wpList_alloc_row rfl _ rfl _ (Z.out _) ?_
      | (go_at_call 14; with_reducible refine (P1.out _).mono ?_; rintro e w' ⟨rfl, hw⟩; replace hw := hw.symm; subst hw)
      | (go_at_call 19; with_reducible refine (NS.out _).mono ?_; rintro e w1 ⟨rfl, hb1⟩; obtain ⟨kr, hbz⟩ := KR.out _ hb1; clear hb1)
      | refine wpList_build2 rfl 42 _ _ rfl (.agg (rowA 256 noSl)) (.bool true) rfl rfl _ BM.out ?_
      | refine wpList_store_row rfl _ _ _ rfl _ (pcA ⟨noSl, true⟩) rfl rfl _ _ kr (infoPc _) (by rw [pcA_size, pcA_size]) (pcA_one _) ?_)
    refine bodyPost_ret (results_row3 rfl _ _ w.heap.size _ _ _ _ rfl (kr.setRow _) Tryd.underlying42 rfl (infoPc _)) rfl ?_
    exact ⟨rfl, below_setRow hbz (Nat.le_refl _) _⟩
  · rw [hs] at P1
    rw [if_pos rfl]
    obtain ⟨r, rfl⟩ : ∃ r, s = 42 :: r := by
      cases s with
      | nil => cases hs
      | cons c r => exact ⟨r, by simp only [ahead, decide_eq_true_eq] at hs; rw [hs]⟩
    have s1 := mkS_tail 42 r
    have IV := Lib.hid (fun (w : World) => inverse_none w)
    have BA := Lib.hid (built_many allT)
    have hW0 := Lib.hid (KR.out _ (Below.refl _ _))
    clear hs NS BM
    go_enter Tryd.func15, Tryd.ntmps15
    go_wp2_with (first
      | refine wpList_alloc_row rfl _ rfl _ (Z.out _) ?_
      | (go_at_call 14; with_reducible refine (P1.out _).mono ?_; rintro e w' ⟨rfl, hw⟩; replace hw := hw.symm; subst hw))
    generalize w.alloc (.cells (pcA noPc) 42) = W at hW0 ⊢
    refine wp_region_held_drew (S := fun w' => (∃ q, IsPc w' w.heap.size q) ∧ Below w.heap.size w w') (by kernel_rfl) ⟨⟨_, hW0.out.1⟩, hW0.out.2.drew⟩ (fun hHeld => ?_)
    generalize W.drew = W1 at hHeld ⊢
    refine take_to (i := 0) 31 (.agg (rowA 256 (fun _ => false))) rfl rfl (by kernel_rfl) (by kernel_rfl) (by kernel_rfl) (fun _ _ _ h => h) (Or.inl ⟨by rfl, fun w1 _ => exec_build0 _ rfl _ builtSet0⟩) (by assumption) ?_
    simp only [List.setIfInBounds_toArray, List.set_cons_succ, List.set_cons_zero]
    refine take_to (i := 3) 34 (.string (mkS (42 :: r))) rfl rfl (by kernel_rfl) (by kernel_rfl) (by kernel_rfl) (fun _ _ _ h => h) (Or.inl ⟨by rfl, fun _ _ => rfl⟩) (by assumption) ?_
    simp only [List.setIfInBounds_toArray, List.set_cons_succ, List.set_cons_zero]
    refine take_to (i := 4) 35 (.string (mkS r)) rfl rfl (by kernel_rfl) (by kernel_rfl) (by kernel_rfl) (fun _ _ _ h => h) (Or.inl ⟨by rfl, ?_⟩) (by assumption) ?_
    · (intro w hSw; (try dsimp only at hSw); go_simp; try with_reducible rfl)
    simp only [List.setIfInBounds_toArray, List.set_cons_succ, List.set_cons_zero]
    refine wpAnyH_ready (rs := [1]) (by kernel_rfl) (by simp) ?_
    refine AllReadyH.cons rfl (fun K hK => ?_) AllReadyH.nil
    go_simp
    go_at_call 18
    with_reducible refine (IV.out _).mono ?_
    rintro e w2 ⟨rfl, hb2⟩
    refine hK.out _ _ ⟨?_, ?_⟩ (fun hHeld => ?_)
    · obtain ⟨⟨q, hq⟩, hh⟩ := hHeld
      exact ⟨q, (pc_again ⟨hq, hh⟩ hb2).1⟩
    · obtain ⟨⟨q, hq⟩, hh⟩ := hHeld
      exact (pc_again ⟨hq, hh⟩ hb2).2
    clear hK hb2
    (try simp only [Act.put]); (try simp only [List.setIfInBounds_toArray]); (try simp only [List.set_cons_succ]); (try simp only [List.set_cons_zero])
    refine take_to (i := 2) 33 (.agg (pcA ⟨allT, true⟩)) rfl rfl (by kernel_rfl) (by kernel_rfl) (by kernel_rfl) (fun _ _ _ h => h) (Or.inl ⟨by rfl, fun w1 _ => exec_build2 _ _ _ rfl (.agg (rowA 256 allT)) (.bool true) rfl rfl _ BA.out⟩) (by assumption) ?_
    simp only [List.setIfInBounds_toArray, List.set_cons_succ, List.set_cons_zero]
    refine wpAnyH_ready (rs := [5]) (by kernel_rfl) (by simp) ?_
    refine AllReadyH.cons rfl (fun K hK => ?_) AllReadyH.nil
    rw [if_pos (by rfl)]
    obtain ⟨⟨q, hq⟩, hh⟩ := hHeld
    refine store_row_no rfl _ _ _ rfl _ (pcA ⟨allT, true⟩) rfl rfl _ _ hq (infoPc _) (by rw [pcA_size, pcA_size]) (pcA_one _) ?_
    refine hK.out _ _ ⟨⟨_, hq.setRow _⟩, below_setRow hh (Nat.le_refl _) _⟩ (fun hHeld => ?_)
    have hrow := hq.setRow ⟨allT, true⟩
    clear hq hh hK
    generalize w2.setRow w.heap.size (pcA ⟨allT, true⟩) = W2 at *
    refine take_to (i := 6) 3 (.string (mkS r)) rfl rfl (by kernel_rfl) (by kernel_rfl) (by kernel_rfl) (fun _ _ _ h => h) (Or.inl ⟨by rfl, fun _ _ => rfl⟩) (by assumption) ?_
    simp only [List.setIfInBounds_toArray, List.set_cons_succ, List.set_cons_zero]
    refine take_to (i := 7) 4 (.bool true) rfl rfl (by kernel_rfl) (by kernel_rfl) (by kernel_rfl) (fun _ _ _ h => h) (Or.inl ⟨by rfl, fun _ _ => rfl⟩) (by assumption) ?_
    simp only [List.setIfInBounds_toArray, List.set_cons_succ, List.set_cons_zero]
    refine wpAnyH_done (by kernel_rfl) ?_ _
    go_wp2
    refine bodyPost_ret (results_row3 rfl _ _ w.heap.size _ _ _ _ rfl hrow Tryd.underlying42 rfl (infoPc _)) rfl ?_
    exact ⟨rfl, hHeld.2⟩

set_option maxHeartbeats 1000000 in
theorem first_any1 (s : List UInt8) (w : World) : Calls Tryd.prog 15 #[.string (mkS (63 :: s))] w fun e w' => FirstIs (63 :: s) e ∧ Below w.heap.size w w' := by
  have Z := Lib.hid (fun (w : World) => zeroPc w)
  have i0 := mkS_head 63 s
  rw [show ((63 : UInt8).toNat : Int) = 63 from rfl] at i0
  have s0 := mkS_tail 63 s
  have NS := Lib.hid (fun (w : World) => noSlash_agg w)
  have KR := Lib.hid (pc_below w)
  have BM := Lib.hid (built_one noSl)
  unfold FirstIs
  rw [firstL_cons, if_neg (by decide), if_pos rfl]
  go_enter Tryd.func15, Tryd.ntmps15
  go_wp2_with (first
    | refine wpList_alloc_row rfl _ rfl _ (Z.out _) ?_
    | (go_at_call 19; with_reducible refine (NS.out _).mono ?_; rintro e w1 ⟨rfl, hb1⟩; obtain ⟨kr, hbz⟩ := KR.out _ hb1; clear hb1)
    | refine wpList_build1 rfl 42 _ rfl (.agg (rowA 256 noSl)) rfl _ BM.out ?_
    | refine wpList_store_row rfl _ _ _ rfl _ (pcA ⟨noSl, false⟩) rfl rfl _ _ kr (infoPc _) (by rw [pcA_size, pcA_size]) (pcA_one _) ?_)
  refine bodyPost_ret (results_row3 rfl _ _ w.heap.size _ _ _ _ rfl (kr.setRow _) Tryd.underlying42 rfl (infoPc _)) rfl ?_
  exact ⟨rfl, below_setRow hbz (Nat.le_refl _) _⟩

set_option maxHeartbeats 1000000 in
theorem first_else (c : UInt8) (s : List UInt8) (h1 : ¬ c = 42) (h2 : ¬ c = 63) (h3 : ¬ c = 91) (w : World) : Calls Tryd.prog 15 #[.string (mkS (c :: s))] w fun e w' => FirstIs (c :: s) e ∧ Below w.heap.size w w' := by
  have Z := Lib.hid (fun (w : World) => zeroPc w)
  have i0 := mkS_head c s
  have s0 := mkS_tail c s
  have n1 := u8_ne h1
  have n2 := u8_ne h2
  have n3 := u8_ne h3
  rw [show ((42 : UInt8).toNat : Int) = 42 from rfl] at n1
  rw [show ((63 : UInt8).toNat : Int) = 63 from rfl] at n2
  rw [show ((91 : UInt8).toNat : Int) = 91 from rfl] at n3
  have KR := Lib.hid (pc_below w)
  unfold FirstIs
  rw [firstL_cons, if_neg h1, if_neg h2, if_neg h3]
  unfold elemP
  clear h1 h2 h3
  generalize hn : (c.toNat : Int) = n at *
  clear hn
  cases he : elemL (c :: s) with
  | none =>
    have E := Lib.hid (fun (w : World) => element_none he w)
    have O := Lib.hid (show ∀ w, Calls Tryd.prog 22 #[.int .u8 0] w fun e w' => e = .returned (.agg (rowA 256 (onlyT 0))) ∧ Below w.heap.size w w' from fun w => only_agg 0 w)
    have BM := Lib.hid (built_one (onlyT 0))
    clear he
    generalize mkS (c :: s) = S at *
    go_enter Tryd.func15, Tryd.ntmps15
    go_wp2_with (first
      | refine wpList_alloc_row rfl _ rfl _ (Z.out _) ?_
      | (go_at_call 21; with_reducible refine (E.out _).mono ?_; rintro e w1 ⟨rfl, hb1⟩; have k1 := KR.out _ hb1; clear hb1)
      | (go_at_call 22; with_reducible refine (O.out _).mono ?_; rintro e w2 ⟨rfl, hb2⟩; obtain ⟨kr, hbz⟩ := pc_again k1 hb2; clear hb2 k1)
      | refine wpList_build1 rfl 42 _ rfl (.agg (rowA 256 (onlyT 0))) rfl _ BM.out ?_
      | refine wpList_store_row rfl _ _ _ rfl _ (pcA ⟨onlyT 0, false⟩) rfl rfl _ _ kr (infoPc _) (by rw [pcA_size, pcA_size]) (pcA_one _) ?_)
    refine bodyPost_ret (results_row3 rfl _ _ w.heap.size _ _ _ _ rfl (kr.setRow _) Tryd.underlying42 rfl (infoPc _)) rfl ?_
    exact ⟨⟨⟨onlyT 0, false⟩, _, rfl⟩, below_setRow hbz (Nat.le_refl _) _⟩
  | some x =>
    obtain ⟨d, r⟩ := x
    have E := Lib.hid (fun (w : World) => element_some he w)
    have O := Lib.hid (fun w => only_agg d w)
    have BM := Lib.hid (built_one (onlyT d))
    clear he
    generalize mkS (c :: s) = S at *
    go_enter Tryd.func15, Tryd.ntmps15
    go_wp2_with (first
      | refine wpList_alloc_row rfl _ rfl _ (Z.out _) ?_
      | (go_at_call 21; with_reducible refine (E.out _).mono ?_; rintro e w1 ⟨rfl, hb1⟩; have k1 := KR.out _ hb1; clear hb1)
      | (go_at_call 22; with_reducible refine (O.out _).mono ?_; rintro e w2 ⟨rfl, hb2⟩; obtain ⟨kr, hbz⟩ := pc_again k1 hb2; clear hb2 k1)
      | refine wpList_build1 rfl 42 _ rfl (.agg (rowA 256 (onlyT d))) rfl _ BM.out ?_
      | refine wpList_store_row rfl _ _ _ rfl _ (pcA ⟨onlyT d, false⟩) rfl rfl _ _ kr (infoPc _) (by rw [pcA_size, pcA_size]) (pcA_one _) ?_)
    refine bodyPost_ret (results_row3 rfl _ _ w.heap.size _ _ _ _ rfl (kr.setRow _) Tryd.underlying42 rfl (infoPc _)) rfl ?_
    exact ⟨rfl, below_setRow hbz (Nat.le_refl _) _⟩

set_option maxHeartbeats 1000000 in
theorem first_set (s : List UInt8) (w : World) : Calls Tryd.prog 15 #[.string (mkS (91 :: s))] w fun e w' => FirstIs (91 :: s) e ∧ Below w.heap.size w w' := by
  have Z := Lib.hid (fun (w : World) => zeroPc w)
  have ZS := Lib.hid (fun (w : World) => zeroSet w)
  have i0 := mkS_head 91 s
  rw [show ((91 : UInt8).toNat : Int) = 91 from rfl] at i0
  have s0 := mkS_tail 91 s
  have KR := Lib.hid (pc_below w)
  obtain ⟨F, R, ok, hV, hX⟩ : ∃ (F : Nat → Bool) (R : ByteArray) (ok : Bool), setR (setL s) = .tuple #[.agg (rowA 256 F), .string R, .bool ok] ∧ FirstIs (91 :: s) (.returned (.tuple #[pcV ⟨F, false⟩, .string R, .bool ok])) := by
    unfold FirstIs
    rw [firstL_cons, if_neg (by decide), if_neg (by decide), if_pos rfl]
    unfold setP
    cases h : setL s with
    | none => exact ⟨_, _, false, rfl, ⟨_, _, rfl⟩⟩
    | some x => obtain ⟨F, r⟩ := x; exact ⟨F, mkS r, true, rfl, rfl⟩
  have S := Lib.hid (fun (w : World) => set_any s w)
  rw [hV] at S
  have BM := Lib.hid (built_one F)
  have HX := Lib.hid hX
  clear hV hX
  generalize mkS (91 :: s) = S0 at *
  go_enter Tryd.func15, Tryd.ntmps15
  go_wp2_with (first
    | refine wpList_alloc_row rfl _ rfl _ (Z.out _) ?_
    | (go_at_call 20; with_reducible refine (S.out _).mono ?_; rintro e w1 ⟨rfl, hb1⟩; have k1 := KR.out _ hb1; clear hb1; have kN := IsRow.new w1 40 256 (fun _ => false); have k2 : IsPc (w1.alloc (.cells (rowA 256 (fun _ => false)) 40)) w.heap.size noPc ∧ Below w.heap.size w (w1.alloc (.cells (rowA 256 (fun _ => false)) 40)) := ⟨k1.1.alloc _, k1.2.alloc (Nat.le_of_lt k1.1.lt) _⟩; have hne := k1.1.lt; clear k1)
    | refine wpList_alloc_row rfl _ rfl _ (ZS.out _) ?_
    | (refine wpList_store_row rfl _ _ _ rfl _ (rowA 256 F) rfl rfl _ _ kN (infoSet' _) (by rw [rowA_size, rowA_size]) (rowA_one _ _) ?_
       have k3 := kN.setRow F
       have k4 : IsPc ((w1.alloc (.cells (rowA 256 (fun _ => false)) 40)).setRow w1.heap.size (rowA 256 F)) w.heap.size noPc ∧ Below w.heap.size w ((w1.alloc (.cells (rowA 256 (fun _ => false)) 40)).setRow w1.heap.size (rowA 256 F)) := ⟨k2.1.setRowOther (by omega) _, below_setRow k2.2 (by omega) _⟩
       clear kN k2
       generalize (w1.alloc (.cells (rowA 256 (fun _ => false)) 40)).setRow w1.heap.size (rowA 256 F) = W2 at k3 k4 ⊢)
    | refine wpList_load_row rfl _ _ rfl _ rfl _ _ _ _ k3 Tryd.underlying40 rfl (infoSet' _) ?_
    | refine wpList_build1 rfl 42 _ rfl (.agg (rowA 256 F)) rfl _ BM.out ?_
    | refine wpList_store_row rfl _ _ _ rfl _ (pcA ⟨F, false⟩) rfl rfl _ _ k4.1 (infoPc _) (by rw [pcA_size, pcA_size]) (pcA_one _) ?_)
  refine bodyPost_ret (results_row3 rfl _ _ w.heap.size _ _ _ _ rfl (k4.1.setRow _) Tryd.underlying42 rfl (infoPc _)) rfl ?_
  exact ⟨HX.out, below_setRow k4.2 (Nat.le_refl _) _⟩
theorem first_any (c : UInt8) (s : List UInt8) (w : World) : Calls Tryd.prog 15 #[.string (mkS (c :: s))] w fun e w' => FirstIs (c :: s) e ∧ Below w.heap.size w w' := by
  by_cases h1 : c = 42
  · subst h1; exact first_star s w
  · by_cases h2 : c = 63
    · subst h2; exact first_any1 s w
    · by_cases h3 : c = 91
      · subst h3; exact first_set s w
      · exact first_else c s h1 h2 h3 w
end Go.Proofs.YtcdoiadmnckccaaDoor
