/- StampRises: true, at every argument. -/
import Derived.Test.YtncdmineepagpaaDoorStm
import Derived.Lib.QuietBelow
import Derived.Deep.RegionHeld3
import Derived.Deep.Cut
import Derived.Laws.CopyOwn
import Derived.Test.YtncdmineepagpaaDoorLex
namespace Go.Proofs.YtncdmineepagpaaDoor
open Go.RowKit Go.Joins

theorem row_one {x w' : World} {o : Obj} (h : Below (x.alloc o).heap.size (x.alloc o) w') : w'.heap[x.heap.size]? = some o :=
  (h.block _ (by simp)).trans Array.getElem?_push_size
theorem row_two {x w' : World} {o o' : Obj} (h : Below ((x.alloc o).alloc o').heap.size ((x.alloc o).alloc o') w') : w'.heap[x.heap.size]? = some o :=
  (h.block _ (by simp; omega)).trans ((Below.heap_alloc _ _ _ (by simp)).trans Array.getElem?_push_size)
theorem row_two' {x w' : World} {o o' : Obj} (h : Below ((x.alloc o).alloc o').heap.size ((x.alloc o).alloc o') w') : w'.heap[x.heap.size + 1]? = some o' :=
  (h.block _ (by simp)).trans ((congrArg _ (by simp)).trans Array.getElem?_push_size)
theorem row_lt {x : World} {b : Nat} {o : Obj} (q : x.heap[b]? = some o) : b < x.heap.size := by
  by_cases h : b < x.heap.size
  · exact h
  · rw [Array.getElem?_eq_none (by omega)] at q
    exact absurd q (by simp)
theorem row_keep0 {x w' : World} {b : Nat} {o : Obj} (h : Below x.heap.size x w') (q : x.heap[b]? = some o) : w'.heap[b]? = some o :=
  (h.block _ (row_lt q)).trans q
theorem row_keep1 {x w' : World} {b : Nat} {o o1 : Obj} (h : Below (x.alloc o1).heap.size (x.alloc o1) w') (q : x.heap[b]? = some o) : w'.heap[b]? = some o :=
  (h.block _ (by have := row_lt q; simp; omega)).trans ((Below.heap_alloc _ _ _ (row_lt q)).trans q)
theorem zrow {w : World} {b : Nat} {v0 v1 v2 v3 v4 v5 : Value} {T : TypeId} (q : w.heap[b]? = some (.cells #[v0, v1, v2, v3, v4, v5] T (0, 0))) :
    w.cell? ⟨b, 0, none⟩ = some v0 ∧ w.cell? ⟨b, 1, none⟩ = some v1 ∧ w.cell? ⟨b, 2, none⟩ = some v2 ∧ w.cell? ⟨b, 3, none⟩ = some v3 ∧ w.cell? ⟨b, 4, none⟩ = some v4 ∧ w.cell? ⟨b, 5, none⟩ = some v5 ∧
    w.frozen? ⟨b, 0, none⟩ = false ∧ w.frozen? ⟨b, 1, none⟩ = false ∧ w.frozen? ⟨b, 2, none⟩ = false ∧ w.frozen? ⟨b, 3, none⟩ = false ∧ w.frozen? ⟨b, 4, none⟩ = false ∧ w.frozen? ⟨b, 5, none⟩ = false := by
  simp [World.cell?, World.frozen?, q]

theorem top1 {x : World} {o : Obj} : (x.alloc o).heap[x.heap.size]? = some o := Array.getElem?_push_size
theorem top2 {x : World} {o o' : Obj} : ((x.alloc o).alloc o').heap[x.heap.size]? = some o := (Below.heap_alloc _ _ _ (by simp)).trans Array.getElem?_push_size
theorem top3 {x : World} {o o' : Obj} : ((x.alloc o).alloc o').heap[x.heap.size + 1]? = some o' := (congrArg _ (by simp)).trans Array.getElem?_push_size
theorem up1 {x : World} {b : Nat} {o o' : Obj} (q : x.heap[b]? = some o) : (x.alloc o').heap[b]? = some o := (Below.heap_alloc _ _ _ (row_lt q)).trans q
theorem up2 {x : World} {b : Nat} {o o' o'' : Obj} (q : x.heap[b]? = some o) : ((x.alloc o').alloc o'').heap[b]? = some o := (Below.heap_alloc _ _ _ (by have := row_lt q; simp; omega)).trans (up1 q)
theorem setRow_same {x : World} {g : Nat} {old cs : Array Value} {T : TypeId} {fr : Nat × Nat} (q : x.heap[g]? = some (.cells old T fr)) : (x.setRow g cs).heap[g]? = some (.cells cs T fr) := by
  simp [World.setRow, Array.getElem?_modify, q]

set_option maxRecDepth 100000 in
set_option maxHeartbeats 4000000 in
theorem rises_core (s n s' n' : Int) (a0 a1 a2 a3 : Int) (y m d h i e y' m' d' h' i' e' : Int) (K : Int) (w : World) (hT : TabLaid w) (hK : lexF [(y, y'), (m, m'), (d, d'), (h, h'), (i, i'), (e, e')] = K) (hs : (s = s' ∧ K = 0) ∨ (s < s' ∧ K = -1) ∨ (s' < s ∧ K = 1))
    (hS : Calls Tryd.prog 19 #[] w fun e w' => e = .returned (.bool true) ∧ Below w.heap.size w w')
    (t1 : ∀ w, Calls Tryd.prog 20 #[.int .i64 a0, .int .i64 a1] w fun e w' => e = .returned (tmV s n) ∧ w' = w.alloc (.cells #[.int .i64 s, .int .i64 n] 23))
    (t2 : ∀ w, Calls Tryd.prog 20 #[.int .i64 a2, .int .i64 a3] w fun e w' => e = .returned (tmV s' n') ∧ w' = w.alloc (.cells #[.int .i64 s', .int .i64 n'] 23))
    (b1 : ∀ w, TabLaid w → Calls Tryd.prog 15 #[tmV s n] w fun e1 w' => e1 = .returned (dateV y m d h i e) ∧ Below w.heap.size w w')
    (b2 : ∀ w, TabLaid w → Calls Tryd.prog 15 #[tmV s' n'] w fun e1 w' => e1 = .returned (dateV y' m' d' h' i' e') ∧ Below w.heap.size w w') :
    Calls Tryd.prog 10 #[.int .i64 a0, .int .i64 a1, .int .i64 a2, .int .i64 a3] w fun e w' => e = .returned (.bool true) ∧ Below w.heap.size w w' := by
  have HT := Lib.hid (fun w1 (h : Below w.heap.size w w1) => hT.below h)
  have HS := Lib.hid hS
  have T1 := Lib.hid t1
  have T2 := Lib.hid t2
  have B1 := Lib.hid b1
  have B2 := Lib.hid b2
  clear hT hS t1 t2 b1 b2
  go_enter Tryd.func10, Tryd.ntmps10
  go_upto_region 4 with (first
    | (go_at_call 19; refine HS.out.mono ?_; rintro e w1 ⟨rfl, h1⟩)
    | (go_at_call 20; with_reducible refine (T1.out _).mono ?_; rintro e w2 ⟨rfl, rfl⟩)
    | (go_at_call 20; with_reducible refine (T2.out _).mono ?_; rintro e w3 ⟨rfl, rfl⟩)
    | fail)
  obtain ⟨W, hW⟩ : ∃ W, W = (((w1.alloc (.cells #[.int .i64 s, .int .i64 n] 23)).alloc (.cells #[.int .i64 s', .int .i64 n'] 23)).alloc (.cells #[.int .i64 s, .int .i64 n] 23)).alloc (.cells #[.int .i64 s', .int .i64 n'] 23) := ⟨_, rfl⟩
  rw [← hW]
  have hsz : W.heap.size = w1.heap.size + 4 := by rw [hW]; simp
  have hbW : Below w.heap.size w W := by
    have := h1.size
    rw [hW]
    exact (((h1.alloc h1.size _).alloc (by simp; omega) _).alloc (by simp; omega) _).alloc (by simp; omega) _
  have c : (∀ w', Below W.heap.size W w' → w'.cell? ⟨w1.heap.size + 1 + 1, 0, none⟩ = some (.int .i64 s) ∧ w'.cell? ⟨w1.heap.size + 1 + 1, 1, none⟩ = some (.int .i64 n) ∧ w'.cell? ⟨w1.heap.size + 1 + 1 + 1, 0, none⟩ = some (.int .i64 s') ∧ w'.cell? ⟨w1.heap.size + 1 + 1 + 1, 1, none⟩ = some (.int .i64 n')) := fun w' hb => by
    refine ⟨?_, ?_, ?_, ?_⟩ <;> rw [hb.cell (by rw [hsz]; simp), hW] <;> simp [go_sem]
  have C := Lib.hid c
  clear hW c
  obtain ⟨c0, c1, c2, c3⟩ := C.out W (Below.refl _ _)
  go_cut [11, 12] from 22 (fun p q w' => ∃ b c, p = .pointer (some ⟨b, 0, none⟩) ∧ q = .pointer (some ⟨c, 0, none⟩) ∧ Below W.heap.size W w' ∧ w'.heap[b]? = some (.cells #[.int .i64 y, .int .i64 m, .int .i64 d, .int .i64 h, .int .i64 i, .int .i64 e] 34 (0, 0)) ∧ w'.heap[c]? = some (.cells #[.int .i64 y', .int .i64 m', .int .i64 d', .int .i64 h', .int .i64 i', .int .i64 e'] 34 (0, 0)))
  case first =>
    refine wp_region_held_drew (S := (fun w' => Below W.heap.size W w' ∧ (w'.cell? ⟨w1.heap.size + 1 + 1, 0, none⟩ = some (.int .i64 s) ∧ w'.cell? ⟨w1.heap.size + 1 + 1, 1, none⟩ = some (.int .i64 n) ∧ w'.cell? ⟨w1.heap.size + 1 + 1 + 1, 0, none⟩ = some (.int .i64 s') ∧ w'.cell? ⟨w1.heap.size + 1 + 1 + 1, 1, none⟩ = some (.int .i64 n')))) (by kernel_rfl) ⟨(Below.refl _ _).drew, C.out _ (Below.refl _ _).drew⟩ (fun hHeld => ?_)
    generalize W.drew = W0 at *
    have h4 := hHeld.1
    have z4 := h4.size
    refine wpAnyH_take (i := 0) (oi := _) (v := ?_) rfl (by kernel_rfl) (by kernel_rfl) (by kernel_rfl) (fun _ _ _ h => h) (Or.inl ⟨by rfl, ?_⟩) (by assumption) ?_
    rotate_left
    · (intro w hSw; (try dsimp only at hSw); go_simp; try with_reducible rfl)
    (try simp only [Act.put]); (try simp only [List.setIfInBounds_toArray]); (try simp only [List.set_cons_succ]); (try simp only [List.set_cons_zero])
    refine wpAnyH_take (i := 2) (oi := _) (v := ?_) rfl (by kernel_rfl) (by kernel_rfl) (by kernel_rfl) (fun _ _ _ h => h) (Or.inl ⟨by rfl, ?_⟩) (by assumption) ?_
    rotate_left
    · (intro w hSw; (try dsimp only at hSw); go_simp; try with_reducible rfl)
    (try simp only [Act.put]); (try simp only [List.setIfInBounds_toArray]); (try simp only [List.set_cons_succ]); (try simp only [List.set_cons_zero])
    refine wpAnyH_ready (rs := [1, 4, 5]) (by kernel_rfl) (by simp) ?_
    refine AllReadyH.cons rfl (fun K hK => ?_) ?_
    · go_simp
      go_at_call 15
      with_reducible refine (B1.out _ (HT.out _ (hbW.trans (hHeld.1.mono hbW.size)))).mono ?_
      rintro e w4 ⟨rfl, h4⟩
      replace h4 := hHeld.1.trans (h4.mono hHeld.1.size)
      have z4 := h4.size
      refine hK.out _ _ ?_ (fun hHeld => ?_)
      · exact ⟨h4, C.out _ h4⟩
      clear hK K
      (try simp only [Act.put]); (try simp only [List.setIfInBounds_toArray]); (try simp only [List.set_cons_succ]); (try simp only [List.set_cons_zero])
      refine wpAnyH_ready (rs := [3, 4, 5]) (by kernel_rfl) (by simp) ?_
      refine AllReadyH.cons rfl (fun K hK => ?_) ?_
      · go_simp
        go_at_call 15
        with_reducible refine (B2.out _ (HT.out _ (hbW.trans (hHeld.1.mono hbW.size)))).mono ?_
        rintro e w5 ⟨rfl, h4⟩
        replace h4 := hHeld.1.trans (h4.mono hHeld.1.size)
        have z4 := h4.size
        refine hK.out _ _ ?_ (fun hHeld => ?_)
        · exact ⟨h4, C.out _ h4⟩
        clear hK K
        (try simp only [Act.put]); (try simp only [List.setIfInBounds_toArray]); (try simp only [List.set_cons_succ]); (try simp only [List.set_cons_zero])
        refine wpAnyH_ready (rs := [4, 5]) (by kernel_rfl) (by simp) ?_
        refine AllReadyH.cons rfl (fun K hK => ?_) ?_
        · go_simp
          refine hK.out _ _ ?_ (fun hHeld => ?_)
          · first | assumption | (refine ⟨?_, C.out _ ?_⟩ <;> (repeat' first | exact h4 | exact (Below.refl _ _).drew | refine Below.alloc ?_ ?_ _) <;> (first | omega | exact Nat.le_refl _ | (simp <;> omega)))
          clear hK K
          (try simp only [Act.put]); (try simp only [List.setIfInBounds_toArray]); (try simp only [List.set_cons_succ]); (try simp only [List.set_cons_zero])
          refine wpAnyH_ready (rs := [5]) (by kernel_rfl) (by simp) ?_
          refine AllReadyH.cons rfl (fun K hK => ?_) ?_
          · go_simp
            refine hK.out _ _ ?_ (fun hHeld => ?_)
            · first | assumption | (refine ⟨?_, C.out _ ?_⟩ <;> (repeat' first | exact h4 | exact (Below.refl _ _).drew | refine Below.alloc ?_ ?_ _) <;> (first | omega | exact Nat.le_refl _ | (simp <;> omega)))
            clear hK K
            (try simp only [Act.put]); (try simp only [List.setIfInBounds_toArray]); (try simp only [List.set_cons_succ]); (try simp only [List.set_cons_zero])
            refine wpAnyH_ready (rs := [6]) (by kernel_rfl) (by simp) ?_
            refine AllReadyH.cons (o := { dst := none, op := Op.store 34 (Operand.tmp 11) (Operand.tmp 23), type := 0, pos := "more.go:94", after := #[{ on := 4, ground := Ground.data }, { on := 1, ground := Ground.data }, { on := 3, ground := Ground.chain }, { on := 0, ground := Ground.phase }, { on := 1, ground := Ground.phase }, { on := 2, ground := Ground.textOnly Departure.lateStores }, { on := 3, ground := Ground.phase }, { on := 4, ground := Ground.phase }, { on := 5, ground := Ground.phase }], guard := none }) rfl (fun K hK => ?_) AllReadyH.nil
            rw [if_pos (by rfl)]
            refine wp_store_row 34 _ _ rfl _ _ rfl rfl 34 _ top2 (by kernel_rfl) rfl (by simp; exact ⟨rfl, rfl, rfl, rfl, rfl, rfl⟩) ?_
            have h4' := hHeld.1
            refine hK.out _ _ ?_ (fun hHeld => ?_)
            · exact ⟨below_setRow h4' (by first | omega | (simp <;> omega)) _, C.out _ (below_setRow h4' (by first | omega | (simp <;> omega)) _)⟩
            clear hK K
            (try simp only [Act.put]); (try simp only [List.setIfInBounds_toArray]); (try simp only [List.set_cons_succ]); (try simp only [List.set_cons_zero])
            refine wpAnyH_ready (rs := [7]) (by kernel_rfl) (by simp) ?_
            refine AllReadyH.cons (o := { dst := none, op := Op.store 34 (Operand.tmp 12) (Operand.tmp 25), type := 0, pos := "more.go:94", after := #[{ on := 5, ground := Ground.data }, { on := 3, ground := Ground.data }, { on := 6, ground := Ground.chain }, { on := 0, ground := Ground.phase }, { on := 1, ground := Ground.phase }, { on := 2, ground := Ground.phase }, { on := 3, ground := Ground.phase }, { on := 4, ground := Ground.phase }, { on := 5, ground := Ground.phase }, { on := 6, ground := Ground.phase }], guard := none }) rfl (fun K hK => ?_) AllReadyH.nil
            rw [if_pos (by rfl)]
            refine wp_store_row 34 _ _ rfl _ _ rfl rfl 34 _ ((setRow_other _ _ _ _ (by first | omega | (simp <;> omega))).trans top3) (by kernel_rfl) rfl (by simp; exact ⟨rfl, rfl, rfl, rfl, rfl, rfl⟩) ?_
            have h4' := hHeld.1
            refine hK.out _ _ ?_ (fun hHeld => ?_)
            · exact ⟨below_setRow h4' (by first | omega | (simp <;> omega)) _, C.out _ (below_setRow h4' (by first | omega | (simp <;> omega)) _)⟩
            clear hK K
            (try simp only [Act.put]); (try simp only [List.setIfInBounds_toArray]); (try simp only [List.set_cons_succ]); (try simp only [List.set_cons_zero])
            refine wpAnyH_done (by kernel_rfl) ?_ _
            go_wp2_with fail
            go_meet
            exact ⟨_, _, rfl, rfl, hHeld.1, ((setRow_other _ _ _ _ (by first | omega | (simp <;> omega))).trans (setRow_same top2)), (setRow_same ((setRow_other _ _ _ _ (by first | omega | (simp <;> omega))).trans top3))⟩
          exact AllReadyH.nil
        refine AllReadyH.cons rfl (fun K hK => ?_) ?_
        · go_simp
          refine hK.out _ _ ?_ (fun hHeld => ?_)
          · first | assumption | (refine ⟨?_, C.out _ ?_⟩ <;> (repeat' first | exact h4 | exact (Below.refl _ _).drew | refine Below.alloc ?_ ?_ _) <;> (first | omega | exact Nat.le_refl _ | (simp <;> omega)))
          clear hK K
          (try simp only [Act.put]); (try simp only [List.setIfInBounds_toArray]); (try simp only [List.set_cons_succ]); (try simp only [List.set_cons_zero])
          refine wpAnyH_ready (rs := [4]) (by kernel_rfl) (by simp) ?_
          refine AllReadyH.cons rfl (fun K hK => ?_) ?_
          · go_simp
            refine hK.out _ _ ?_ (fun hHeld => ?_)
            · first | assumption | (refine ⟨?_, C.out _ ?_⟩ <;> (repeat' first | exact h4 | exact (Below.refl _ _).drew | refine Below.alloc ?_ ?_ _) <;> (first | omega | exact Nat.le_refl _ | (simp <;> omega)))
            clear hK K
            (try simp only [Act.put]); (try simp only [List.setIfInBounds_toArray]); (try simp only [List.set_cons_succ]); (try simp only [List.set_cons_zero])
            refine wpAnyH_ready (rs := [6]) (by kernel_rfl) (by simp) ?_
            refine AllReadyH.cons (o := { dst := none, op := Op.store 34 (Operand.tmp 11) (Operand.tmp 23), type := 0, pos := "more.go:94", after := #[{ on := 4, ground := Ground.data }, { on := 1, ground := Ground.data }, { on := 3, ground := Ground.chain }, { on := 0, ground := Ground.phase }, { on := 1, ground := Ground.phase }, { on := 2, ground := Ground.textOnly Departure.lateStores }, { on := 3, ground := Ground.phase }, { on := 4, ground := Ground.phase }, { on := 5, ground := Ground.phase }], guard := none }) rfl (fun K hK => ?_) AllReadyH.nil
            rw [if_pos (by rfl)]
            refine wp_store_row 34 _ _ rfl _ _ rfl rfl 34 _ top3 (by kernel_rfl) rfl (by simp; exact ⟨rfl, rfl, rfl, rfl, rfl, rfl⟩) ?_
            have h4' := hHeld.1
            refine hK.out _ _ ?_ (fun hHeld => ?_)
            · exact ⟨below_setRow h4' (by first | omega | (simp <;> omega)) _, C.out _ (below_setRow h4' (by first | omega | (simp <;> omega)) _)⟩
            clear hK K
            (try simp only [Act.put]); (try simp only [List.setIfInBounds_toArray]); (try simp only [List.set_cons_succ]); (try simp only [List.set_cons_zero])
            refine wpAnyH_ready (rs := [7]) (by kernel_rfl) (by simp) ?_
            refine AllReadyH.cons (o := { dst := none, op := Op.store 34 (Operand.tmp 12) (Operand.tmp 25), type := 0, pos := "more.go:94", after := #[{ on := 5, ground := Ground.data }, { on := 3, ground := Ground.data }, { on := 6, ground := Ground.chain }, { on := 0, ground := Ground.phase }, { on := 1, ground := Ground.phase }, { on := 2, ground := Ground.phase }, { on := 3, ground := Ground.phase }, { on := 4, ground := Ground.phase }, { on := 5, ground := Ground.phase }, { on := 6, ground := Ground.phase }], guard := none }) rfl (fun K hK => ?_) AllReadyH.nil
            rw [if_pos (by rfl)]
            refine wp_store_row 34 _ _ rfl _ _ rfl rfl 34 _ ((setRow_other _ _ _ _ (by first | omega | (simp <;> omega))).trans top2) (by kernel_rfl) rfl (by simp; exact ⟨rfl, rfl, rfl, rfl, rfl, rfl⟩) ?_
            have h4' := hHeld.1
            refine hK.out _ _ ?_ (fun hHeld => ?_)
            · exact ⟨below_setRow h4' (by first | omega | (simp <;> omega)) _, C.out _ (below_setRow h4' (by first | omega | (simp <;> omega)) _)⟩
            clear hK K
            (try simp only [Act.put]); (try simp only [List.setIfInBounds_toArray]); (try simp only [List.set_cons_succ]); (try simp only [List.set_cons_zero])
            refine wpAnyH_done (by kernel_rfl) ?_ _
            go_wp2_with fail
            go_meet
            exact ⟨_, _, rfl, rfl, hHeld.1, ((setRow_other _ _ _ _ (by first | omega | (simp <;> omega))).trans (setRow_same top3)), (setRow_same ((setRow_other _ _ _ _ (by first | omega | (simp <;> omega))).trans top2))⟩
          exact AllReadyH.nil
        exact AllReadyH.nil
      refine AllReadyH.cons rfl (fun K hK => ?_) ?_
      · go_simp
        refine hK.out _ _ ?_ (fun hHeld => ?_)
        · first | assumption | (refine ⟨?_, C.out _ ?_⟩ <;> (repeat' first | exact h4 | exact (Below.refl _ _).drew | refine Below.alloc ?_ ?_ _) <;> (first | omega | exact Nat.le_refl _ | (simp <;> omega)))
        clear hK K
        (try simp only [Act.put]); (try simp only [List.setIfInBounds_toArray]); (try simp only [List.set_cons_succ]); (try simp only [List.set_cons_zero])
        refine wpAnyH_ready (rs := [3, 5]) (by kernel_rfl) (by simp) ?_
        refine AllReadyH.cons rfl (fun K hK => ?_) ?_
        · go_simp
          go_at_call 15
          with_reducible refine (B2.out _ (HT.out _ (hbW.trans (hHeld.1.mono hbW.size)))).mono ?_
          rintro e w5 ⟨rfl, h4⟩
          have q11 := row_one h4
          have l11 := row_lt q11
          replace h4 := hHeld.1.trans (h4.mono hHeld.1.size)
          have z4 := h4.size
          refine hK.out _ _ ?_ (fun hHeld => ?_)
          · exact ⟨h4, C.out _ h4⟩
          clear hK K
          (try simp only [Act.put]); (try simp only [List.setIfInBounds_toArray]); (try simp only [List.set_cons_succ]); (try simp only [List.set_cons_zero])
          refine wpAnyH_ready (rs := [5]) (by kernel_rfl) (by simp) ?_
          refine AllReadyH.cons rfl (fun K hK => ?_) ?_
          · go_simp
            refine hK.out _ _ ?_ (fun hHeld => ?_)
            · first | assumption | (refine ⟨?_, C.out _ ?_⟩ <;> (repeat' first | exact h4 | exact (Below.refl _ _).drew | refine Below.alloc ?_ ?_ _) <;> (first | omega | exact Nat.le_refl _ | (simp <;> omega)))
            clear hK K
            (try simp only [Act.put]); (try simp only [List.setIfInBounds_toArray]); (try simp only [List.set_cons_succ]); (try simp only [List.set_cons_zero])
            refine wpAnyH_ready (rs := [6]) (by kernel_rfl) (by simp) ?_
            refine AllReadyH.cons (o := { dst := none, op := Op.store 34 (Operand.tmp 11) (Operand.tmp 23), type := 0, pos := "more.go:94", after := #[{ on := 4, ground := Ground.data }, { on := 1, ground := Ground.data }, { on := 3, ground := Ground.chain }, { on := 0, ground := Ground.phase }, { on := 1, ground := Ground.phase }, { on := 2, ground := Ground.textOnly Departure.lateStores }, { on := 3, ground := Ground.phase }, { on := 4, ground := Ground.phase }, { on := 5, ground := Ground.phase }], guard := none }) rfl (fun K hK => ?_) AllReadyH.nil
            rw [if_pos (by rfl)]
            refine wp_store_row 34 _ _ rfl _ _ rfl rfl 34 _ (up1 q11) (by kernel_rfl) rfl (by simp; exact ⟨rfl, rfl, rfl, rfl, rfl, rfl⟩) ?_
            have h4' := hHeld.1
            refine hK.out _ _ ?_ (fun hHeld => ?_)
            · exact ⟨below_setRow h4' (by first | omega | (simp <;> omega)) _, C.out _ (below_setRow h4' (by first | omega | (simp <;> omega)) _)⟩
            clear hK K
            (try simp only [Act.put]); (try simp only [List.setIfInBounds_toArray]); (try simp only [List.set_cons_succ]); (try simp only [List.set_cons_zero])
            refine wpAnyH_ready (rs := [7]) (by kernel_rfl) (by simp) ?_
            refine AllReadyH.cons (o := { dst := none, op := Op.store 34 (Operand.tmp 12) (Operand.tmp 25), type := 0, pos := "more.go:94", after := #[{ on := 5, ground := Ground.data }, { on := 3, ground := Ground.data }, { on := 6, ground := Ground.chain }, { on := 0, ground := Ground.phase }, { on := 1, ground := Ground.phase }, { on := 2, ground := Ground.phase }, { on := 3, ground := Ground.phase }, { on := 4, ground := Ground.phase }, { on := 5, ground := Ground.phase }, { on := 6, ground := Ground.phase }], guard := none }) rfl (fun K hK => ?_) AllReadyH.nil
            rw [if_pos (by rfl)]
            refine wp_store_row 34 _ _ rfl _ _ rfl rfl 34 _ ((setRow_other _ _ _ _ (by first | omega | (simp <;> omega))).trans top1) (by kernel_rfl) rfl (by simp; exact ⟨rfl, rfl, rfl, rfl, rfl, rfl⟩) ?_
            have h4' := hHeld.1
            refine hK.out _ _ ?_ (fun hHeld => ?_)
            · exact ⟨below_setRow h4' (by first | omega | (simp <;> omega)) _, C.out _ (below_setRow h4' (by first | omega | (simp <;> omega)) _)⟩
            clear hK K
            (try simp only [Act.put]); (try simp only [List.setIfInBounds_toArray]); (try simp only [List.set_cons_succ]); (try simp only [List.set_cons_zero])
            refine wpAnyH_done (by kernel_rfl) ?_ _
            go_wp2_with fail
            go_meet
            exact ⟨_, _, rfl, rfl, hHeld.1, ((setRow_other _ _ _ _ (by first | omega | (simp <;> omega))).trans (setRow_same (up1 q11))), (setRow_same ((setRow_other _ _ _ _ (by first | omega | (simp <;> omega))).trans top1))⟩
          exact AllReadyH.nil
        refine AllReadyH.cons rfl (fun K hK => ?_) ?_
        · go_simp
          refine hK.out _ _ ?_ (fun hHeld => ?_)
          · first | assumption | (refine ⟨?_, C.out _ ?_⟩ <;> (repeat' first | exact h4 | exact (Below.refl _ _).drew | refine Below.alloc ?_ ?_ _) <;> (first | omega | exact Nat.le_refl _ | (simp <;> omega)))
          clear hK K
          (try simp only [Act.put]); (try simp only [List.setIfInBounds_toArray]); (try simp only [List.set_cons_succ]); (try simp only [List.set_cons_zero])
          refine wpAnyH_ready (rs := [3]) (by kernel_rfl) (by simp) ?_
          refine AllReadyH.cons rfl (fun K hK => ?_) ?_
          · go_simp
            go_at_call 15
            with_reducible refine (B2.out _ (HT.out _ (hbW.trans (hHeld.1.mono hbW.size)))).mono ?_
            rintro e w5 ⟨rfl, h4⟩
            have q11 := row_two h4
            have q12 := row_two' h4
            have l11 := row_lt q11
            have l12 := row_lt q12
            replace h4 := hHeld.1.trans (h4.mono hHeld.1.size)
            have z4 := h4.size
            refine hK.out _ _ ?_ (fun hHeld => ?_)
            · exact ⟨h4, C.out _ h4⟩
            clear hK K
            (try simp only [Act.put]); (try simp only [List.setIfInBounds_toArray]); (try simp only [List.set_cons_succ]); (try simp only [List.set_cons_zero])
            refine wpAnyH_ready (rs := [6]) (by kernel_rfl) (by simp) ?_
            refine AllReadyH.cons (o := { dst := none, op := Op.store 34 (Operand.tmp 11) (Operand.tmp 23), type := 0, pos := "more.go:94", after := #[{ on := 4, ground := Ground.data }, { on := 1, ground := Ground.data }, { on := 3, ground := Ground.chain }, { on := 0, ground := Ground.phase }, { on := 1, ground := Ground.phase }, { on := 2, ground := Ground.textOnly Departure.lateStores }, { on := 3, ground := Ground.phase }, { on := 4, ground := Ground.phase }, { on := 5, ground := Ground.phase }], guard := none }) rfl (fun K hK => ?_) AllReadyH.nil
            rw [if_pos (by rfl)]
            refine wp_store_row 34 _ _ rfl _ _ rfl rfl 34 _ q11 (by kernel_rfl) rfl (by simp; exact ⟨rfl, rfl, rfl, rfl, rfl, rfl⟩) ?_
            have h4' := hHeld.1
            refine hK.out _ _ ?_ (fun hHeld => ?_)
            · exact ⟨below_setRow h4' (by first | omega | (simp <;> omega)) _, C.out _ (below_setRow h4' (by first | omega | (simp <;> omega)) _)⟩
            clear hK K
            (try simp only [Act.put]); (try simp only [List.setIfInBounds_toArray]); (try simp only [List.set_cons_succ]); (try simp only [List.set_cons_zero])
            refine wpAnyH_ready (rs := [7]) (by kernel_rfl) (by simp) ?_
            refine AllReadyH.cons (o := { dst := none, op := Op.store 34 (Operand.tmp 12) (Operand.tmp 25), type := 0, pos := "more.go:94", after := #[{ on := 5, ground := Ground.data }, { on := 3, ground := Ground.data }, { on := 6, ground := Ground.chain }, { on := 0, ground := Ground.phase }, { on := 1, ground := Ground.phase }, { on := 2, ground := Ground.phase }, { on := 3, ground := Ground.phase }, { on := 4, ground := Ground.phase }, { on := 5, ground := Ground.phase }, { on := 6, ground := Ground.phase }], guard := none }) rfl (fun K hK => ?_) AllReadyH.nil
            rw [if_pos (by rfl)]
            refine wp_store_row 34 _ _ rfl _ _ rfl rfl 34 _ ((setRow_other _ _ _ _ (by first | omega | (simp <;> omega))).trans q12) (by kernel_rfl) rfl (by simp; exact ⟨rfl, rfl, rfl, rfl, rfl, rfl⟩) ?_
            have h4' := hHeld.1
            refine hK.out _ _ ?_ (fun hHeld => ?_)
            · exact ⟨below_setRow h4' (by first | omega | (simp <;> omega)) _, C.out _ (below_setRow h4' (by first | omega | (simp <;> omega)) _)⟩
            clear hK K
            (try simp only [Act.put]); (try simp only [List.setIfInBounds_toArray]); (try simp only [List.set_cons_succ]); (try simp only [List.set_cons_zero])
            refine wpAnyH_done (by kernel_rfl) ?_ _
            go_wp2_with fail
            go_meet
            exact ⟨_, _, rfl, rfl, hHeld.1, ((setRow_other _ _ _ _ (by first | omega | (simp <;> omega))).trans (setRow_same q11)), (setRow_same ((setRow_other _ _ _ _ (by first | omega | (simp <;> omega))).trans q12))⟩
          exact AllReadyH.nil
        exact AllReadyH.nil
      refine AllReadyH.cons rfl (fun K hK => ?_) ?_
      · go_simp
        refine hK.out _ _ ?_ (fun hHeld => ?_)
        · first | assumption | (refine ⟨?_, C.out _ ?_⟩ <;> (repeat' first | exact h4 | exact (Below.refl _ _).drew | refine Below.alloc ?_ ?_ _) <;> (first | omega | exact Nat.le_refl _ | (simp <;> omega)))
        clear hK K
        (try simp only [Act.put]); (try simp only [List.setIfInBounds_toArray]); (try simp only [List.set_cons_succ]); (try simp only [List.set_cons_zero])
        refine wpAnyH_ready (rs := [3, 4]) (by kernel_rfl) (by simp) ?_
        refine AllReadyH.cons rfl (fun K hK => ?_) ?_
        · go_simp
          go_at_call 15
          with_reducible refine (B2.out _ (HT.out _ (hbW.trans (hHeld.1.mono hbW.size)))).mono ?_
          rintro e w5 ⟨rfl, h4⟩
          have q12 := row_one h4
          have l12 := row_lt q12
          replace h4 := hHeld.1.trans (h4.mono hHeld.1.size)
          have z4 := h4.size
          refine hK.out _ _ ?_ (fun hHeld => ?_)
          · exact ⟨h4, C.out _ h4⟩
          clear hK K
          (try simp only [Act.put]); (try simp only [List.setIfInBounds_toArray]); (try simp only [List.set_cons_succ]); (try simp only [List.set_cons_zero])
          refine wpAnyH_ready (rs := [4]) (by kernel_rfl) (by simp) ?_
          refine AllReadyH.cons rfl (fun K hK => ?_) ?_
          · go_simp
            refine hK.out _ _ ?_ (fun hHeld => ?_)
            · first | assumption | (refine ⟨?_, C.out _ ?_⟩ <;> (repeat' first | exact h4 | exact (Below.refl _ _).drew | refine Below.alloc ?_ ?_ _) <;> (first | omega | exact Nat.le_refl _ | (simp <;> omega)))
            clear hK K
            (try simp only [Act.put]); (try simp only [List.setIfInBounds_toArray]); (try simp only [List.set_cons_succ]); (try simp only [List.set_cons_zero])
            refine wpAnyH_ready (rs := [6]) (by kernel_rfl) (by simp) ?_
            refine AllReadyH.cons (o := { dst := none, op := Op.store 34 (Operand.tmp 11) (Operand.tmp 23), type := 0, pos := "more.go:94", after := #[{ on := 4, ground := Ground.data }, { on := 1, ground := Ground.data }, { on := 3, ground := Ground.chain }, { on := 0, ground := Ground.phase }, { on := 1, ground := Ground.phase }, { on := 2, ground := Ground.textOnly Departure.lateStores }, { on := 3, ground := Ground.phase }, { on := 4, ground := Ground.phase }, { on := 5, ground := Ground.phase }], guard := none }) rfl (fun K hK => ?_) AllReadyH.nil
            rw [if_pos (by rfl)]
            refine wp_store_row 34 _ _ rfl _ _ rfl rfl 34 _ top1 (by kernel_rfl) rfl (by simp; exact ⟨rfl, rfl, rfl, rfl, rfl, rfl⟩) ?_
            have h4' := hHeld.1
            refine hK.out _ _ ?_ (fun hHeld => ?_)
            · exact ⟨below_setRow h4' (by first | omega | (simp <;> omega)) _, C.out _ (below_setRow h4' (by first | omega | (simp <;> omega)) _)⟩
            clear hK K
            (try simp only [Act.put]); (try simp only [List.setIfInBounds_toArray]); (try simp only [List.set_cons_succ]); (try simp only [List.set_cons_zero])
            refine wpAnyH_ready (rs := [7]) (by kernel_rfl) (by simp) ?_
            refine AllReadyH.cons (o := { dst := none, op := Op.store 34 (Operand.tmp 12) (Operand.tmp 25), type := 0, pos := "more.go:94", after := #[{ on := 5, ground := Ground.data }, { on := 3, ground := Ground.data }, { on := 6, ground := Ground.chain }, { on := 0, ground := Ground.phase }, { on := 1, ground := Ground.phase }, { on := 2, ground := Ground.phase }, { on := 3, ground := Ground.phase }, { on := 4, ground := Ground.phase }, { on := 5, ground := Ground.phase }, { on := 6, ground := Ground.phase }], guard := none }) rfl (fun K hK => ?_) AllReadyH.nil
            rw [if_pos (by rfl)]
            refine wp_store_row 34 _ _ rfl _ _ rfl rfl 34 _ ((setRow_other _ _ _ _ (by first | omega | (simp <;> omega))).trans (up1 q12)) (by kernel_rfl) rfl (by simp; exact ⟨rfl, rfl, rfl, rfl, rfl, rfl⟩) ?_
            have h4' := hHeld.1
            refine hK.out _ _ ?_ (fun hHeld => ?_)
            · exact ⟨below_setRow h4' (by first | omega | (simp <;> omega)) _, C.out _ (below_setRow h4' (by first | omega | (simp <;> omega)) _)⟩
            clear hK K
            (try simp only [Act.put]); (try simp only [List.setIfInBounds_toArray]); (try simp only [List.set_cons_succ]); (try simp only [List.set_cons_zero])
            refine wpAnyH_done (by kernel_rfl) ?_ _
            go_wp2_with fail
            go_meet
            exact ⟨_, _, rfl, rfl, hHeld.1, ((setRow_other _ _ _ _ (by first | omega | (simp <;> omega))).trans (setRow_same top1)), (setRow_same ((setRow_other _ _ _ _ (by first | omega | (simp <;> omega))).trans (up1 q12)))⟩
          exact AllReadyH.nil
        refine AllReadyH.cons rfl (fun K hK => ?_) ?_
        · go_simp
          refine hK.out _ _ ?_ (fun hHeld => ?_)
          · first | assumption | (refine ⟨?_, C.out _ ?_⟩ <;> (repeat' first | exact h4 | exact (Below.refl _ _).drew | refine Below.alloc ?_ ?_ _) <;> (first | omega | exact Nat.le_refl _ | (simp <;> omega)))
          clear hK K
          (try simp only [Act.put]); (try simp only [List.setIfInBounds_toArray]); (try simp only [List.set_cons_succ]); (try simp only [List.set_cons_zero])
          refine wpAnyH_ready (rs := [3]) (by kernel_rfl) (by simp) ?_
          refine AllReadyH.cons rfl (fun K hK => ?_) ?_
          · go_simp
            go_at_call 15
            with_reducible refine (B2.out _ (HT.out _ (hbW.trans (hHeld.1.mono hbW.size)))).mono ?_
            rintro e w5 ⟨rfl, h4⟩
            have q12 := row_two h4
            have q11 := row_two' h4
            have l12 := row_lt q12
            have l11 := row_lt q11
            replace h4 := hHeld.1.trans (h4.mono hHeld.1.size)
            have z4 := h4.size
            refine hK.out _ _ ?_ (fun hHeld => ?_)
            · exact ⟨h4, C.out _ h4⟩
            clear hK K
            (try simp only [Act.put]); (try simp only [List.setIfInBounds_toArray]); (try simp only [List.set_cons_succ]); (try simp only [List.set_cons_zero])
            refine wpAnyH_ready (rs := [6]) (by kernel_rfl) (by simp) ?_
            refine AllReadyH.cons (o := { dst := none, op := Op.store 34 (Operand.tmp 11) (Operand.tmp 23), type := 0, pos := "more.go:94", after := #[{ on := 4, ground := Ground.data }, { on := 1, ground := Ground.data }, { on := 3, ground := Ground.chain }, { on := 0, ground := Ground.phase }, { on := 1, ground := Ground.phase }, { on := 2, ground := Ground.textOnly Departure.lateStores }, { on := 3, ground := Ground.phase }, { on := 4, ground := Ground.phase }, { on := 5, ground := Ground.phase }], guard := none }) rfl (fun K hK => ?_) AllReadyH.nil
            rw [if_pos (by rfl)]
            refine wp_store_row 34 _ _ rfl _ _ rfl rfl 34 _ q11 (by kernel_rfl) rfl (by simp; exact ⟨rfl, rfl, rfl, rfl, rfl, rfl⟩) ?_
            have h4' := hHeld.1
            refine hK.out _ _ ?_ (fun hHeld => ?_)
            · exact ⟨below_setRow h4' (by first | omega | (simp <;> omega)) _, C.out _ (below_setRow h4' (by first | omega | (simp <;> omega)) _)⟩
            clear hK K
            (try simp only [Act.put]); (try simp only [List.setIfInBounds_toArray]); (try simp only [List.set_cons_succ]); (try simp only [List.set_cons_zero])
            refine wpAnyH_ready (rs := [7]) (by kernel_rfl) (by simp) ?_
            refine AllReadyH.cons (o := { dst := none, op := Op.store 34 (Operand.tmp 12) (Operand.tmp 25), type := 0, pos := "more.go:94", after := #[{ on := 5, ground := Ground.data }, { on := 3, ground := Ground.data }, { on := 6, ground := Ground.chain }, { on := 0, ground := Ground.phase }, { on := 1, ground := Ground.phase }, { on := 2, ground := Ground.phase }, { on := 3, ground := Ground.phase }, { on := 4, ground := Ground.phase }, { on := 5, ground := Ground.phase }, { on := 6, ground := Ground.phase }], guard := none }) rfl (fun K hK => ?_) AllReadyH.nil
            rw [if_pos (by rfl)]
            refine wp_store_row 34 _ _ rfl _ _ rfl rfl 34 _ ((setRow_other _ _ _ _ (by first | omega | (simp <;> omega))).trans q12) (by kernel_rfl) rfl (by simp; exact ⟨rfl, rfl, rfl, rfl, rfl, rfl⟩) ?_
            have h4' := hHeld.1
            refine hK.out _ _ ?_ (fun hHeld => ?_)
            · exact ⟨below_setRow h4' (by first | omega | (simp <;> omega)) _, C.out _ (below_setRow h4' (by first | omega | (simp <;> omega)) _)⟩
            clear hK K
            (try simp only [Act.put]); (try simp only [List.setIfInBounds_toArray]); (try simp only [List.set_cons_succ]); (try simp only [List.set_cons_zero])
            refine wpAnyH_done (by kernel_rfl) ?_ _
            go_wp2_with fail
            go_meet
            exact ⟨_, _, rfl, rfl, hHeld.1, ((setRow_other _ _ _ _ (by first | omega | (simp <;> omega))).trans (setRow_same q11)), (setRow_same ((setRow_other _ _ _ _ (by first | omega | (simp <;> omega))).trans q12))⟩
          exact AllReadyH.nil
        exact AllReadyH.nil
      exact AllReadyH.nil
    refine AllReadyH.cons rfl (fun K hK => ?_) ?_
    · go_simp
      refine hK.out _ _ ?_ (fun hHeld => ?_)
      · first | assumption | (refine ⟨?_, C.out _ ?_⟩ <;> (repeat' first | exact h4 | exact (Below.refl _ _).drew | refine Below.alloc ?_ ?_ _) <;> (first | omega | exact Nat.le_refl _ | (simp <;> omega)))
      clear hK K
      (try simp only [Act.put]); (try simp only [List.setIfInBounds_toArray]); (try simp only [List.set_cons_succ]); (try simp only [List.set_cons_zero])
      refine wpAnyH_ready (rs := [1, 5]) (by kernel_rfl) (by simp) ?_
      refine AllReadyH.cons rfl (fun K hK => ?_) ?_
      · go_simp
        go_at_call 15
        with_reducible refine (B1.out _ (HT.out _ (hbW.trans (hHeld.1.mono hbW.size)))).mono ?_
        rintro e w4 ⟨rfl, h4⟩
        have q11 := row_one h4
        have l11 := row_lt q11
        replace h4 := hHeld.1.trans (h4.mono hHeld.1.size)
        have z4 := h4.size
        refine hK.out _ _ ?_ (fun hHeld => ?_)
        · exact ⟨h4, C.out _ h4⟩
        clear hK K
        (try simp only [Act.put]); (try simp only [List.setIfInBounds_toArray]); (try simp only [List.set_cons_succ]); (try simp only [List.set_cons_zero])
        refine wpAnyH_ready (rs := [3, 5]) (by kernel_rfl) (by simp) ?_
        refine AllReadyH.cons rfl (fun K hK => ?_) ?_
        · go_simp
          go_at_call 15
          with_reducible refine (B2.out _ (HT.out _ (hbW.trans (hHeld.1.mono hbW.size)))).mono ?_
          rintro e w5 ⟨rfl, h4⟩
          have q11 := row_keep0 h4 q11
          have l11 := row_lt q11
          replace h4 := hHeld.1.trans (h4.mono hHeld.1.size)
          have z4 := h4.size
          refine hK.out _ _ ?_ (fun hHeld => ?_)
          · exact ⟨h4, C.out _ h4⟩
          clear hK K
          (try simp only [Act.put]); (try simp only [List.setIfInBounds_toArray]); (try simp only [List.set_cons_succ]); (try simp only [List.set_cons_zero])
          refine wpAnyH_ready (rs := [5]) (by kernel_rfl) (by simp) ?_
          refine AllReadyH.cons rfl (fun K hK => ?_) ?_
          · go_simp
            refine hK.out _ _ ?_ (fun hHeld => ?_)
            · first | assumption | (refine ⟨?_, C.out _ ?_⟩ <;> (repeat' first | exact h4 | exact (Below.refl _ _).drew | refine Below.alloc ?_ ?_ _) <;> (first | omega | exact Nat.le_refl _ | (simp <;> omega)))
            clear hK K
            (try simp only [Act.put]); (try simp only [List.setIfInBounds_toArray]); (try simp only [List.set_cons_succ]); (try simp only [List.set_cons_zero])
            refine wpAnyH_ready (rs := [6]) (by kernel_rfl) (by simp) ?_
            refine AllReadyH.cons (o := { dst := none, op := Op.store 34 (Operand.tmp 11) (Operand.tmp 23), type := 0, pos := "more.go:94", after := #[{ on := 4, ground := Ground.data }, { on := 1, ground := Ground.data }, { on := 3, ground := Ground.chain }, { on := 0, ground := Ground.phase }, { on := 1, ground := Ground.phase }, { on := 2, ground := Ground.textOnly Departure.lateStores }, { on := 3, ground := Ground.phase }, { on := 4, ground := Ground.phase }, { on := 5, ground := Ground.phase }], guard := none }) rfl (fun K hK => ?_) AllReadyH.nil
            rw [if_pos (by rfl)]
            refine wp_store_row 34 _ _ rfl _ _ rfl rfl 34 _ (up1 q11) (by kernel_rfl) rfl (by simp; exact ⟨rfl, rfl, rfl, rfl, rfl, rfl⟩) ?_
            have h4' := hHeld.1
            refine hK.out _ _ ?_ (fun hHeld => ?_)
            · exact ⟨below_setRow h4' (by first | omega | (simp <;> omega)) _, C.out _ (below_setRow h4' (by first | omega | (simp <;> omega)) _)⟩
            clear hK K
            (try simp only [Act.put]); (try simp only [List.setIfInBounds_toArray]); (try simp only [List.set_cons_succ]); (try simp only [List.set_cons_zero])
            refine wpAnyH_ready (rs := [7]) (by kernel_rfl) (by simp) ?_
            refine AllReadyH.cons (o := { dst := none, op := Op.store 34 (Operand.tmp 12) (Operand.tmp 25), type := 0, pos := "more.go:94", after := #[{ on := 5, ground := Ground.data }, { on := 3, ground := Ground.data }, { on := 6, ground := Ground.chain }, { on := 0, ground := Ground.phase }, { on := 1, ground := Ground.phase }, { on := 2, ground := Ground.phase }, { on := 3, ground := Ground.phase }, { on := 4, ground := Ground.phase }, { on := 5, ground := Ground.phase }, { on := 6, ground := Ground.phase }], guard := none }) rfl (fun K hK => ?_) AllReadyH.nil
            rw [if_pos (by rfl)]
            refine wp_store_row 34 _ _ rfl _ _ rfl rfl 34 _ ((setRow_other _ _ _ _ (by first | omega | (simp <;> omega))).trans top1) (by kernel_rfl) rfl (by simp; exact ⟨rfl, rfl, rfl, rfl, rfl, rfl⟩) ?_
            have h4' := hHeld.1
            refine hK.out _ _ ?_ (fun hHeld => ?_)
            · exact ⟨below_setRow h4' (by first | omega | (simp <;> omega)) _, C.out _ (below_setRow h4' (by first | omega | (simp <;> omega)) _)⟩
            clear hK K
            (try simp only [Act.put]); (try simp only [List.setIfInBounds_toArray]); (try simp only [List.set_cons_succ]); (try simp only [List.set_cons_zero])
            refine wpAnyH_done (by kernel_rfl) ?_ _
            go_wp2_with fail
            go_meet
            exact ⟨_, _, rfl, rfl, hHeld.1, ((setRow_other _ _ _ _ (by first | omega | (simp <;> omega))).trans (setRow_same (up1 q11))), (setRow_same ((setRow_other _ _ _ _ (by first | omega | (simp <;> omega))).trans top1))⟩
          exact AllReadyH.nil
        refine AllReadyH.cons rfl (fun K hK => ?_) ?_
        · go_simp
          refine hK.out _ _ ?_ (fun hHeld => ?_)
          · first | assumption | (refine ⟨?_, C.out _ ?_⟩ <;> (repeat' first | exact h4 | exact (Below.refl _ _).drew | refine Below.alloc ?_ ?_ _) <;> (first | omega | exact Nat.le_refl _ | (simp <;> omega)))
          clear hK K
          (try simp only [Act.put]); (try simp only [List.setIfInBounds_toArray]); (try simp only [List.set_cons_succ]); (try simp only [List.set_cons_zero])
          refine wpAnyH_ready (rs := [3]) (by kernel_rfl) (by simp) ?_
          refine AllReadyH.cons rfl (fun K hK => ?_) ?_
          · go_simp
            go_at_call 15
            with_reducible refine (B2.out _ (HT.out _ (hbW.trans (hHeld.1.mono hbW.size)))).mono ?_
            rintro e w5 ⟨rfl, h4⟩
            have q11 := row_keep1 h4 q11
            have q12 := row_one h4
            have l11 := row_lt q11
            have l12 := row_lt q12
            replace h4 := hHeld.1.trans (h4.mono hHeld.1.size)
            have z4 := h4.size
            refine hK.out _ _ ?_ (fun hHeld => ?_)
            · exact ⟨h4, C.out _ h4⟩
            clear hK K
            (try simp only [Act.put]); (try simp only [List.setIfInBounds_toArray]); (try simp only [List.set_cons_succ]); (try simp only [List.set_cons_zero])
            refine wpAnyH_ready (rs := [6]) (by kernel_rfl) (by simp) ?_
            refine AllReadyH.cons (o := { dst := none, op := Op.store 34 (Operand.tmp 11) (Operand.tmp 23), type := 0, pos := "more.go:94", after := #[{ on := 4, ground := Ground.data }, { on := 1, ground := Ground.data }, { on := 3, ground := Ground.chain }, { on := 0, ground := Ground.phase }, { on := 1, ground := Ground.phase }, { on := 2, ground := Ground.textOnly Departure.lateStores }, { on := 3, ground := Ground.phase }, { on := 4, ground := Ground.phase }, { on := 5, ground := Ground.phase }], guard := none }) rfl (fun K hK => ?_) AllReadyH.nil
            rw [if_pos (by rfl)]
            refine wp_store_row 34 _ _ rfl _ _ rfl rfl 34 _ q11 (by kernel_rfl) rfl (by simp; exact ⟨rfl, rfl, rfl, rfl, rfl, rfl⟩) ?_
            have h4' := hHeld.1
            refine hK.out _ _ ?_ (fun hHeld => ?_)
            · exact ⟨below_setRow h4' (by first | omega | (simp <;> omega)) _, C.out _ (below_setRow h4' (by first | omega | (simp <;> omega)) _)⟩
            clear hK K
            (try simp only [Act.put]); (try simp only [List.setIfInBounds_toArray]); (try simp only [List.set_cons_succ]); (try simp only [List.set_cons_zero])
            refine wpAnyH_ready (rs := [7]) (by kernel_rfl) (by simp) ?_
            refine AllReadyH.cons (o := { dst := none, op := Op.store 34 (Operand.tmp 12) (Operand.tmp 25), type := 0, pos := "more.go:94", after := #[{ on := 5, ground := Ground.data }, { on := 3, ground := Ground.data }, { on := 6, ground := Ground.chain }, { on := 0, ground := Ground.phase }, { on := 1, ground := Ground.phase }, { on := 2, ground := Ground.phase }, { on := 3, ground := Ground.phase }, { on := 4, ground := Ground.phase }, { on := 5, ground := Ground.phase }, { on := 6, ground := Ground.phase }], guard := none }) rfl (fun K hK => ?_) AllReadyH.nil
            rw [if_pos (by rfl)]
            refine wp_store_row 34 _ _ rfl _ _ rfl rfl 34 _ ((setRow_other _ _ _ _ (by first | omega | (simp <;> omega))).trans q12) (by kernel_rfl) rfl (by simp; exact ⟨rfl, rfl, rfl, rfl, rfl, rfl⟩) ?_
            have h4' := hHeld.1
            refine hK.out _ _ ?_ (fun hHeld => ?_)
            · exact ⟨below_setRow h4' (by first | omega | (simp <;> omega)) _, C.out _ (below_setRow h4' (by first | omega | (simp <;> omega)) _)⟩
            clear hK K
            (try simp only [Act.put]); (try simp only [List.setIfInBounds_toArray]); (try simp only [List.set_cons_succ]); (try simp only [List.set_cons_zero])
            refine wpAnyH_done (by kernel_rfl) ?_ _
            go_wp2_with fail
            go_meet
            exact ⟨_, _, rfl, rfl, hHeld.1, ((setRow_other _ _ _ _ (by first | omega | (simp <;> omega))).trans (setRow_same q11)), (setRow_same ((setRow_other _ _ _ _ (by first | omega | (simp <;> omega))).trans q12))⟩
          exact AllReadyH.nil
        exact AllReadyH.nil
      refine AllReadyH.cons rfl (fun K hK => ?_) ?_
      · go_simp
        refine hK.out _ _ ?_ (fun hHeld => ?_)
        · first | assumption | (refine ⟨?_, C.out _ ?_⟩ <;> (repeat' first | exact h4 | exact (Below.refl _ _).drew | refine Below.alloc ?_ ?_ _) <;> (first | omega | exact Nat.le_refl _ | (simp <;> omega)))
        clear hK K
        (try simp only [Act.put]); (try simp only [List.setIfInBounds_toArray]); (try simp only [List.set_cons_succ]); (try simp only [List.set_cons_zero])
        refine wpAnyH_ready (rs := [1]) (by kernel_rfl) (by simp) ?_
        refine AllReadyH.cons rfl (fun K hK => ?_) ?_
        · go_simp
          go_at_call 15
          with_reducible refine (B1.out _ (HT.out _ (hbW.trans (hHeld.1.mono hbW.size)))).mono ?_
          rintro e w4 ⟨rfl, h4⟩
          have q11 := row_two h4
          have q12 := row_two' h4
          have l11 := row_lt q11
          have l12 := row_lt q12
          replace h4 := hHeld.1.trans (h4.mono hHeld.1.size)
          have z4 := h4.size
          refine hK.out _ _ ?_ (fun hHeld => ?_)
          · exact ⟨h4, C.out _ h4⟩
          clear hK K
          (try simp only [Act.put]); (try simp only [List.setIfInBounds_toArray]); (try simp only [List.set_cons_succ]); (try simp only [List.set_cons_zero])
          refine wpAnyH_ready (rs := [3]) (by kernel_rfl) (by simp) ?_
          refine AllReadyH.cons rfl (fun K hK => ?_) ?_
          · go_simp
            go_at_call 15
            with_reducible refine (B2.out _ (HT.out _ (hbW.trans (hHeld.1.mono hbW.size)))).mono ?_
            rintro e w5 ⟨rfl, h4⟩
            have q11 := row_keep0 h4 q11
            have q12 := row_keep0 h4 q12
            have l11 := row_lt q11
            have l12 := row_lt q12
            replace h4 := hHeld.1.trans (h4.mono hHeld.1.size)
            have z4 := h4.size
            refine hK.out _ _ ?_ (fun hHeld => ?_)
            · exact ⟨h4, C.out _ h4⟩
            clear hK K
            (try simp only [Act.put]); (try simp only [List.setIfInBounds_toArray]); (try simp only [List.set_cons_succ]); (try simp only [List.set_cons_zero])
            refine wpAnyH_ready (rs := [6]) (by kernel_rfl) (by simp) ?_
            refine AllReadyH.cons (o := { dst := none, op := Op.store 34 (Operand.tmp 11) (Operand.tmp 23), type := 0, pos := "more.go:94", after := #[{ on := 4, ground := Ground.data }, { on := 1, ground := Ground.data }, { on := 3, ground := Ground.chain }, { on := 0, ground := Ground.phase }, { on := 1, ground := Ground.phase }, { on := 2, ground := Ground.textOnly Departure.lateStores }, { on := 3, ground := Ground.phase }, { on := 4, ground := Ground.phase }, { on := 5, ground := Ground.phase }], guard := none }) rfl (fun K hK => ?_) AllReadyH.nil
            rw [if_pos (by rfl)]
            refine wp_store_row 34 _ _ rfl _ _ rfl rfl 34 _ q11 (by kernel_rfl) rfl (by simp; exact ⟨rfl, rfl, rfl, rfl, rfl, rfl⟩) ?_
            have h4' := hHeld.1
            refine hK.out _ _ ?_ (fun hHeld => ?_)
            · exact ⟨below_setRow h4' (by first | omega | (simp <;> omega)) _, C.out _ (below_setRow h4' (by first | omega | (simp <;> omega)) _)⟩
            clear hK K
            (try simp only [Act.put]); (try simp only [List.setIfInBounds_toArray]); (try simp only [List.set_cons_succ]); (try simp only [List.set_cons_zero])
            refine wpAnyH_ready (rs := [7]) (by kernel_rfl) (by simp) ?_
            refine AllReadyH.cons (o := { dst := none, op := Op.store 34 (Operand.tmp 12) (Operand.tmp 25), type := 0, pos := "more.go:94", after := #[{ on := 5, ground := Ground.data }, { on := 3, ground := Ground.data }, { on := 6, ground := Ground.chain }, { on := 0, ground := Ground.phase }, { on := 1, ground := Ground.phase }, { on := 2, ground := Ground.phase }, { on := 3, ground := Ground.phase }, { on := 4, ground := Ground.phase }, { on := 5, ground := Ground.phase }, { on := 6, ground := Ground.phase }], guard := none }) rfl (fun K hK => ?_) AllReadyH.nil
            rw [if_pos (by rfl)]
            refine wp_store_row 34 _ _ rfl _ _ rfl rfl 34 _ ((setRow_other _ _ _ _ (by first | omega | (simp <;> omega))).trans q12) (by kernel_rfl) rfl (by simp; exact ⟨rfl, rfl, rfl, rfl, rfl, rfl⟩) ?_
            have h4' := hHeld.1
            refine hK.out _ _ ?_ (fun hHeld => ?_)
            · exact ⟨below_setRow h4' (by first | omega | (simp <;> omega)) _, C.out _ (below_setRow h4' (by first | omega | (simp <;> omega)) _)⟩
            clear hK K
            (try simp only [Act.put]); (try simp only [List.setIfInBounds_toArray]); (try simp only [List.set_cons_succ]); (try simp only [List.set_cons_zero])
            refine wpAnyH_done (by kernel_rfl) ?_ _
            go_wp2_with fail
            go_meet
            exact ⟨_, _, rfl, rfl, hHeld.1, ((setRow_other _ _ _ _ (by first | omega | (simp <;> omega))).trans (setRow_same q11)), (setRow_same ((setRow_other _ _ _ _ (by first | omega | (simp <;> omega))).trans q12))⟩
          exact AllReadyH.nil
        exact AllReadyH.nil
      exact AllReadyH.nil
    refine AllReadyH.cons rfl (fun K hK => ?_) ?_
    · go_simp
      refine hK.out _ _ ?_ (fun hHeld => ?_)
      · first | assumption | (refine ⟨?_, C.out _ ?_⟩ <;> (repeat' first | exact h4 | exact (Below.refl _ _).drew | refine Below.alloc ?_ ?_ _) <;> (first | omega | exact Nat.le_refl _ | (simp <;> omega)))
      clear hK K
      (try simp only [Act.put]); (try simp only [List.setIfInBounds_toArray]); (try simp only [List.set_cons_succ]); (try simp only [List.set_cons_zero])
      refine wpAnyH_ready (rs := [1, 4]) (by kernel_rfl) (by simp) ?_
      refine AllReadyH.cons rfl (fun K hK => ?_) ?_
      · go_simp
        go_at_call 15
        with_reducible refine (B1.out _ (HT.out _ (hbW.trans (hHeld.1.mono hbW.size)))).mono ?_
        rintro e w4 ⟨rfl, h4⟩
        have q12 := row_one h4
        have l12 := row_lt q12
        replace h4 := hHeld.1.trans (h4.mono hHeld.1.size)
        have z4 := h4.size
        refine hK.out _ _ ?_ (fun hHeld => ?_)
        · exact ⟨h4, C.out _ h4⟩
        clear hK K
        (try simp only [Act.put]); (try simp only [List.setIfInBounds_toArray]); (try simp only [List.set_cons_succ]); (try simp only [List.set_cons_zero])
        refine wpAnyH_ready (rs := [3, 4]) (by kernel_rfl) (by simp) ?_
        refine AllReadyH.cons rfl (fun K hK => ?_) ?_
        · go_simp
          go_at_call 15
          with_reducible refine (B2.out _ (HT.out _ (hbW.trans (hHeld.1.mono hbW.size)))).mono ?_
          rintro e w5 ⟨rfl, h4⟩
          have q12 := row_keep0 h4 q12
          have l12 := row_lt q12
          replace h4 := hHeld.1.trans (h4.mono hHeld.1.size)
          have z4 := h4.size
          refine hK.out _ _ ?_ (fun hHeld => ?_)
          · exact ⟨h4, C.out _ h4⟩
          clear hK K
          (try simp only [Act.put]); (try simp only [List.setIfInBounds_toArray]); (try simp only [List.set_cons_succ]); (try simp only [List.set_cons_zero])
          refine wpAnyH_ready (rs := [4]) (by kernel_rfl) (by simp) ?_
          refine AllReadyH.cons rfl (fun K hK => ?_) ?_
          · go_simp
            refine hK.out _ _ ?_ (fun hHeld => ?_)
            · first | assumption | (refine ⟨?_, C.out _ ?_⟩ <;> (repeat' first | exact h4 | exact (Below.refl _ _).drew | refine Below.alloc ?_ ?_ _) <;> (first | omega | exact Nat.le_refl _ | (simp <;> omega)))
            clear hK K
            (try simp only [Act.put]); (try simp only [List.setIfInBounds_toArray]); (try simp only [List.set_cons_succ]); (try simp only [List.set_cons_zero])
            refine wpAnyH_ready (rs := [6]) (by kernel_rfl) (by simp) ?_
            refine AllReadyH.cons (o := { dst := none, op := Op.store 34 (Operand.tmp 11) (Operand.tmp 23), type := 0, pos := "more.go:94", after := #[{ on := 4, ground := Ground.data }, { on := 1, ground := Ground.data }, { on := 3, ground := Ground.chain }, { on := 0, ground := Ground.phase }, { on := 1, ground := Ground.phase }, { on := 2, ground := Ground.textOnly Departure.lateStores }, { on := 3, ground := Ground.phase }, { on := 4, ground := Ground.phase }, { on := 5, ground := Ground.phase }], guard := none }) rfl (fun K hK => ?_) AllReadyH.nil
            rw [if_pos (by rfl)]
            refine wp_store_row 34 _ _ rfl _ _ rfl rfl 34 _ top1 (by kernel_rfl) rfl (by simp; exact ⟨rfl, rfl, rfl, rfl, rfl, rfl⟩) ?_
            have h4' := hHeld.1
            refine hK.out _ _ ?_ (fun hHeld => ?_)
            · exact ⟨below_setRow h4' (by first | omega | (simp <;> omega)) _, C.out _ (below_setRow h4' (by first | omega | (simp <;> omega)) _)⟩
            clear hK K
            (try simp only [Act.put]); (try simp only [List.setIfInBounds_toArray]); (try simp only [List.set_cons_succ]); (try simp only [List.set_cons_zero])
            refine wpAnyH_ready (rs := [7]) (by kernel_rfl) (by simp) ?_
            refine AllReadyH.cons (o := { dst := none, op := Op.store 34 (Operand.tmp 12) (Operand.tmp 25), type := 0, pos := "more.go:94", after := #[{ on := 5, ground := Ground.data }, { on := 3, ground := Ground.data }, { on := 6, ground := Ground.chain }, { on := 0, ground := Ground.phase }, { on := 1, ground := Ground.phase }, { on := 2, ground := Ground.phase }, { on := 3, ground := Ground.phase }, { on := 4, ground := Ground.phase }, { on := 5, ground := Ground.phase }, { on := 6, ground := Ground.phase }], guard := none }) rfl (fun K hK => ?_) AllReadyH.nil
            rw [if_pos (by rfl)]
            refine wp_store_row 34 _ _ rfl _ _ rfl rfl 34 _ ((setRow_other _ _ _ _ (by first | omega | (simp <;> omega))).trans (up1 q12)) (by kernel_rfl) rfl (by simp; exact ⟨rfl, rfl, rfl, rfl, rfl, rfl⟩) ?_
            have h4' := hHeld.1
            refine hK.out _ _ ?_ (fun hHeld => ?_)
            · exact ⟨below_setRow h4' (by first | omega | (simp <;> omega)) _, C.out _ (below_setRow h4' (by first | omega | (simp <;> omega)) _)⟩
            clear hK K
            (try simp only [Act.put]); (try simp only [List.setIfInBounds_toArray]); (try simp only [List.set_cons_succ]); (try simp only [List.set_cons_zero])
            refine wpAnyH_done (by kernel_rfl) ?_ _
            go_wp2_with fail
            go_meet
            exact ⟨_, _, rfl, rfl, hHeld.1, ((setRow_other _ _ _ _ (by first | omega | (simp <;> omega))).trans (setRow_same top1)), (setRow_same ((setRow_other _ _ _ _ (by first | omega | (simp <;> omega))).trans (up1 q12)))⟩
          exact AllReadyH.nil
        refine AllReadyH.cons rfl (fun K hK => ?_) ?_
        · go_simp
          refine hK.out _ _ ?_ (fun hHeld => ?_)
          · first | assumption | (refine ⟨?_, C.out _ ?_⟩ <;> (repeat' first | exact h4 | exact (Below.refl _ _).drew | refine Below.alloc ?_ ?_ _) <;> (first | omega | exact Nat.le_refl _ | (simp <;> omega)))
          clear hK K
          (try simp only [Act.put]); (try simp only [List.setIfInBounds_toArray]); (try simp only [List.set_cons_succ]); (try simp only [List.set_cons_zero])
          refine wpAnyH_ready (rs := [3]) (by kernel_rfl) (by simp) ?_
          refine AllReadyH.cons rfl (fun K hK => ?_) ?_
          · go_simp
            go_at_call 15
            with_reducible refine (B2.out _ (HT.out _ (hbW.trans (hHeld.1.mono hbW.size)))).mono ?_
            rintro e w5 ⟨rfl, h4⟩
            have q12 := row_keep1 h4 q12
            have q11 := row_one h4
            have l12 := row_lt q12
            have l11 := row_lt q11
            replace h4 := hHeld.1.trans (h4.mono hHeld.1.size)
            have z4 := h4.size
            refine hK.out _ _ ?_ (fun hHeld => ?_)
            · exact ⟨h4, C.out _ h4⟩
            clear hK K
            (try simp only [Act.put]); (try simp only [List.setIfInBounds_toArray]); (try simp only [List.set_cons_succ]); (try simp only [List.set_cons_zero])
            refine wpAnyH_ready (rs := [6]) (by kernel_rfl) (by simp) ?_
            refine AllReadyH.cons (o := { dst := none, op := Op.store 34 (Operand.tmp 11) (Operand.tmp 23), type := 0, pos := "more.go:94", after := #[{ on := 4, ground := Ground.data }, { on := 1, ground := Ground.data }, { on := 3, ground := Ground.chain }, { on := 0, ground := Ground.phase }, { on := 1, ground := Ground.phase }, { on := 2, ground := Ground.textOnly Departure.lateStores }, { on := 3, ground := Ground.phase }, { on := 4, ground := Ground.phase }, { on := 5, ground := Ground.phase }], guard := none }) rfl (fun K hK => ?_) AllReadyH.nil
            rw [if_pos (by rfl)]
            refine wp_store_row 34 _ _ rfl _ _ rfl rfl 34 _ q11 (by kernel_rfl) rfl (by simp; exact ⟨rfl, rfl, rfl, rfl, rfl, rfl⟩) ?_
            have h4' := hHeld.1
            refine hK.out _ _ ?_ (fun hHeld => ?_)
            · exact ⟨below_setRow h4' (by first | omega | (simp <;> omega)) _, C.out _ (below_setRow h4' (by first | omega | (simp <;> omega)) _)⟩
            clear hK K
            (try simp only [Act.put]); (try simp only [List.setIfInBounds_toArray]); (try simp only [List.set_cons_succ]); (try simp only [List.set_cons_zero])
            refine wpAnyH_ready (rs := [7]) (by kernel_rfl) (by simp) ?_
            refine AllReadyH.cons (o := { dst := none, op := Op.store 34 (Operand.tmp 12) (Operand.tmp 25), type := 0, pos := "more.go:94", after := #[{ on := 5, ground := Ground.data }, { on := 3, ground := Ground.data }, { on := 6, ground := Ground.chain }, { on := 0, ground := Ground.phase }, { on := 1, ground := Ground.phase }, { on := 2, ground := Ground.phase }, { on := 3, ground := Ground.phase }, { on := 4, ground := Ground.phase }, { on := 5, ground := Ground.phase }, { on := 6, ground := Ground.phase }], guard := none }) rfl (fun K hK => ?_) AllReadyH.nil
            rw [if_pos (by rfl)]
            refine wp_store_row 34 _ _ rfl _ _ rfl rfl 34 _ ((setRow_other _ _ _ _ (by first | omega | (simp <;> omega))).trans q12) (by kernel_rfl) rfl (by simp; exact ⟨rfl, rfl, rfl, rfl, rfl, rfl⟩) ?_
            have h4' := hHeld.1
            refine hK.out _ _ ?_ (fun hHeld => ?_)
            · exact ⟨below_setRow h4' (by first | omega | (simp <;> omega)) _, C.out _ (below_setRow h4' (by first | omega | (simp <;> omega)) _)⟩
            clear hK K
            (try simp only [Act.put]); (try simp only [List.setIfInBounds_toArray]); (try simp only [List.set_cons_succ]); (try simp only [List.set_cons_zero])
            refine wpAnyH_done (by kernel_rfl) ?_ _
            go_wp2_with fail
            go_meet
            exact ⟨_, _, rfl, rfl, hHeld.1, ((setRow_other _ _ _ _ (by first | omega | (simp <;> omega))).trans (setRow_same q11)), (setRow_same ((setRow_other _ _ _ _ (by first | omega | (simp <;> omega))).trans q12))⟩
          exact AllReadyH.nil
        exact AllReadyH.nil
      refine AllReadyH.cons rfl (fun K hK => ?_) ?_
      · go_simp
        refine hK.out _ _ ?_ (fun hHeld => ?_)
        · first | assumption | (refine ⟨?_, C.out _ ?_⟩ <;> (repeat' first | exact h4 | exact (Below.refl _ _).drew | refine Below.alloc ?_ ?_ _) <;> (first | omega | exact Nat.le_refl _ | (simp <;> omega)))
        clear hK K
        (try simp only [Act.put]); (try simp only [List.setIfInBounds_toArray]); (try simp only [List.set_cons_succ]); (try simp only [List.set_cons_zero])
        refine wpAnyH_ready (rs := [1]) (by kernel_rfl) (by simp) ?_
        refine AllReadyH.cons rfl (fun K hK => ?_) ?_
        · go_simp
          go_at_call 15
          with_reducible refine (B1.out _ (HT.out _ (hbW.trans (hHeld.1.mono hbW.size)))).mono ?_
          rintro e w4 ⟨rfl, h4⟩
          have q12 := row_two h4
          have q11 := row_two' h4
          have l12 := row_lt q12
          have l11 := row_lt q11
          replace h4 := hHeld.1.trans (h4.mono hHeld.1.size)
          have z4 := h4.size
          refine hK.out _ _ ?_ (fun hHeld => ?_)
          · exact ⟨h4, C.out _ h4⟩
          clear hK K
          (try simp only [Act.put]); (try simp only [List.setIfInBounds_toArray]); (try simp only [List.set_cons_succ]); (try simp only [List.set_cons_zero])
          refine wpAnyH_ready (rs := [3]) (by kernel_rfl) (by simp) ?_
          refine AllReadyH.cons rfl (fun K hK => ?_) ?_
          · go_simp
            go_at_call 15
            with_reducible refine (B2.out _ (HT.out _ (hbW.trans (hHeld.1.mono hbW.size)))).mono ?_
            rintro e w5 ⟨rfl, h4⟩
            have q12 := row_keep0 h4 q12
            have q11 := row_keep0 h4 q11
            have l12 := row_lt q12
            have l11 := row_lt q11
            replace h4 := hHeld.1.trans (h4.mono hHeld.1.size)
            have z4 := h4.size
            refine hK.out _ _ ?_ (fun hHeld => ?_)
            · exact ⟨h4, C.out _ h4⟩
            clear hK K
            (try simp only [Act.put]); (try simp only [List.setIfInBounds_toArray]); (try simp only [List.set_cons_succ]); (try simp only [List.set_cons_zero])
            refine wpAnyH_ready (rs := [6]) (by kernel_rfl) (by simp) ?_
            refine AllReadyH.cons (o := { dst := none, op := Op.store 34 (Operand.tmp 11) (Operand.tmp 23), type := 0, pos := "more.go:94", after := #[{ on := 4, ground := Ground.data }, { on := 1, ground := Ground.data }, { on := 3, ground := Ground.chain }, { on := 0, ground := Ground.phase }, { on := 1, ground := Ground.phase }, { on := 2, ground := Ground.textOnly Departure.lateStores }, { on := 3, ground := Ground.phase }, { on := 4, ground := Ground.phase }, { on := 5, ground := Ground.phase }], guard := none }) rfl (fun K hK => ?_) AllReadyH.nil
            rw [if_pos (by rfl)]
            refine wp_store_row 34 _ _ rfl _ _ rfl rfl 34 _ q11 (by kernel_rfl) rfl (by simp; exact ⟨rfl, rfl, rfl, rfl, rfl, rfl⟩) ?_
            have h4' := hHeld.1
            refine hK.out _ _ ?_ (fun hHeld => ?_)
            · exact ⟨below_setRow h4' (by first | omega | (simp <;> omega)) _, C.out _ (below_setRow h4' (by first | omega | (simp <;> omega)) _)⟩
            clear hK K
            (try simp only [Act.put]); (try simp only [List.setIfInBounds_toArray]); (try simp only [List.set_cons_succ]); (try simp only [List.set_cons_zero])
            refine wpAnyH_ready (rs := [7]) (by kernel_rfl) (by simp) ?_
            refine AllReadyH.cons (o := { dst := none, op := Op.store 34 (Operand.tmp 12) (Operand.tmp 25), type := 0, pos := "more.go:94", after := #[{ on := 5, ground := Ground.data }, { on := 3, ground := Ground.data }, { on := 6, ground := Ground.chain }, { on := 0, ground := Ground.phase }, { on := 1, ground := Ground.phase }, { on := 2, ground := Ground.phase }, { on := 3, ground := Ground.phase }, { on := 4, ground := Ground.phase }, { on := 5, ground := Ground.phase }, { on := 6, ground := Ground.phase }], guard := none }) rfl (fun K hK => ?_) AllReadyH.nil
            rw [if_pos (by rfl)]
            refine wp_store_row 34 _ _ rfl _ _ rfl rfl 34 _ ((setRow_other _ _ _ _ (by first | omega | (simp <;> omega))).trans q12) (by kernel_rfl) rfl (by simp; exact ⟨rfl, rfl, rfl, rfl, rfl, rfl⟩) ?_
            have h4' := hHeld.1
            refine hK.out _ _ ?_ (fun hHeld => ?_)
            · exact ⟨below_setRow h4' (by first | omega | (simp <;> omega)) _, C.out _ (below_setRow h4' (by first | omega | (simp <;> omega)) _)⟩
            clear hK K
            (try simp only [Act.put]); (try simp only [List.setIfInBounds_toArray]); (try simp only [List.set_cons_succ]); (try simp only [List.set_cons_zero])
            refine wpAnyH_done (by kernel_rfl) ?_ _
            go_wp2_with fail
            go_meet
            exact ⟨_, _, rfl, rfl, hHeld.1, ((setRow_other _ _ _ _ (by first | omega | (simp <;> omega))).trans (setRow_same q11)), (setRow_same ((setRow_other _ _ _ _ (by first | omega | (simp <;> omega))).trans q12))⟩
          exact AllReadyH.nil
        exact AllReadyH.nil
      exact AllReadyH.nil
    exact AllReadyH.nil
  case rest =>
    obtain ⟨b, c, rfl, rfl, hb, rb, rc⟩ := hcut
    clear c0 c1 c2 c3 HT HS T1 T2 B1 B2 hsz h1
    have cmp : ∀ d os, Calls Tryd.prog 32 #[.slice (some ⟨b, 0, none⟩) 6 6, .slice (some ⟨c, 0, none⟩) 6 6] (Sort.grow (redrawn wc d) os) fun e w' => e = .returned (.int .i64 K) ∧ Below (Sort.grow (redrawn wc d) os).heap.size (Sort.grow (redrawn wc d) os) w' := fun d' os => by
      have hg := below_regrown wc d' os
      have q1 := (hg.block b (row_lt rb)).trans rb
      have q2 := (hg.block c (row_lt rc)).trans rc
      refine (compare6 _ (by rfl) b c _ (fun j q hq => ?_)).mono (fun e w' ⟨he, hw⟩ => ⟨hK ▸ he, hw ▸ Below.refl _ _⟩)
      obtain ⟨hj, rfl⟩ := List.getElem?_eq_some_iff.1 hq
      have hj6 : j < 6 := hj
      match j, hj6 with
      | 0, _ => exact ⟨by simp [World.cell?, q1], by simp [World.cell?, q2]⟩
      | 1, _ => exact ⟨by simp [World.cell?, q1], by simp [World.cell?, q2]⟩
      | 2, _ => exact ⟨by simp [World.cell?, q1], by simp [World.cell?, q2]⟩
      | 3, _ => exact ⟨by simp [World.cell?, q1], by simp [World.cell?, q2]⟩
      | 4, _ => exact ⟨by simp [World.cell?, q1], by simp [World.cell?, q2]⟩
      | 5, _ => exact ⟨by simp [World.cell?, q1], by simp [World.cell?, q2]⟩
    have CMP := Lib.hid cmp
    clear cmp hK
    go_upto_region 5 with fail
    refine wp_region_quiet_below (by kernel_rfl) (by kernel_rfl) ?_
    repeat (go_big_quiet_step ((go_at_call 32; with_reducible exact Calls.regrown_of (CMP.out _ _))))
    refine wpQuiet_nil ?_
    intro _ hw'
    obtain ⟨⟨dq, osq⟩, hw''⟩ := hw'
    subst hw''
    generalize hW6 : Sort.grow (redrawn wc dq) osq = W6
    have k6 : Below wc.heap.size wc W6 := hW6 ▸ below_regrown wc dq osq
    have hb6 := hb.trans (k6.mono hb.size)
    obtain ⟨e0, e1, e2, e3⟩ := C.out W6 hb6
    clear C CMP hW6 k6 rb rc
    rcases hs with ⟨hs, rfl⟩ | ⟨hs, rfl⟩ | ⟨hs, rfl⟩
    · have f1 : (s == s') = true := by simpa using hs
      have f2 : decide (s < s') = false := by simp; omega
      clear hs
      go_wp2
      go_ret
      exact ⟨rfl, hbW.trans (hb6.mono hbW.size)⟩
    · have f1 : (s == s') = false := by rw [beq_eq_false_iff_ne]; omega
      have f2 : decide (s < s') = true := by simpa using hs
      clear hs
      go_wp2
      go_ret
      exact ⟨rfl, hbW.trans (hb6.mono hbW.size)⟩
    · have f1 : (s == s') = false := by rw [beq_eq_false_iff_ne]; omega
      have f2 : decide (s < s') = false := by simp; omega
      clear hs
      go_wp2
      go_ret
      exact ⟨rfl, hbW.trans (hb6.mono hbW.size)⟩

theorem stampRises_walk (a0 : Int) (_ : (Lit.int .i64 a0).wf = true) (a1 : Int) (_ : (Lit.int .i64 a1).wf = true) (a2 : Int) (_ : (Lit.int .i64 a2).wf = true) (a3 : Int) (_ : (Lit.int .i64 a3).wf = true) (w : World) (hp : PowLaid w) (hT : TabLaid w) :
    Calls Tryd.prog 10 #[.int .i64 a0, .int .i64 a1, .int .i64 a2, .int .i64 a3] w fun e w' => e = .returned (.bool true) ∧ Below w.heap.size w w' := by
  obtain ⟨y, m, d, hd⟩ := date_exists (secF a0 / 86400)
  obtain ⟨y', m', d', hd'⟩ := date_exists (secF a2 / 86400)
  exact rises_core (secF a0) (nanF a1) (secF a2) (nanF a3) a0 a1 a2 a3 _ _ _ _ _ _ _ _ _ _ _ _ _ w hT rfl (lex_dates hd hd' _ rfl) (stamped_ok w hp hT) (fun w => timed_ex a0 a1 w) (fun w => timed_ex a2 a3 w)
    (fun w hT => date_at _ _ hd w hT (timed_right a0 a1)) (fun w hT => date_at _ _ hd' w hT (timed_right a2 a3))
end Go.Proofs.YtncdmineepagpaaDoor
