/- StampDays: true, at every argument. -/
import Derived.Test.YtncdmineepagpaaDoorStm
import Derived.Lib.QuietBelow
import Derived.Deep.Cut
import Derived.Laws.CopyOwn
namespace Go.Proofs.YtncdmineepagpaaDoor
open Go.RowKit Go.Joins

theorem days_any (y m : Int) (h1 : 1 ≤ m) (h2 : m ≤ 12) (w : World) :
    Calls Tryd.prog 31 #[.int .i64 y, .int .i64 m] w fun e w' => e = .returned (.int .i64 (mlen y m)) ∧ w' = w := by
  by_cases hm : m = 2
  · subst hm
    have e : mlen y 2 = 28 + lp y := by simp [mlen]
    rw [e]
    clear e
    by_cases a : y % 4 = 0
    · have t4 := (tmod_zero y 4).2 a
      by_cases b : y % 100 = 0
      · have t100 := (tmod_zero y 100).2 b
        by_cases c : y % 400 = 0
        · have t400 := (tmod_zero y 400).2 c
          have e : lp y = 1 := by simp [lp, a, b, c]
          rw [e]
          clear a b c e
          go_enter Tryd.func31, Tryd.ntmps31
          go_wp2
          go_ret
          exact ⟨rfl, rfl⟩
        · have t400 : (y.tmod 400 == 0) = false := by rw [beq_eq_false_iff_ne]; exact fun h => c ((tmod_zero y 400).1 h)
          have e : lp y = 0 := by simp [lp, a, b, c]
          rw [e]
          clear a b c e
          go_enter Tryd.func31, Tryd.ntmps31
          go_wp2
          go_ret
          exact ⟨rfl, rfl⟩
      · have t100 : (y.tmod 100 == 0) = false := by rw [beq_eq_false_iff_ne]; exact fun h => b ((tmod_zero y 100).1 h)
        have e : lp y = 1 := by simp [lp, a, b]
        rw [e]
        clear a b e
        go_enter Tryd.func31, Tryd.ntmps31
        go_wp2
        go_ret
        exact ⟨rfl, rfl⟩
    · have t4 : (y.tmod 4 == 0) = false := by rw [beq_eq_false_iff_ne]; exact fun h => a ((tmod_zero y 4).1 h)
      have e : lp y = 0 := by simp [lp, a]
      rw [e]
      clear a e
      go_enter Tryd.func31, Tryd.ntmps31
      go_wp2
      go_ret
      exact ⟨rfl, rfl⟩
  · rcases twelve m h1 h2 with rfl | rfl | rfl | rfl | rfl | rfl | rfl | rfl | rfl | rfl | rfl | rfl
    case inr.inl => exact absurd rfl hm
    all_goals
      clear hm h1 h2
      simp only [show ∀ y, mlen y 1 = 31 from fun y => rfl, show ∀ y, mlen y 3 = 31 from fun y => rfl, show ∀ y, mlen y 4 = 30 from fun y => rfl, show ∀ y, mlen y 5 = 31 from fun y => rfl, show ∀ y, mlen y 6 = 30 from fun y => rfl, show ∀ y, mlen y 7 = 31 from fun y => rfl, show ∀ y, mlen y 8 = 31 from fun y => rfl, show ∀ y, mlen y 9 = 30 from fun y => rfl, show ∀ y, mlen y 10 = 31 from fun y => rfl, show ∀ y, mlen y 11 = 30 from fun y => rfl, show ∀ y, mlen y 12 = 31 from fun y => rfl]
      go_enter Tryd.func31, Tryd.ntmps31
      go_wp2
      go_ret
      exact ⟨rfl, rfl⟩

set_option maxHeartbeats 4000000 in
theorem days_core (a0 S y m d h i s y1 m1 d1 z1 z2 z3 z4 z5 z6 L : Int) (w : World) (hT : TabLaid w)
    (r1 : -1099511627776 ≤ S) (r2 : S ≤ 1086888846976) (q1 : -100000 ≤ y) (q2 : y ≤ 100000) (q3 : 1 ≤ m) (q4 : m ≤ 12) (q5 : 1 ≤ d) (q6 : d ≤ L) (q7 : 28 ≤ L ∧ L ≤ 31) (q8 : 0 ≤ h) (q9 : h ≤ 23) (q10 : 0 ≤ i) (q11 : i ≤ 59) (q12 : 0 ≤ s) (q13 : s ≤ 59)
    (hS : Calls Tryd.prog 19 #[] w fun e w' => e = .returned (.bool true) ∧ Below w.heap.size w w')
    (t1 : ∀ w, Calls Tryd.prog 20 #[.int .i64 a0, .int .i64 0] w fun e w' => e = .returned (tmV S 0) ∧ w' = w.alloc (.cells #[.int .i64 S, .int .i64 0] 23))
    (b1 : ∀ w, TabLaid w → Calls Tryd.prog 15 #[tmV S 0] w fun e w' => e = .returned (dateV y m d h i s) ∧ Below w.heap.size w w')
    (b2 : ∀ w, TabLaid w → Calls Tryd.prog 15 #[tmV (S + 86400) 0] w fun e w' => e = .returned (dateV y1 m1 d1 h i s) ∧ Below w.heap.size w w')
    (b3 : ∀ w, TabLaid w → Calls Tryd.prog 15 #[tmV (S + 12622780800) 0] w fun e w' => e = .returned (dateV (y + 400) m d h i s) ∧ Below w.heap.size w w')
    (b4 : ∀ w, TabLaid w → Calls Tryd.prog 15 #[tmV (S + 1) 0] w fun e w' => e = .returned (dateV z1 z2 z3 z4 z5 z6) ∧ Below w.heap.size w w')
    (dd : ∀ w, Calls Tryd.prog 31 #[.int .i64 y, .int .i64 m] w fun e w' => e = .returned (.int .i64 L) ∧ w' = w)
    (hcase : (d < L ∧ y1 = y ∧ m1 = m ∧ d1 = d + 1) ∨ (d = L ∧ m < 12 ∧ y1 = y ∧ m1 = m + 1 ∧ d1 = 1) ∨ (d = L ∧ m = 12 ∧ y1 = y + 1 ∧ m1 = 1 ∧ d1 = 1))
    (hsec : (s < 59 ∧ y = z1 ∧ m = z2 ∧ d = z3 ∧ h = z4 ∧ i = z5 ∧ s + 1 = z6) ∨ (s = 59 ∧ z6 = 0)) :
    Calls Tryd.prog 8 #[.int .i64 a0] w fun e w' => e = .returned (.bool true) ∧ Below w.heap.size w w' := by
  have HT := Lib.hid (fun w1 (h : Below w.heap.size w w1) => hT.below h)
  have HS := Lib.hid hS
  have T1 := Lib.hid t1
  have B1 := Lib.hid b1
  have B2 := Lib.hid b2
  have B3 := Lib.hid b3
  have B4 := Lib.hid b4
  have DD := Lib.hid dd
  have HC := Lib.hid hcase
  have HE := Lib.hid hsec
  clear hT hS t1 b1 b2 b3 b4 dd hcase hsec
  go_enter Tryd.func8, Tryd.ntmps8
  go_upto_region 6 with (first
    | (go_at_call 19; refine HS.out.mono ?_; rintro e w1 ⟨rfl, h1⟩)
    | (go_at_call 20; with_reducible refine (T1.out _).mono ?_; rintro e w2 ⟨rfl, rfl⟩))
  obtain ⟨W1, hW1⟩ : ∃ W1, W1 = (w1.alloc (.cells #[.int .i64 S, .int .i64 0] 23)).alloc (.cells #[.int .i64 S, .int .i64 0] 23) := ⟨_, rfl⟩
  rw [← hW1]
  have s1 : W1.heap.size = w1.heap.size + 2 := by rw [hW1]; simp
  have g1 : Below w.heap.size w W1 := by
    have := h1.size
    rw [hW1]
    exact (h1.alloc h1.size _).alloc (by simp; omega) _
  have c : (∀ w', Below W1.heap.size W1 w' → w'.cell? ⟨w1.heap.size + 1, 0, none⟩ = some (.int .i64 S) ∧ w'.cell? ⟨w1.heap.size + 1, 1, none⟩ = some (.int .i64 0)) := fun w' hb => by
    refine ⟨?_, ?_⟩ <;> rw [hb.cell (by rw [s1]; simp), hW1] <;> simp [go_sem]
  have C := Lib.hid c
  obtain ⟨c0, c1⟩ := c W1 (Below.refl _ _)
  clear hW1 c
  generalize hB3 : w1.heap.size + 1 = B at *
  go_upto_region 7 with (first
    | (go_at_call 15; with_reducible refine (B1.out _ (HT.out _ g1)).mono ?_; rintro e w2 ⟨rfl, h2⟩))
  obtain ⟨W2, hW2⟩ : ∃ W2, W2 = w2.alloc (.cells #[.int .i64 y, .int .i64 m, .int .i64 d, .int .i64 h, .int .i64 i, .int .i64 s] 34) := ⟨_, rfl⟩
  rw [← hW2]
  have k2 : Below W1.heap.size W1 W2 := hW2 ▸ h2.alloc h2.size _
  have s2 : W2.heap.size = w2.heap.size + 1 := by rw [hW2]; simp
  have o2 := h2.size
  have row2 : W2.heap[w2.heap.size]? = some (.cells #[.int .i64 y, .int .i64 m, .int .i64 d, .int .i64 h, .int .i64 i, .int .i64 s] 34 (0, 0)) := by rw [hW2]; exact Array.getElem?_push_size
  have e2 := k2
  have g2 := g1.trans (e2.mono g1.size)
  obtain ⟨c0, c1⟩ := C.out _ e2
  generalize hA2 : w2.heap.size = A2 at *
  clear hW2 k2 h2 hA2
  go_upto_region 8 with (first
    | (go_at_call 15; with_reducible refine (B2.out _ (HT.out _ g2)).mono ?_; rintro e w3 ⟨rfl, h3⟩))
  obtain ⟨W3, hW3⟩ : ∃ W3, W3 = w3.alloc (.cells #[.int .i64 y1, .int .i64 m1, .int .i64 d1, .int .i64 h, .int .i64 i, .int .i64 s] 34) := ⟨_, rfl⟩
  rw [← hW3]
  have k3 : Below W2.heap.size W2 W3 := hW3 ▸ h3.alloc h3.size _
  have s3 : W3.heap.size = w3.heap.size + 1 := by rw [hW3]; simp
  have o3 := h3.size
  have row3 : W3.heap[w3.heap.size]? = some (.cells #[.int .i64 y1, .int .i64 m1, .int .i64 d1, .int .i64 h, .int .i64 i, .int .i64 s] 34 (0, 0)) := by rw [hW3]; exact Array.getElem?_push_size
  have e3 := e2.trans (k3.mono e2.size)
  replace row2 := (k3.block _ (by omega)).trans row2
  have g3 := g1.trans (e3.mono g1.size)
  obtain ⟨c0, c1⟩ := C.out _ e3
  generalize hA3 : w3.heap.size = A3 at *
  clear hW3 k3 h3 hA3
  go_upto_region 9 with (first
    | (go_at_call 15; with_reducible refine (B3.out _ (HT.out _ g3)).mono ?_; rintro e w4 ⟨rfl, h4⟩))
  obtain ⟨W4, hW4⟩ : ∃ W4, W4 = w4.alloc (.cells #[.int .i64 (y + 400), .int .i64 m, .int .i64 d, .int .i64 h, .int .i64 i, .int .i64 s] 34) := ⟨_, rfl⟩
  rw [← hW4]
  have k4 : Below W3.heap.size W3 W4 := hW4 ▸ h4.alloc h4.size _
  have s4 : W4.heap.size = w4.heap.size + 1 := by rw [hW4]; simp
  have o4 := h4.size
  have row4 : W4.heap[w4.heap.size]? = some (.cells #[.int .i64 (y + 400), .int .i64 m, .int .i64 d, .int .i64 h, .int .i64 i, .int .i64 s] 34 (0, 0)) := by rw [hW4]; exact Array.getElem?_push_size
  have e4 := e3.trans (k4.mono e3.size)
  replace row2 := (k4.block _ (by omega)).trans row2
  replace row3 := (k4.block _ (by omega)).trans row3
  have g4 := g1.trans (e4.mono g1.size)
  obtain ⟨c0, c1⟩ := C.out _ e4
  generalize hA4 : w4.heap.size = A4 at *
  clear hW4 k4 h4 hA4
  go_upto_region 10 with (first
    | (go_at_call 15; with_reducible refine (B4.out _ (HT.out _ g4)).mono ?_; rintro e w5 ⟨rfl, h5⟩))
  obtain ⟨W5, hW5⟩ : ∃ W5, W5 = w5.alloc (.cells #[.int .i64 z1, .int .i64 z2, .int .i64 z3, .int .i64 z4, .int .i64 z5, .int .i64 z6] 34) := ⟨_, rfl⟩
  rw [← hW5]
  have k5 : Below W4.heap.size W4 W5 := hW5 ▸ h5.alloc h5.size _
  have s5 : W5.heap.size = w5.heap.size + 1 := by rw [hW5]; simp
  have o5 := h5.size
  have row5 : W5.heap[w5.heap.size]? = some (.cells #[.int .i64 z1, .int .i64 z2, .int .i64 z3, .int .i64 z4, .int .i64 z5, .int .i64 z6] 34 (0, 0)) := by rw [hW5]; exact Array.getElem?_push_size
  have e5 := e4.trans (k5.mono e4.size)
  replace row2 := (k5.block _ (by omega)).trans row2
  replace row3 := (k5.block _ (by omega)).trans row3
  replace row4 := (k5.block _ (by omega)).trans row4
  have g5 := g1.trans (e5.mono g1.size)
  obtain ⟨c0, c1⟩ := C.out _ e5
  generalize hA5 : w5.heap.size = A5 at *
  clear hW5 k5 h5 hA5
  clear C B1 B2 B3 B4 T1 HS
  obtain ⟨q7, q7'⟩ := q7
  have v0 : W5.cell? ⟨A2, 0, none⟩ = some (.int .i64 y) := by simp [World.cell?, row2]
  have v1 : W5.cell? ⟨A2, 1, none⟩ = some (.int .i64 m) := by simp [World.cell?, row2]
  have v2 : W5.cell? ⟨A2, 2, none⟩ = some (.int .i64 d) := by simp [World.cell?, row2]
  have v3 : W5.cell? ⟨A2, 3, none⟩ = some (.int .i64 h) := by simp [World.cell?, row2]
  have v4 : W5.cell? ⟨A2, 4, none⟩ = some (.int .i64 i) := by simp [World.cell?, row2]
  have v5 : W5.cell? ⟨A2, 5, none⟩ = some (.int .i64 s) := by simp [World.cell?, row2]
  have u0 := fun d os => cell_regrown v0 d os
  have u1 := fun d os => cell_regrown v1 d os
  have u2 := fun d os => cell_regrown v2 d os
  have u3 := fun d os => cell_regrown v3 d os
  have u4 := fun d os => cell_regrown v4 d os
  have u5 := fun d os => cell_regrown v5 d os
  clear v0 v1 v2 v3 v4 v5
  have f1 : decide (m < 1) = false := by simp; omega
  have f2 : decide (12 < m) = false := by simp; omega
  have f3 : decide (d < 1) = false := by simp; omega
  have f4 : decide (L < d) = false := by simp; omega
  have f5 : decide (h < 0) = false := by simp; omega
  have f6 : decide (23 < h) = false := by simp; omega
  have f7 : decide (i < 0) = false := by simp; omega
  have f8 : decide (59 < i) = false := by simp; omega
  have f9 : decide (s < 0) = false := by simp; omega
  have f10 : decide (59 < s) = false := by simp; omega
  have db : ∀ w, Calls Tryd.prog 31 #[.int .i64 y, .int .i64 m] w fun e w' => e = .returned (.int .i64 L) ∧ Below w.heap.size w w' := fun w => (DD.out w).mono (fun _ _ ⟨he, hw⟩ => ⟨he, hw ▸ Below.refl _ _⟩)
  have DB := Lib.hid db
  clear db
  refine wp_region_quiet_below (by kernel_rfl) (by kernel_rfl) ?_
  repeat (go_big_quiet_step ((go_at_call 31; with_reducible exact Calls.regrown_of (DB.out _))))
  refine wpQuiet_nil ?_
  intro _ hw'
  obtain ⟨⟨dq, osq⟩, hw''⟩ := hw'
  subst hw''
  generalize hW6 : Sort.grow (redrawn W5 dq) osq = W6
  have k6 : Below W5.heap.size W5 W6 := hW6 ▸ below_regrown W5 dq osq
  replace row2 := (k6.block _ (by omega)).trans row2
  replace row3 := (k6.block _ (by omega)).trans row3
  replace row4 := (k6.block _ (by omega)).trans row4
  replace row5 := (k6.block _ (by omega)).trans row5
  have g6 := g5.trans (k6.mono g5.size)
  have s6 := k6.size
  have v0 : W6.cell? ⟨A2, 0, none⟩ = some (.int .i64 y) := by simp [World.cell?, row2]
  have v1 : W6.cell? ⟨A2, 1, none⟩ = some (.int .i64 m) := by simp [World.cell?, row2]
  have v2 : W6.cell? ⟨A2, 2, none⟩ = some (.int .i64 d) := by simp [World.cell?, row2]
  have v3 : W6.cell? ⟨A2, 3, none⟩ = some (.int .i64 h) := by simp [World.cell?, row2]
  have v4 : W6.cell? ⟨A2, 4, none⟩ = some (.int .i64 i) := by simp [World.cell?, row2]
  have v5 : W6.cell? ⟨A2, 5, none⟩ = some (.int .i64 s) := by simp [World.cell?, row2]
  clear u0 u1 u2 u3 u4 u5 hW6 k6 c0 c1
  go_upto_region 14 with fail
  generalize hW7 : W6.alloc _ = W7
  have k7 : Below W6.heap.size W6 W7 := hW7 ▸ (Below.refl _ _).alloc (Nat.le_refl _) _
  have row8 : W7.heap[W6.heap.size]? = some (.cells #[.int .i64 y, .int .i64 m, .int .i64 (d + 1), .int .i64 h, .int .i64 i, .int .i64 s] 34 (0, 0)) := by rw [← hW7]; exact Array.getElem?_push_size
  have s7 : W7.heap.size = W6.heap.size + 1 := by rw [← hW7]; simp
  replace row2 := (k7.block _ (by omega)).trans row2
  replace row3 := (k7.block _ (by omega)).trans row3
  replace row4 := (k7.block _ (by omega)).trans row4
  replace row5 := (k7.block _ (by omega)).trans row5
  have g7 := g6.trans (k7.mono g6.size)
  generalize hA8 : W6.heap.size = A8 at *
  clear hW7 k7 hA8 v0 v1 v2 v3 v4 v5
  have v0 : W7.cell? ⟨A2, 0, none⟩ = some (.int .i64 y) := by simp [World.cell?, row2]
  have v1 : W7.cell? ⟨A2, 1, none⟩ = some (.int .i64 m) := by simp [World.cell?, row2]
  have v2 : W7.cell? ⟨A8, 2, none⟩ = some (.int .i64 (d + 1)) := by simp [World.cell?, row8]
  have u0 := fun d os => cell_regrown v0 d os
  have u1 := fun d os => cell_regrown v1 d os
  have u2 := fun d os => cell_regrown v2 d os
  clear v0 v1 v2
  refine wp_region_quiet_below (by kernel_rfl) (by kernel_rfl) ?_
  repeat (go_big_quiet_step ((go_at_call 31; with_reducible exact Calls.regrown_of (DB.out _))))
  refine wpQuiet_nil ?_
  intro _ hw'
  obtain ⟨⟨dq', osq'⟩, hw''⟩ := hw'
  subst hw''
  generalize hW8 : Sort.grow (redrawn W7 dq') osq' = W8
  have k8 : Below W7.heap.size W7 W8 := hW8 ▸ below_regrown W7 dq' osq'
  replace row2 := (k8.block _ (by omega)).trans row2
  replace row3 := (k8.block _ (by omega)).trans row3
  replace row4 := (k8.block _ (by omega)).trans row4
  replace row5 := (k8.block _ (by omega)).trans row5
  replace row8 := (k8.block _ (by omega)).trans row8
  have g8 := g7.trans (k8.mono g7.size)
  have s8 := k8.size
  clear u0 u1 u2 hW8 k8 f1 f2 f3 f4 f5 f6 f7 f8 f9 f10
  have v0 : W8.cell? ⟨A2, 0, none⟩ = some (.int .i64 y) := by simp [World.cell?, row2]
  have v1 : W8.cell? ⟨A2, 1, none⟩ = some (.int .i64 m) := by simp [World.cell?, row2]
  have v2 : W8.cell? ⟨A2, 2, none⟩ = some (.int .i64 d) := by simp [World.cell?, row2]
  have v3 : W8.cell? ⟨A2, 3, none⟩ = some (.int .i64 h) := by simp [World.cell?, row2]
  have v4 : W8.cell? ⟨A2, 4, none⟩ = some (.int .i64 i) := by simp [World.cell?, row2]
  have v5 : W8.cell? ⟨A2, 5, none⟩ = some (.int .i64 s) := by simp [World.cell?, row2]
  have x0 : W8.cell? ⟨A8, 0, none⟩ = some (.int .i64 y) := by simp [World.cell?, row8]
  have x1 : W8.cell? ⟨A8, 1, none⟩ = some (.int .i64 m) := by simp [World.cell?, row8]
  have x2 : W8.cell? ⟨A8, 2, none⟩ = some (.int .i64 (d + 1)) := by simp [World.cell?, row8]
  have x3 : W8.cell? ⟨A8, 3, none⟩ = some (.int .i64 h) := by simp [World.cell?, row8]
  have x4 : W8.cell? ⟨A8, 4, none⟩ = some (.int .i64 i) := by simp [World.cell?, row8]
  have x5 : W8.cell? ⟨A8, 5, none⟩ = some (.int .i64 s) := by simp [World.cell?, row8]
  have fr0 : W8.frozen? ⟨A8, 0, none⟩ = false := by simp [World.frozen?, row8]
  have fr1 : W8.frozen? ⟨A8, 1, none⟩ = false := by simp [World.frozen?, row8]
  have fr2 : W8.frozen? ⟨A8, 2, none⟩ = false := by simp [World.frozen?, row8]
  have HC' := HC.out
  have n1 : A2 ≠ A8 := by omega
  have n2 : A3 ≠ A8 := by omega
  have n3 : A4 ≠ A8 := by omega
  have n4 : A5 ≠ A8 := by omega
  have l8 : A8 < W8.heap.size := by omega
  have l8' : w.heap.size ≤ A8 := by have := g1.size; have := e5.size; omega
  have G8 := Lib.hid g8
  have l2 : w.heap.size ≤ A2 := by have := g1.size; omega
  have g1' := Lib.hid l2
  clear l2
  have E5 := Lib.hid e5
  clear g1 g2 g3 g4 g5 g6 g7 g8 e2 e3 e4 e5
  rcases HC' with ⟨hd, e1, e2, e3⟩ | ⟨rfl, hm, e1, e2, e3⟩ | ⟨rfl, rfl, e1, e2, e3⟩
  · have f4 : decide (L < d + 1) = false := by simp; omega
    have f5 : decide (12 < m) = false := by simp; omega
    have E1 := Lib.hid e1
    have E2 := Lib.hid e2
    have E3 := Lib.hid e3
    clear e1 e2 e3
    go_upto_region 20 with fail
    generalize hW9 : World.alloc _ _ = W9
    have g9 : Below w.heap.size w W9 := by
      rw [← hW9]
      exact Below.alloc G8.out G8.out.size _
    have y0 : W9.cell? ⟨A8, 0, none⟩ = some (.int .i64 y1) := by rw [← hW9, E1.out]; simp [go_sem, x0, l8]
    have y1' : W9.cell? ⟨A8, 1, none⟩ = some (.int .i64 m1) := by rw [← hW9, E2.out]; simp [go_sem, x1, l8]
    have y2 : W9.cell? ⟨A8, 2, none⟩ = some (.int .i64 d1) := by rw [← hW9, E3.out]; simp [go_sem, x2, l8]
    have y3 : W9.cell? ⟨A8, 3, none⟩ = some (.int .i64 h) := by rw [← hW9]; simp [go_sem, x3, l8]
    have y4 : W9.cell? ⟨A8, 4, none⟩ = some (.int .i64 i) := by rw [← hW9]; simp [go_sem, x4, l8]
    have y5 : W9.cell? ⟨A8, 5, none⟩ = some (.int .i64 s) := by rw [← hW9]; simp [go_sem, x5, l8]
    have b0 : W9.heap[W8.heap.size]? = some (.cells #[.int .i64 (y + 400), .int .i64 m, .int .i64 d, .int .i64 h, .int .i64 i, .int .i64 s] 34 (0, 0)) := by
      rw [← hW9]
      refine Eq.trans (congrArg _ ?_) Array.getElem?_push_size
      simp
    have keep : ∀ b, b ≠ A8 → b < W8.heap.size → W9.heap[b]? = W8.heap[b]? := by
      intro b h1 h2
      rw [← hW9, Below.heap_alloc _ _ _ (by simpa using h2)]
      repeat rw [Below.heap_setCell _ _ _ _ (by simpa using h1)]
    have s9 : W9.heap.size = W8.heap.size + 1 := by rw [← hW9]; simp
    have l9 : A8 < W9.heap.size := by omega
    generalize hA9 : W8.heap.size = A9 at *
    have r2 := (keep A2 n1 (by omega)).trans row2
    have r3 := (keep A3 n2 (by omega)).trans row3
    have r4 := (keep A4 n3 (by omega)).trans row4
    have r5 := (keep A5 n4 (by omega)).trans row5
    clear hW9 keep fr0 fr1 fr2 row2 row3 row4 row5 row8 x0 x1 x2 x3 x4 x5 v0 v1 v2 v3 v4 v5 l8 E1 E2 E3 G8
    have v0 : W9.cell? ⟨A2, 0, none⟩ = some (.int .i64 y) := by simp [World.cell?, r2]
    have v1 : W9.cell? ⟨A2, 1, none⟩ = some (.int .i64 m) := by simp [World.cell?, r2]
    have v2 : W9.cell? ⟨A2, 2, none⟩ = some (.int .i64 d) := by simp [World.cell?, r2]
    have v3 : W9.cell? ⟨A2, 3, none⟩ = some (.int .i64 h) := by simp [World.cell?, r2]
    have v4 : W9.cell? ⟨A2, 4, none⟩ = some (.int .i64 i) := by simp [World.cell?, r2]
    have v5 : W9.cell? ⟨A2, 5, none⟩ = some (.int .i64 s) := by simp [World.cell?, r2]
    have c0 : W9.cell? ⟨A3, 0, none⟩ = some (.int .i64 y1) := by simp [World.cell?, r3]
    have c1 : W9.cell? ⟨A3, 1, none⟩ = some (.int .i64 m1) := by simp [World.cell?, r3]
    have c2 : W9.cell? ⟨A3, 2, none⟩ = some (.int .i64 d1) := by simp [World.cell?, r3]
    have c3 : W9.cell? ⟨A3, 3, none⟩ = some (.int .i64 h) := by simp [World.cell?, r3]
    have c4 : W9.cell? ⟨A3, 4, none⟩ = some (.int .i64 i) := by simp [World.cell?, r3]
    have c5 : W9.cell? ⟨A3, 5, none⟩ = some (.int .i64 s) := by simp [World.cell?, r3]
    have k0 : W9.cell? ⟨A4, 0, none⟩ = some (.int .i64 (y + 400)) := by simp [World.cell?, r4]
    have k1 : W9.cell? ⟨A4, 1, none⟩ = some (.int .i64 m) := by simp [World.cell?, r4]
    have k2 : W9.cell? ⟨A4, 2, none⟩ = some (.int .i64 d) := by simp [World.cell?, r4]
    have k3 : W9.cell? ⟨A4, 3, none⟩ = some (.int .i64 h) := by simp [World.cell?, r4]
    have k4 : W9.cell? ⟨A4, 4, none⟩ = some (.int .i64 i) := by simp [World.cell?, r4]
    have k5 : W9.cell? ⟨A4, 5, none⟩ = some (.int .i64 s) := by simp [World.cell?, r4]
    have p0 : W9.cell? ⟨A5, 0, none⟩ = some (.int .i64 z1) := by simp [World.cell?, r5]
    have p1 : W9.cell? ⟨A5, 1, none⟩ = some (.int .i64 z2) := by simp [World.cell?, r5]
    have p2 : W9.cell? ⟨A5, 2, none⟩ = some (.int .i64 z3) := by simp [World.cell?, r5]
    have p3 : W9.cell? ⟨A5, 3, none⟩ = some (.int .i64 z4) := by simp [World.cell?, r5]
    have p4 : W9.cell? ⟨A5, 4, none⟩ = some (.int .i64 z5) := by simp [World.cell?, r5]
    have p5 : W9.cell? ⟨A5, 5, none⟩ = some (.int .i64 z6) := by simp [World.cell?, r5]
    have j0 : W9.cell? ⟨A9, 0, none⟩ = some (.int .i64 (y + 400)) := by simp [World.cell?, b0]
    have j1 : W9.cell? ⟨A9, 1, none⟩ = some (.int .i64 m) := by simp [World.cell?, b0]
    have j2 : W9.cell? ⟨A9, 2, none⟩ = some (.int .i64 d) := by simp [World.cell?, b0]
    have j3 : W9.cell? ⟨A9, 3, none⟩ = some (.int .i64 h) := by simp [World.cell?, b0]
    have j4 : W9.cell? ⟨A9, 4, none⟩ = some (.int .i64 i) := by simp [World.cell?, b0]
    have j5 : W9.cell? ⟨A9, 5, none⟩ = some (.int .i64 s) := by simp [World.cell?, b0]
    have fr : W9.frozen? ⟨A2, 5, none⟩ = false := by simp [World.frozen?, r2]
    have hE := fun w => eq_date_same y1 m1 d1 h i s w
    have hE' := fun w => eq_date_same (y + 400) m d h i s w
    clear r2 r3 r4 r5 b0
    rcases HE.out with ⟨hs, rfl, rfl, rfl, rfl, rfl, rfl⟩ | ⟨rfl, rfl⟩
    · have f6 : decide (s < 59) = true := by simpa using hs
      have hE'' := fun w => eq_date_same y m d h i (s + 1) w
      go_wp2
      go_ret
      exact ⟨rfl, g9.setCell (by have := g1'.out; omega) _⟩
    · go_wp2
      go_ret
      exact ⟨rfl, g9⟩
  · have f4 : decide (d < d + 1) = true := by simp; omega
    have f5 : decide (12 < m + 1) = false := by simp; omega
    have E1 := Lib.hid e1
    have E2 := Lib.hid e2
    have E3 := Lib.hid e3
    clear e1 e2 e3
    go_upto_region 20 with fail
    generalize hW9 : World.alloc _ _ = W9
    have g9 : Below w.heap.size w W9 := by
      rw [← hW9]
      refine Below.alloc (Below.setCell (Below.setCell G8.out ?_ _) ?_ _) ?_ _
      all_goals first | exact l8' | (have := G8.out.size; simpa using this)
    have y0 : W9.cell? ⟨A8, 0, none⟩ = some (.int .i64 y1) := by rw [← hW9, E1.out]; simp [go_sem, x0, l8]
    have y1' : W9.cell? ⟨A8, 1, none⟩ = some (.int .i64 m1) := by rw [← hW9, E2.out]; simp [go_sem, x1, l8]
    have y2 : W9.cell? ⟨A8, 2, none⟩ = some (.int .i64 d1) := by rw [← hW9, E3.out]; simp [go_sem, x2, l8]
    have y3 : W9.cell? ⟨A8, 3, none⟩ = some (.int .i64 h) := by rw [← hW9]; simp [go_sem, x3, l8]
    have y4 : W9.cell? ⟨A8, 4, none⟩ = some (.int .i64 i) := by rw [← hW9]; simp [go_sem, x4, l8]
    have y5 : W9.cell? ⟨A8, 5, none⟩ = some (.int .i64 s) := by rw [← hW9]; simp [go_sem, x5, l8]
    have b0 : W9.heap[W8.heap.size]? = some (.cells #[.int .i64 (y + 400), .int .i64 m, .int .i64 d, .int .i64 h, .int .i64 i, .int .i64 s] 34 (0, 0)) := by
      rw [← hW9]
      refine Eq.trans (congrArg _ ?_) Array.getElem?_push_size
      simp
    have keep : ∀ b, b ≠ A8 → b < W8.heap.size → W9.heap[b]? = W8.heap[b]? := by
      intro b h1 h2
      rw [← hW9, Below.heap_alloc _ _ _ (by simpa using h2)]
      repeat rw [Below.heap_setCell _ _ _ _ (by simpa using h1)]
    have s9 : W9.heap.size = W8.heap.size + 1 := by rw [← hW9]; simp
    have l9 : A8 < W9.heap.size := by omega
    generalize hA9 : W8.heap.size = A9 at *
    have r2 := (keep A2 n1 (by omega)).trans row2
    have r3 := (keep A3 n2 (by omega)).trans row3
    have r4 := (keep A4 n3 (by omega)).trans row4
    have r5 := (keep A5 n4 (by omega)).trans row5
    clear hW9 keep fr0 fr1 fr2 row2 row3 row4 row5 row8 x0 x1 x2 x3 x4 x5 v0 v1 v2 v3 v4 v5 l8 E1 E2 E3 G8
    have v0 : W9.cell? ⟨A2, 0, none⟩ = some (.int .i64 y) := by simp [World.cell?, r2]
    have v1 : W9.cell? ⟨A2, 1, none⟩ = some (.int .i64 m) := by simp [World.cell?, r2]
    have v2 : W9.cell? ⟨A2, 2, none⟩ = some (.int .i64 d) := by simp [World.cell?, r2]
    have v3 : W9.cell? ⟨A2, 3, none⟩ = some (.int .i64 h) := by simp [World.cell?, r2]
    have v4 : W9.cell? ⟨A2, 4, none⟩ = some (.int .i64 i) := by simp [World.cell?, r2]
    have v5 : W9.cell? ⟨A2, 5, none⟩ = some (.int .i64 s) := by simp [World.cell?, r2]
    have c0 : W9.cell? ⟨A3, 0, none⟩ = some (.int .i64 y1) := by simp [World.cell?, r3]
    have c1 : W9.cell? ⟨A3, 1, none⟩ = some (.int .i64 m1) := by simp [World.cell?, r3]
    have c2 : W9.cell? ⟨A3, 2, none⟩ = some (.int .i64 d1) := by simp [World.cell?, r3]
    have c3 : W9.cell? ⟨A3, 3, none⟩ = some (.int .i64 h) := by simp [World.cell?, r3]
    have c4 : W9.cell? ⟨A3, 4, none⟩ = some (.int .i64 i) := by simp [World.cell?, r3]
    have c5 : W9.cell? ⟨A3, 5, none⟩ = some (.int .i64 s) := by simp [World.cell?, r3]
    have k0 : W9.cell? ⟨A4, 0, none⟩ = some (.int .i64 (y + 400)) := by simp [World.cell?, r4]
    have k1 : W9.cell? ⟨A4, 1, none⟩ = some (.int .i64 m) := by simp [World.cell?, r4]
    have k2 : W9.cell? ⟨A4, 2, none⟩ = some (.int .i64 d) := by simp [World.cell?, r4]
    have k3 : W9.cell? ⟨A4, 3, none⟩ = some (.int .i64 h) := by simp [World.cell?, r4]
    have k4 : W9.cell? ⟨A4, 4, none⟩ = some (.int .i64 i) := by simp [World.cell?, r4]
    have k5 : W9.cell? ⟨A4, 5, none⟩ = some (.int .i64 s) := by simp [World.cell?, r4]
    have p0 : W9.cell? ⟨A5, 0, none⟩ = some (.int .i64 z1) := by simp [World.cell?, r5]
    have p1 : W9.cell? ⟨A5, 1, none⟩ = some (.int .i64 z2) := by simp [World.cell?, r5]
    have p2 : W9.cell? ⟨A5, 2, none⟩ = some (.int .i64 z3) := by simp [World.cell?, r5]
    have p3 : W9.cell? ⟨A5, 3, none⟩ = some (.int .i64 z4) := by simp [World.cell?, r5]
    have p4 : W9.cell? ⟨A5, 4, none⟩ = some (.int .i64 z5) := by simp [World.cell?, r5]
    have p5 : W9.cell? ⟨A5, 5, none⟩ = some (.int .i64 z6) := by simp [World.cell?, r5]
    have j0 : W9.cell? ⟨A9, 0, none⟩ = some (.int .i64 (y + 400)) := by simp [World.cell?, b0]
    have j1 : W9.cell? ⟨A9, 1, none⟩ = some (.int .i64 m) := by simp [World.cell?, b0]
    have j2 : W9.cell? ⟨A9, 2, none⟩ = some (.int .i64 d) := by simp [World.cell?, b0]
    have j3 : W9.cell? ⟨A9, 3, none⟩ = some (.int .i64 h) := by simp [World.cell?, b0]
    have j4 : W9.cell? ⟨A9, 4, none⟩ = some (.int .i64 i) := by simp [World.cell?, b0]
    have j5 : W9.cell? ⟨A9, 5, none⟩ = some (.int .i64 s) := by simp [World.cell?, b0]
    have fr : W9.frozen? ⟨A2, 5, none⟩ = false := by simp [World.frozen?, r2]
    have hE := fun w => eq_date_same y1 m1 d1 h i s w
    have hE' := fun w => eq_date_same (y + 400) m d h i s w
    clear r2 r3 r4 r5 b0
    rcases HE.out with ⟨hs, rfl, rfl, rfl, rfl, rfl, rfl⟩ | ⟨rfl, rfl⟩
    · have f6 : decide (s < 59) = true := by simpa using hs
      have hE'' := fun w => eq_date_same y m d h i (s + 1) w
      go_wp2
      go_ret
      exact ⟨rfl, g9.setCell (by have := g1'.out; omega) _⟩
    · go_wp2
      go_ret
      exact ⟨rfl, g9⟩
  · have f4 : decide (d < d + 1) = true := by simp; omega
    have E1 := Lib.hid e1
    have E2 := Lib.hid e2
    have E3 := Lib.hid e3
    clear e1 e2 e3
    go_upto_region 20 with fail
    generalize hW9 : World.alloc _ _ = W9
    have g9 : Below w.heap.size w W9 := by
      rw [← hW9]
      refine Below.alloc (Below.setCell (Below.setCell (Below.setCell (Below.setCell G8.out ?_ _) ?_ _) ?_ _) ?_ _) ?_ _
      all_goals first | exact l8' | (have := G8.out.size; simpa using this)
    have y0 : W9.cell? ⟨A8, 0, none⟩ = some (.int .i64 y1) := by rw [← hW9, E1.out]; simp [go_sem, x0, l8]
    have y1' : W9.cell? ⟨A8, 1, none⟩ = some (.int .i64 m1) := by rw [← hW9, E2.out]; simp [go_sem, x1, l8]
    have y2 : W9.cell? ⟨A8, 2, none⟩ = some (.int .i64 d1) := by rw [← hW9, E3.out]; simp [go_sem, x2, l8]
    have y3 : W9.cell? ⟨A8, 3, none⟩ = some (.int .i64 h) := by rw [← hW9]; simp [go_sem, x3, l8]
    have y4 : W9.cell? ⟨A8, 4, none⟩ = some (.int .i64 i) := by rw [← hW9]; simp [go_sem, x4, l8]
    have y5 : W9.cell? ⟨A8, 5, none⟩ = some (.int .i64 s) := by rw [← hW9]; simp [go_sem, x5, l8]
    have b0 : W9.heap[W8.heap.size]? = some (.cells #[.int .i64 (y + 400), .int .i64 12, .int .i64 d, .int .i64 h, .int .i64 i, .int .i64 s] 34 (0, 0)) := by
      rw [← hW9]
      refine Eq.trans (congrArg _ ?_) Array.getElem?_push_size
      simp
    have keep : ∀ b, b ≠ A8 → b < W8.heap.size → W9.heap[b]? = W8.heap[b]? := by
      intro b h1 h2
      rw [← hW9, Below.heap_alloc _ _ _ (by simpa using h2)]
      repeat rw [Below.heap_setCell _ _ _ _ (by simpa using h1)]
    have s9 : W9.heap.size = W8.heap.size + 1 := by rw [← hW9]; simp
    have l9 : A8 < W9.heap.size := by omega
    generalize hA9 : W8.heap.size = A9 at *
    have r2 := (keep A2 n1 (by omega)).trans row2
    have r3 := (keep A3 n2 (by omega)).trans row3
    have r4 := (keep A4 n3 (by omega)).trans row4
    have r5 := (keep A5 n4 (by omega)).trans row5
    clear hW9 keep fr0 fr1 fr2 row2 row3 row4 row5 row8 x0 x1 x2 x3 x4 x5 v0 v1 v2 v3 v4 v5 l8 E1 E2 E3 G8
    have v0 : W9.cell? ⟨A2, 0, none⟩ = some (.int .i64 y) := by simp [World.cell?, r2]
    have v1 : W9.cell? ⟨A2, 1, none⟩ = some (.int .i64 12) := by simp [World.cell?, r2]
    have v2 : W9.cell? ⟨A2, 2, none⟩ = some (.int .i64 d) := by simp [World.cell?, r2]
    have v3 : W9.cell? ⟨A2, 3, none⟩ = some (.int .i64 h) := by simp [World.cell?, r2]
    have v4 : W9.cell? ⟨A2, 4, none⟩ = some (.int .i64 i) := by simp [World.cell?, r2]
    have v5 : W9.cell? ⟨A2, 5, none⟩ = some (.int .i64 s) := by simp [World.cell?, r2]
    have c0 : W9.cell? ⟨A3, 0, none⟩ = some (.int .i64 y1) := by simp [World.cell?, r3]
    have c1 : W9.cell? ⟨A3, 1, none⟩ = some (.int .i64 m1) := by simp [World.cell?, r3]
    have c2 : W9.cell? ⟨A3, 2, none⟩ = some (.int .i64 d1) := by simp [World.cell?, r3]
    have c3 : W9.cell? ⟨A3, 3, none⟩ = some (.int .i64 h) := by simp [World.cell?, r3]
    have c4 : W9.cell? ⟨A3, 4, none⟩ = some (.int .i64 i) := by simp [World.cell?, r3]
    have c5 : W9.cell? ⟨A3, 5, none⟩ = some (.int .i64 s) := by simp [World.cell?, r3]
    have k0 : W9.cell? ⟨A4, 0, none⟩ = some (.int .i64 (y + 400)) := by simp [World.cell?, r4]
    have k1 : W9.cell? ⟨A4, 1, none⟩ = some (.int .i64 12) := by simp [World.cell?, r4]
    have k2 : W9.cell? ⟨A4, 2, none⟩ = some (.int .i64 d) := by simp [World.cell?, r4]
    have k3 : W9.cell? ⟨A4, 3, none⟩ = some (.int .i64 h) := by simp [World.cell?, r4]
    have k4 : W9.cell? ⟨A4, 4, none⟩ = some (.int .i64 i) := by simp [World.cell?, r4]
    have k5 : W9.cell? ⟨A4, 5, none⟩ = some (.int .i64 s) := by simp [World.cell?, r4]
    have p0 : W9.cell? ⟨A5, 0, none⟩ = some (.int .i64 z1) := by simp [World.cell?, r5]
    have p1 : W9.cell? ⟨A5, 1, none⟩ = some (.int .i64 z2) := by simp [World.cell?, r5]
    have p2 : W9.cell? ⟨A5, 2, none⟩ = some (.int .i64 z3) := by simp [World.cell?, r5]
    have p3 : W9.cell? ⟨A5, 3, none⟩ = some (.int .i64 z4) := by simp [World.cell?, r5]
    have p4 : W9.cell? ⟨A5, 4, none⟩ = some (.int .i64 z5) := by simp [World.cell?, r5]
    have p5 : W9.cell? ⟨A5, 5, none⟩ = some (.int .i64 z6) := by simp [World.cell?, r5]
    have j0 : W9.cell? ⟨A9, 0, none⟩ = some (.int .i64 (y + 400)) := by simp [World.cell?, b0]
    have j1 : W9.cell? ⟨A9, 1, none⟩ = some (.int .i64 12) := by simp [World.cell?, b0]
    have j2 : W9.cell? ⟨A9, 2, none⟩ = some (.int .i64 d) := by simp [World.cell?, b0]
    have j3 : W9.cell? ⟨A9, 3, none⟩ = some (.int .i64 h) := by simp [World.cell?, b0]
    have j4 : W9.cell? ⟨A9, 4, none⟩ = some (.int .i64 i) := by simp [World.cell?, b0]
    have j5 : W9.cell? ⟨A9, 5, none⟩ = some (.int .i64 s) := by simp [World.cell?, b0]
    have fr : W9.frozen? ⟨A2, 5, none⟩ = false := by simp [World.frozen?, r2]
    have hE := fun w => eq_date_same y1 m1 d1 h i s w
    have hE' := fun w => eq_date_same (y + 400) 12 d h i s w
    clear r2 r3 r4 r5 b0
    rcases HE.out with ⟨hs, rfl, rfl, rfl, rfl, rfl, rfl⟩ | ⟨rfl, rfl⟩
    · have f6 : decide (s < 59) = true := by simpa using hs
      have hE'' := fun w => eq_date_same y 12 d h i (s + 1) w
      go_wp2
      go_ret
      exact ⟨rfl, g9.setCell (by have := g1'.out; omega) _⟩
    · go_wp2
      go_ret
      exact ⟨rfl, g9⟩
end Go.Proofs.YtncdmineepagpaaDoor
