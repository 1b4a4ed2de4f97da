/- StampOrder: true, at every argument. -/
import Derived.Test.YtncdmineepagpaaDoorStm
import Derived.Lib.QuietBelow
import Derived.Deep.RegionHeld3
import Derived.Deep.Cut
namespace Go.Proofs.YtncdmineepagpaaDoor
open Go.RowKit Go.Joins

theorem ahead_self (s n : Int) : ahead s n s n = false := by simp [ahead]
theorem ahead_zero (s n : Int) (h : 0 ≤ n) : ahead s n s 0 = false := by simp [ahead]; omega
theorem ahead_lt (s n s' n' : Int) (h : s < s') : ahead s n s' n' = true := by simp [ahead, h]
theorem ahead_gt (s n s' n' : Int) (h : s' < s) : ahead s n s' n' = false := by simp [ahead]; omega
theorem ahead_eq (s n n' : Int) : ahead s n s n' = decide (n < n') := by simp [ahead]

set_option maxHeartbeats 4000000 in
theorem order_core (s n s' n' : Int) (a0 a1 a2 a3 : Int) (B1 B2 : Bool) (w : World) (hb : (B1 = true ∧ B2 = false ∧ (s ≠ s' ∨ s = s' ∧ n ≠ n')) ∨ (B1 = false ∧ B2 = true ∧ (s ≠ s' ∨ s = s' ∧ n ≠ n')) ∨ (B1 = false ∧ B2 = false ∧ s = s' ∧ n = n'))
    (hS : Calls Tryd.prog 19 #[] w fun e w' => e = .returned (.bool true) ∧ Below w.heap.size w w')
    (t1 : ∀ w, Calls Tryd.prog 20 #[.int .i64 a0, .int .i64 a1] w fun e w' => e = .returned (tmV s n) ∧ w' = w.alloc (.cells #[.int .i64 s, .int .i64 n] 23))
    (t2 : ∀ w, Calls Tryd.prog 20 #[.int .i64 a2, .int .i64 a3] w fun e w' => e = .returned (tmV s' n') ∧ w' = w.alloc (.cells #[.int .i64 s', .int .i64 n'] 23))
    (b1 : ∀ w, Calls Tryd.prog 29 #[tmV s n, tmV s' n'] w fun e w' => e = .returned (.bool B1) ∧ Below w.heap.size w w')
    (b2 : ∀ w, Calls Tryd.prog 29 #[tmV s' n', tmV s n] w fun e w' => e = .returned (.bool B2) ∧ Below w.heap.size w w')
    (b3 : ∀ w, Calls Tryd.prog 29 #[tmV s n, tmV s 0] w fun e w' => e = .returned (.bool false) ∧ Below w.heap.size w w')
    (b4 : B1 = false → ∀ w, Calls Tryd.prog 29 #[tmV s 0, tmV s' 0] w fun e w' => e = .returned (.bool false) ∧ Below w.heap.size w w') :
    Calls Tryd.prog 7 #[.int .i64 a0, .int .i64 a1, .int .i64 a2, .int .i64 a3] w fun e w' => e = .returned (.bool true) ∧ Below w.heap.size w w' := by
  have HS := Lib.hid hS
  have T1 := Lib.hid t1
  have T2 := Lib.hid t2
  have K1 := Lib.hid (fun w => cut_any s n w)
  have K2 := Lib.hid (fun w => cut_any s' n' w)
  have P3 := Lib.hid b3
  clear hS t1 t2 b3
  go_enter Tryd.func7, Tryd.ntmps7
  go_upto_region 5 with (first
    | (go_at_call 19; refine HS.out.mono ?_; rintro e w1 ⟨rfl, h1⟩)
    | (go_at_call 20; with_reducible refine (T1.out _).mono ?_; rintro e w2 ⟨rfl, rfl⟩)
    | (go_at_call 20; with_reducible refine (T2.out _).mono ?_; rintro e w3 ⟨rfl, rfl⟩)
    | fail)
  obtain ⟨W, hW⟩ : ∃ W, W = (((w1.alloc (.cells #[.int .i64 s, .int .i64 n] 23)).alloc (.cells #[.int .i64 s', .int .i64 n'] 23)).alloc (.cells #[.int .i64 s, .int .i64 n] 23)).alloc (.cells #[.int .i64 s', .int .i64 n'] 23) := ⟨_, rfl⟩
  rw [← hW]
  have hsz : W.heap.size = w1.heap.size + 4 := by rw [hW]; simp
  have hbW : Below w.heap.size w W := by
    have := h1.size
    rw [hW]
    exact (((h1.alloc h1.size _).alloc (by simp; omega) _).alloc (by simp; omega) _).alloc (by simp; omega) _
  have c : (∀ w', Below W.heap.size W w' → w'.cell? ⟨w1.heap.size + 1 + 1, 0, none⟩ = some (.int .i64 s) ∧ w'.cell? ⟨w1.heap.size + 1 + 1, 1, none⟩ = some (.int .i64 n) ∧ w'.cell? ⟨w1.heap.size + 1 + 1 + 1, 0, none⟩ = some (.int .i64 s') ∧ w'.cell? ⟨w1.heap.size + 1 + 1 + 1, 1, none⟩ = some (.int .i64 n')) := fun w' hb => by
    refine ⟨?_, ?_, ?_, ?_⟩ <;> rw [hb.cell (by rw [hsz]; simp), hW] <;> simp [go_sem]
  have C := Lib.hid c
  clear hW c
  obtain ⟨c1, c2, hb⟩ : ∃ c1 c2 : Int, (B1 = true ∧ B2 = false ∧ c1 = 1 ∧ c2 = 1 ∧ (s == s') = false) ∨ (B1 = true ∧ B2 = false ∧ c1 = 1 ∧ c2 = 1 ∧ (s == s') = true ∧ (n == n') = false) ∨ (B1 = false ∧ B2 = true ∧ c1 = 0 ∧ c2 = 1 ∧ (s == s') = false) ∨ (B1 = false ∧ B2 = true ∧ c1 = 0 ∧ c2 = 1 ∧ (s == s') = true ∧ (n == n') = false) ∨ (B1 = false ∧ B2 = false ∧ c1 = 0 ∧ c2 = 0 ∧ (s == s') = true ∧ (n == n') = true) := by
    rcases hb with ⟨rfl, rfl, h | ⟨h, h'⟩⟩ | ⟨rfl, rfl, h | ⟨h, h'⟩⟩ | ⟨rfl, rfl, h, h'⟩
    · exact ⟨1, 1, .inl ⟨rfl, rfl, rfl, rfl, by simpa using h⟩⟩
    · exact ⟨1, 1, .inr (.inl ⟨rfl, rfl, rfl, rfl, by simpa using h, by simpa using h'⟩)⟩
    · exact ⟨0, 1, .inr (.inr (.inl ⟨rfl, rfl, rfl, rfl, by simpa using h⟩))⟩
    · exact ⟨0, 1, .inr (.inr (.inr (.inl ⟨rfl, rfl, rfl, rfl, by simpa using h, by simpa using h'⟩)))⟩
    · exact ⟨0, 0, .inr (.inr (.inr (.inr ⟨rfl, rfl, rfl, rfl, by simpa using h, by simpa using h'⟩)))⟩
  rcases hb with ⟨hB1, hB2, hc1, hc2, hne⟩ | ⟨hB1, hB2, hc1, hc2, hne0, hne⟩ | ⟨hB1, hB2, hc1, hc2, hne⟩ | ⟨hB1, hB2, hc1, hc2, hne0, hne⟩ | ⟨hB1, hB2, hc1, hc2, hne0, hne⟩
  all_goals
    have Hc1 := Lib.hid hc1
    have Hc2 := Lib.hid hc2
    clear hc1 hc2
    have HB1 := Lib.hid hB1
    have HB2 := Lib.hid hB2
    clear hB1 hB2
    have P1 := Lib.hid b1
    have P2 := Lib.hid b2
    have P4 := Lib.hid b4
    clear b1 b2 b4
    go_region_held3 (fun w' => Below W.heap.size W w' ∧ (w'.cell? ⟨w1.heap.size + 1 + 1, 0, none⟩ = some (.int .i64 s) ∧ w'.cell? ⟨w1.heap.size + 1 + 1, 1, none⟩ = some (.int .i64 n) ∧ w'.cell? ⟨w1.heap.size + 1 + 1 + 1, 0, none⟩ = some (.int .i64 s') ∧ w'.cell? ⟨w1.heap.size + 1 + 1 + 1, 1, none⟩ = some (.int .i64 n')))
      (first
        | assumption
        | exact ⟨Below.refl _ _, C.out _ (Below.refl _ _)⟩
        | exact ⟨h4, C.out _ h4⟩
        | exact ⟨(Below.refl _ _).drew, C.out _ (Below.refl _ _).drew⟩
        | exact ⟨h4.alloc h4.size _, C.out _ (h4.alloc h4.size _)⟩
        | fail)
      (first
        | (go_at_call 29; with_reducible refine (P1.out _).mono ?_; rintro e w4 ⟨rfl, h4⟩; obtain ⟨hB, _⟩ := ‹Below W.heap.size W _ ∧ _›; replace h4 := hB.trans (h4.mono hB.size))
        | (go_at_call 29; with_reducible refine (P2.out _).mono ?_; rintro e w4 ⟨rfl, h4⟩; obtain ⟨hB, _⟩ := ‹Below W.heap.size W _ ∧ _›; replace h4 := hB.trans (h4.mono hB.size)))
    generalize hW5 : w4.alloc _ = W5
    have hB5 : Below W.heap.size W W5 := hW5 ▸ h4.alloc h4.size _
    have d0 : W5.cell? ⟨w4.heap.size, 0, none⟩ = some (.bool B1) := by rw [← hW5]; simp [go_sem]
    have d1 : W5.cell? ⟨w4.heap.size, 1, none⟩ = some (.bool B2) := by rw [← hW5]; simp [go_sem]
    obtain ⟨B3, d2, hB3⟩ : ∃ B3, W5.cell? ⟨w4.heap.size, 2, none⟩ = some (.bool B3) ∧ B3 = (!B1 && !B2) := by
      refine ⟨_, by rw [← hW5]; simp [go_sem]; rfl, ?_⟩
      rw [HB1.out, HB2.out]; rfl
    clear P2 hW5
    have hB1 := HB1.out
    have hB2 := HB2.out
    subst hB1 hB2 hB3
    simp at d2
    have P4 := fun h => P4.out h
    clear HB1 HB2
    go_wp2
    go_loop [33, 11] (fun i m => (i = .int .i64 0 ∧ m = .int .i64 0) ∨ (i = .int .i64 1 ∧ m = .int .i64 c1) ∨ (i = .int .i64 2 ∧ m = .int .i64 c2) ∨ (i = .int .i64 3 ∧ m = .int .i64 1)) (fun i _ => (3 - intOf i).toNat)
    case atStart => exact .inl ⟨rfl, rfl⟩
    case round =>
      rcases hrel with ⟨rfl, rfl⟩ | ⟨rfl, hm⟩ | ⟨rfl, hm⟩ | ⟨rfl, rfl⟩
      · clear P3 P4 C K1 K2 HS T1 T2 hB5 hbW h1 hsz h4
        go_wp2
        exact ⟨by simp [Hc1.out], by decide⟩
      · clear P3 P4 C K1 K2 HS T1 T2 hB5 hbW h1 hsz h4
        rw [Hc1.out] at hm
        subst hm
        go_wp2
        exact ⟨by simp [Hc2.out], by decide⟩
      · clear P3 P4 C K1 K2 HS T1 T2 hB5 hbW h1 hsz h4
        rw [Hc2.out] at hm
        subst hm
        go_wp2
        exact ⟨by simp, by decide⟩
      · have e0 := fun d os => C.out _ (hB5.trans ((below_regrown W5 d os).mono hB5.size))
        have f0 := fun d os => (e0 d os).1
        have f1 := fun d os => (e0 d os).2.1
        have f2 := fun d os => (e0 d os).2.2.1
        have f3 := fun d os => (e0 d os).2.2.2
        clear e0 C d0 d1 d2
        go_wp2
        refine wp_region_quiet_below (by kernel_rfl) (by kernel_rfl) ?_
        repeat (go_big_quiet_step (first
          | (go_at_call 30; with_reducible exact Calls.regrown_of (K1.out _))
          | (go_at_call 30; with_reducible exact Calls.regrown_of (K2.out _))
          | (go_at_call 29; with_reducible exact Calls.regrown_of (P1.out _))
          | (go_at_call 29; with_reducible exact Calls.regrown_of (P3.out _))
          | (go_at_call 29; with_reducible exact Calls.regrown_of (P4 True.intro _))))
        refine wpQuiet_nil ?_
        intro _ hw'
        obtain ⟨⟨dq, osq⟩, hw''⟩ := hw'
        subst hw''
        go_wp2
        go_ret
        exact ⟨rfl, hbW.trans ((hB5.trans ((below_regrown _ dq osq).mono hB5.size)).mono hbW.size)⟩

theorem stampOrder_walk (a0 : Int) (_ : (Lit.int .i64 a0).wf = true) (a1 : Int) (_ : (Lit.int .i64 a1).wf = true) (a2 : Int) (_ : (Lit.int .i64 a2).wf = true) (a3 : Int) (_ : (Lit.int .i64 a3).wf = true) (w : World) (hp : PowLaid w) (hT : TabLaid w) :
    Calls Tryd.prog 7 #[.int .i64 a0, .int .i64 a1, .int .i64 a2, .int .i64 a3] w fun e w' => e = .returned (.bool true) ∧ Below w.heap.size w w' := by
  have h1 := nanF_range a1
  refine order_core (secF a0) (nanF a1) (secF a2) (nanF a3) a0 a1 a2 a3 _ _ w ?_ (stamped_ok w hp hT) (fun w => timed_ex a0 a1 w) (fun w => timed_ex a2 a3 w) (fun w => before_any _ _ _ _ w) (fun w => before_any _ _ _ _ w) (fun w => ahead_zero (secF a0) (nanF a1) h1.1 ▸ before_any _ _ _ _ w) (fun h w => ?_)
  · generalize secF a0 = s
    generalize secF a2 = s'
    generalize nanF a1 = n
    generalize nanF a3 = n'
    simp only [ahead, Bool.or_eq_true, Bool.or_eq_false_iff, Bool.and_eq_true, Bool.and_eq_false_iff, decide_eq_true_eq, decide_eq_false_iff_not]
    omega
  · have := before_any (secF a0) 0 (secF a2) 0 w
    have e : ahead (secF a0) 0 (secF a2) 0 = false := by
      simp only [ahead, Bool.or_eq_false_iff, Bool.and_eq_false_iff, decide_eq_false_iff_not] at h ⊢
      omega
    rw [e] at this
    exact this
end Go.Proofs.YtncdmineepagpaaDoor
