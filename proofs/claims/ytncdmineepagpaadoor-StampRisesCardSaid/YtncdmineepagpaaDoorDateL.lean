/- StampDates: true, at every time. -/
import Derived.Test.YtncdmineepagpaaDoorDate
namespace Go.Proofs.YtncdmineepagpaaDoor
open Go.RowKit Go.Joins

theorem date_exists (D : Int) : ∃ y m d, IsDate D y m d := by
  have hp := parts_of D
  simp only at hp
  have he0 := hp.e0
  have he1 := hp.e1
  have heq := hp.eq
  generalize (D + 719468) / 146097 = c at he0 he1 heq
  generalize min ((D + 719468) % 146097 / 36524) 3 = n at he0 he1 heq
  generalize ((D + 719468) % 146097 - n * 36524) / 1461 = a at he0 he1 heq
  generalize min (((D + 719468) % 146097 - n * 36524 - a * 1461) / 365) 3 = q at he0 he1 heq
  generalize (D + 719468) % 146097 - n * 36524 - a * 1461 - q * 365 = E at he0 he1 heq
  generalize 400 * c + 100 * n + 4 * a + q = Y at he1 heq
  have hl := lp_01 (Y + 1)
  by_cases h10 : E < 306
  · obtain ⟨k, hk0, hk9, hk1, hk2⟩ : ∃ k : Int, 0 ≤ k ∧ k ≤ 9 ∧ mar k ≤ E ∧ E < mar (k + 1) := by
      refine ⟨(5 * E + 2) / 153, by omega, by omega, ?_, ?_⟩ <;> unfold mar <;> omega
    exact ⟨Y, k + 3, E - mar k + 1, march D Y k (E - mar k) hk0 hk9 (by omega) (by omega) (by omega)⟩
  · by_cases h11 : E < 337
    · exact ⟨Y + 1, 1, E - 306 + 1, march10 D Y (E - 306) (by omega) (by omega) (by omega)⟩
    · exact ⟨Y + 1, 2, E - 337 + 1, march11 D Y (E - 337) (by omega) (by omega) (by omega)⟩

/-- Date's answer, the date given. -/
theorem date_at (s n : Int) {y m d : Int} (hd : IsDate (s / 86400) y m d) (w : World) (hT : TabLaid w) (hr : rightB s n = true) :
    Calls Tryd.prog 15 #[tmV s n] w fun e w' => e = .returned (dateV y m d (s % 86400 / 3600) (s % 86400 / 60 % 60) (s % 60)) ∧ Below w.heap.size w w' :=
  (date_ok s n w hT hr).mono fun e w' ⟨y', m', d', h', he, hb⟩ => by
    obtain ⟨rfl, rfl, rfl⟩ := h'.uniq hd
    exact ⟨he, hb⟩
theorem refDate_at (s n : Int) {y m d : Int} (hd : IsDate (s / 86400) y m d) (w : World) (hr : rightB s n = true) :
    Calls Tryd.prog 16 #[tmV s n] w fun e w' => e = .returned (dateV y m d (s % 86400 / 3600) (s % 86400 / 60 % 60) (s % 60)) ∧ Below w.heap.size w w' :=
  have h := rightB_true s n hr
  (refDate_ok s n w h.1 h.2.1).mono fun e w' ⟨y', m', d', h', he, hb⟩ => by
    obtain ⟨rfl, rfl, rfl⟩ := h'.uniq hd
    exact ⟨he, hb⟩

theorem eq_date (a b c d e f a' b' c' d' e' f' : Int) (w : World) : (Op.equalIn 10000 34 (dateV a b c d e f) (dateV a' b' c' d' e' f')).run Tryd.prog w = .ok (decide (a = a' ∧ b = b' ∧ c = c' ∧ d = d' ∧ e = e' ∧ f = f')) w := by
  have u3 := Tryd.underlying3
  have z3 : ∀ w, (sizeOf 3).run Tryd.prog w = .ok 1 w := fun w => by kernel_rfl
  rw [show (10000 : Nat) = 9999 + 1 from rfl, Op.equalIn]
  simp only [Sem.run_bind, run_underlying Tryd.underlying34, Result.andThen_ok]
  simp only [Std.Legacy.Range.forIn_eq_forIn_range', Std.Legacy.Range.size, Nat.sub_zero, Nat.add_sub_cancel, Nat.div_one, List.range'_succ, List.range'_zero, List.forIn_cons, List.forIn_nil]
  go_simp
  by_cases h1 : a = a'
  · by_cases h2 : b = b'
    · by_cases h3 : c = c'
      · by_cases h4 : d = d'
        · by_cases h5 : e = e'
          · by_cases h6 : f = f' <;> simp [h1, h2, h3, h4, h5, h6]
          · simp [h5, h4, h3, h2, h1]
        · simp [h4, h3, h2, h1]
      · simp [h3, h2, h1]
    · simp [h2, h1]
  · simp [h1]
theorem eq_date_same (a b c d e f : Int) (w : World) : (Op.equalIn 10000 34 (dateV a b c d e f) (dateV a b c d e f)).run Tryd.prog w = .ok true w := by
  rw [eq_date]; simp

theorem stampDates_walk (s : Int) (_ : (Lit.int .i64 s).wf = true) (n : Int) (_ : (Lit.int .i64 n).wf = true) (w : World) (hT : TabLaid w) :
    Calls Tryd.prog 4 #[tmV s n] w fun e w' => e = .returned (.bool true) ∧ Below w.heap.size w w' := by
  have F := Lib.hid (fun w => refRight_any s n w)
  generalize hW : w.alloc (.cells #[.int .i64 s, .int .i64 n] 23) = W
  have hbel : Below w.heap.size w W := hW ▸ below_alloc1 _ _
  have c0 : ∀ d os, (Sort.grow (redrawn W d) os).cell? ⟨w.heap.size, 0, none⟩ = some (.int .i64 s) := fun d os => cell_regrown (by subst hW; simp [go_sem]) d os
  have c1 : ∀ d os, (Sort.grow (redrawn W d) os).cell? ⟨w.heap.size, 1, none⟩ = some (.int .i64 n) := fun d os => cell_regrown (by subst hW; simp [go_sem]) d os
  have hTW : ∀ d os, TabLaid (Sort.grow (redrawn W d) os) := fun d os => (hT.below hbel).below (below_regrown W d os)
  have HT := Lib.hid hTW
  have HW := Lib.hid hW
  clear hTW hT hW
  by_cases hr : rightB s n = true
  · obtain ⟨y, m, d, hd⟩ := date_exists (s / 86400)
    have D1 := Lib.hid (fun w hT => date_at s n hd w hT hr)
    have D2 := Lib.hid (fun w => refDate_at s n hd w hr)
    clear hd
    generalize s % 86400 / 3600 = hh at D1 D2
    generalize s % 86400 / 60 % 60 = mi at D1 D2
    generalize s % 60 = se at D1 D2
    rw [hr] at F
    clear hr
    have hE := fun w => eq_date_same y m d hh mi se w
    go_enter Tryd.func4, Tryd.ntmps4
    go_wp2
    rw [HW.out]
    refine wp_region_quiet_below (by kernel_rfl) (by kernel_rfl) ?_
    repeat (go_big_quiet_step ((first
      | (go_at_call 14; with_reducible exact Calls.regrown_of (F.out _))
      | (go_at_call 15; with_reducible exact Calls.regrown_of (D1.out _ (HT.out _ _)))
      | (go_at_call 16; with_reducible exact Calls.regrown_of (D2.out _)))))
    refine wpQuiet_nil ?_
    intro _ hw'
    obtain ⟨⟨dq, osq⟩, hw''⟩ := hw'
    subst hw''
    go_wp2
    go_ret
    exact ⟨by simp, hbel.trans ((below_regrown _ dq osq).mono hbel.size)⟩
  · rw [Bool.not_eq_true] at hr
    rw [hr] at F
    clear hr
    go_enter Tryd.func4, Tryd.ntmps4
    go_wp2
    rw [HW.out]
    refine wp_region_quiet_below (by kernel_rfl) (by kernel_rfl) ?_
    repeat (go_big_quiet_step ((go_at_call 14; with_reducible exact Calls.regrown_of (F.out _))))
    refine wpQuiet_nil ?_
    intro _ hw'
    obtain ⟨⟨dq, osq⟩, hw''⟩ := hw'
    subst hw''
    go_wp2
    go_ret
    exact ⟨rfl, hbel.trans ((below_regrown _ dq osq).mono hbel.size)⟩
end Go.Proofs.YtncdmineepagpaaDoor
