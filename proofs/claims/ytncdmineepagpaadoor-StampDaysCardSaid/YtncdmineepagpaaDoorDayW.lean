/- StampDays: true, at every argument. -/
import Derived.Test.YtncdmineepagpaaDoorDayL
namespace Go.Proofs.YtncdmineepagpaaDoor
open Go.RowKit Go.Joins

theorem days_late (a0 : Int) (S : Int) (h : 1086888846976 < S) (w : World)
    (hS : Calls Tryd.prog 19 #[] w fun e w' => e = .returned (.bool true) ∧ Below w.heap.size w w')
    (t1 : ∀ w, Calls Tryd.prog 20 #[.int .i64 a0, .int .i64 0] w fun e w' => e = .returned (tmV S 0) ∧ w' = w.alloc (.cells #[.int .i64 S, .int .i64 0] 23)) :
    Calls Tryd.prog 8 #[.int .i64 a0] w fun e w' => e = .returned (.bool true) ∧ Below w.heap.size w w' := by
  have HS := Lib.hid hS
  have T1 := Lib.hid t1
  have f1 : decide (1086888846976 < S) = true := by simpa using h
  clear hS t1 h
  go_enter Tryd.func8, Tryd.ntmps8
  go_wp2_with (first
    | (go_at_call 19; refine HS.out.mono ?_; rintro e w1 ⟨rfl, h1⟩)
    | (go_at_call 20; with_reducible refine (T1.out _).mono ?_; rintro e w2 ⟨rfl, rfl⟩))
  go_ret
  exact ⟨rfl, (h1.alloc h1.size _).alloc (by have := h1.size; simp; omega) _⟩

theorem rightB_of (s n : Int) (h1 : -1099511627776 ≤ s) (h2 : s ≤ 1099511627776) (h3 : 0 ≤ n) (h4 : n < 1000000000) : rightB s n = true := by
  simp [rightB]; omega

theorem stampDays_walk (a0 : Int) (_ : (Lit.int .i64 a0).wf = true) (w : World) (hp : PowLaid w) (hT : TabLaid w) :
    Calls Tryd.prog 8 #[.int .i64 a0] w fun e w' => e = .returned (.bool true) ∧ Below w.heap.size w w' := by
  have hS := stamped_ok w hp hT
  have t1 := fun w => timed_ex a0 0 w
  rw [show nanF 0 = 0 by decide] at t1
  have hr := secF_range a0
  generalize secF a0 = S at t1 hr
  by_cases hl : 1086888846976 < S
  · exact days_late a0 S hl w hS t1
  · obtain ⟨y, m, d, hd⟩ := date_exists (S / 86400)
    have hy := hd.year
    have hlp := lp_01 y
    have hm := mlen_pos y m
    have yr : -100000 ≤ y ∧ y ≤ 100000 := by
      unfold yday at hy
      omega
    have hn := hd.next
    obtain ⟨y1, m1, d1, hd1, hcase⟩ : ∃ y1 m1 d1, IsDate (S / 86400 + 1) y1 m1 d1 ∧ ((d < mlen y m ∧ y1 = y ∧ m1 = m ∧ d1 = d + 1) ∨ (d = mlen y m ∧ m < 12 ∧ y1 = y ∧ m1 = m + 1 ∧ d1 = 1) ∨ (d = mlen y m ∧ m = 12 ∧ y1 = y + 1 ∧ m1 = 1 ∧ d1 = 1)) := by
      rcases hn with ⟨h1, h2⟩ | ⟨h1, h1', h2⟩ | ⟨h1, h1', h2⟩
      · exact ⟨_, _, _, h2, .inl ⟨h1, rfl, rfl, rfl⟩⟩
      · exact ⟨_, _, _, h2, .inr (.inl ⟨h1, h1', rfl, rfl, rfl⟩)⟩
      · exact ⟨_, _, _, h2, .inr (.inr ⟨h1, h1', rfl, rfl, rfl⟩)⟩
    have b1 := fun w hT => date_at S 0 hd w hT (rightB_of S 0 (by omega) (by omega) (by omega) (by omega))
    have b2 := fun w hT => date_at (S + 86400) 0 (by rw [show (S + 86400) / 86400 = S / 86400 + 1 by omega]; exact hd1) w hT (rightB_of _ 0 (by omega) (by omega) (by omega) (by omega))
    have b3 := fun w hT => date_at (S + 12622780800) 0 (by rw [show (S + 12622780800) / 86400 = S / 86400 + 146097 by omega]; exact hd.far) w hT (rightB_of _ 0 (by omega) (by omega) (by omega) (by omega))
    rw [show (S + 86400) % 86400 = S % 86400 by omega, show (S + 86400) % 60 = S % 60 by omega] at b2
    rw [show (S + 12622780800) % 86400 = S % 86400 by omega, show (S + 12622780800) % 60 = S % 60 by omega] at b3
    obtain ⟨z1, z2, z3, z4, z5, z6, b4, hsec⟩ : ∃ z1 z2 z3 z4 z5 z6, (∀ w, TabLaid w → Calls Tryd.prog 15 #[tmV (S + 1) 0] w fun e w' => e = .returned (dateV z1 z2 z3 z4 z5 z6) ∧ Below w.heap.size w w') ∧
        ((S % 60 < 59 ∧ y = z1 ∧ m = z2 ∧ d = z3 ∧ S % 86400 / 3600 = z4 ∧ S % 86400 / 60 % 60 = z5 ∧ S % 60 + 1 = z6) ∨ (S % 60 = 59 ∧ z6 = 0)) := by
      by_cases hs : S % 60 < 59
      · have b4 := fun w hT => date_at (S + 1) 0 (by rw [show (S + 1) / 86400 = S / 86400 by omega]; exact hd) w hT (rightB_of _ 0 (by omega) (by omega) (by omega) (by omega))
        refine ⟨_, _, _, _, _, _, b4, .inl ⟨hs, rfl, rfl, rfl, by omega, by omega, by omega⟩⟩
      · obtain ⟨z1, z2, z3, hz⟩ := date_exists ((S + 1) / 86400)
        exact ⟨_, _, _, _, _, _, fun w hT => date_at (S + 1) 0 hz w hT (rightB_of _ 0 (by omega) (by omega) (by omega) (by omega)), .inr ⟨by omega, by omega⟩⟩
    exact days_core a0 S y m d _ _ _ y1 m1 d1 z1 z2 z3 z4 z5 z6 (mlen y m) w hT hr.1 (by omega) yr.1 yr.2 hd.m1 hd.m2 hd.d1 hd.d2 hm (by omega) (by omega) (by omega) (by omega) (by omega) (by omega) hS t1 b1 b2 b3 b4 (days_any y m hd.m1 hd.m2) hcase hsec
end Go.Proofs.YtncdmineepagpaaDoor
