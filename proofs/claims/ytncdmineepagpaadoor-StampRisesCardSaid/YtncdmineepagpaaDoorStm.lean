/- The keep laws' helpers: pick, timed, stamped. -/
import Derived.Test.YtncdmineepagpaaDoorPar
import Derived.Test.YtncdmineepagpaaDoorDateL
namespace Go.Proofs.YtncdmineepagpaaDoor
open Go.RowKit Go.Joins

def pickF (a n : Int) : Int := a % 18446744073709551616 % n
theorem pickF_range (a n : Int) (h : 1 ≤ n) : 0 ≤ pickF a n ∧ pickF a n < n := by
  unfold pickF; exact ⟨Int.emod_nonneg _ (by omega), Int.emod_lt_of_pos _ (by omega)⟩
theorem u64_wrap (a : Int) : IntKind.u64.wrap a = a % 18446744073709551616 := by
  simp only [IntKind.wrap, IntKind.bits, IntKind.signed]; simp

theorem pick_any (a n : Int) (w : World) (h1 : 1 ≤ n) (h2 : n ≤ 4398046511104) :
    Calls Tryd.prog 27 #[.int .i64 a, .int .i64 n] w fun e w' => e = .returned (.int .i64 (pickF a n)) ∧ w' = w := by
  have hw := u64_wrap a
  have hr := pickF_range a n h1
  have hp : a % 18446744073709551616 % n = pickF a n := rfl
  obtain ⟨u, hu, hu0, hu1⟩ : ∃ u, a % 18446744073709551616 = u ∧ 0 ≤ u ∧ u ≤ 18446744073709551615 := ⟨_, rfl, by omega, by omega⟩
  rw [hu] at hw hp
  obtain ⟨hr1, hr2⟩ := hr
  have hn : n ≠ 0 := by omega
  clear hu
  go_enter Tryd.func27, Tryd.ntmps27
  go_wp2
  go_ret
  exact ⟨rfl, rfl⟩

/-- timed's seconds and nanoseconds. -/
def secF (a : Int) : Int := pickF a 2199023255553 - 1099511627776
def nanF (b : Int) : Int := pickF b 1000000000
theorem secF_range (a : Int) : -1099511627776 ≤ secF a ∧ secF a ≤ 1099511627776 := by have := pickF_range a 2199023255553 (by omega); unfold secF; omega
theorem nanF_range (b : Int) : 0 ≤ nanF b ∧ nanF b < 1000000000 := pickF_range b 1000000000 (by omega)
theorem timed_right (a b : Int) : rightB (secF a) (nanF b) = true := by
  have := secF_range a; have := nanF_range b
  simp [rightB]; omega

theorem timed_ex (a b : Int) (w : World) :
    Calls Tryd.prog 20 #[.int .i64 a, .int .i64 b] w fun e w' => e = .returned (tmV (secF a) (nanF b)) ∧ w' = w.alloc (.cells #[.int .i64 (secF a), .int .i64 (nanF b)] 23) := by
  have h1 := pickF_range a 2199023255553 (by omega)
  have hs : secF a = pickF a 2199023255553 - 1099511627776 := rfl
  have hn : nanF b = pickF b 1000000000 := rfl
  rw [hs, hn]
  clear hs hn
  go_enter Tryd.func20, Tryd.ntmps20
  go_wp2_with (go_at_call 27; refine (pick_any _ _ _ (by omega) (by omega)).mono ?_; rintro e w' ⟨rfl, hw⟩; replace hw := hw.symm; subst hw)
  exact bodyPost_ret (v := tmV (pickF a 2199023255553 - 1099511627776) (pickF b 1000000000)) (by simp [results, Tryd.results20, go_sem]) rfl ⟨rfl, rfl⟩

theorem text_half : textL (-1) 500000000 = [45, 48, 46, 53] := by
  unfold textL
  rw [if_neg (by decide), if_neg (by decide), dec_small _ (by decide)]
  decide +kernel
theorem parse_quarter : parseF [45, 49, 46, 50, 53] = (0, -2, 750000000) := by decide +kernel
theorem date_feb : IsDate (951782400 / 86400) 2000 2 29 := ⟨by decide, by decide, by decide, by decide, by decide⟩

theorem stamped_ok (w : World) (hp : PowLaid w) (hT : TabLaid w) :
    Calls Tryd.prog 19 #[] w fun e w' => e = .returned (.bool true) ∧ Below w.heap.size w w' := by
  have HP := Lib.hid (fun w1 (h : Below w.heap.size w w1) => hp.below h)
  have HT := Lib.hid (fun w1 (h : Below w.heap.size w w1) => hT.below h)
  have T : ∀ w, PowLaid w → Calls Tryd.prog 18 #[tmV (-1) 500000000] w fun e w' => e = .returned (.tuple #[.string { data := #[45, 48, 46, 53] }, .nilIface]) ∧ Below w.heap.size w w' := fun w hp => by
    have h := text_ok (-1) 500000000 w hp (by decide)
    rw [text_half] at h
    exact h
  have P : ∀ w, Calls Tryd.prog 12 #[.string { data := #[45, 49, 46, 50, 53] }] w fun e w' => e = .returned (.tuple #[tmV (-2) 750000000, .nilIface]) ∧ Below w.heap.size w w' := fun w => by
    have h := parse_any [45, 49, 46, 50, 53] w (by decide)
    rw [parse_quarter] at h
    exact h
  have D : ∀ w, TabLaid w → Calls Tryd.prog 15 #[tmV 951782400 0] w fun e w' => e = .returned (dateV 2000 2 29 0 0 0) ∧ Below w.heap.size w w' := fun w hT => date_at 951782400 0 date_feb w hT (by decide)
  have hE := fun w => eq_date_same 2000 2 29 0 0 0 w
  have T' := Lib.hid T
  have P' := Lib.hid P
  have D' := Lib.hid D
  clear T P D hp hT
  go_enter Tryd.func19, Tryd.ntmps19
  go_wp2_with (first
    | (go_at_call 18; refine (T'.out _ (HP.out _ (Below.refl _ _))).mono ?_; rintro e w1 ⟨rfl, h1⟩)
    | (go_at_call 12; refine (P'.out _).mono ?_; rintro e w2 ⟨rfl, h2⟩; replace h2 := h1.trans (h2.mono h1.size))
    | (go_at_call 15; refine (D'.out _ (HT.out _ (h2.alloc h2.size _))).mono ?_; rintro e w3 ⟨rfl, h3⟩; replace h3 := (h2.alloc h2.size _).trans (h3.mono (by have := h2.size; simp; omega))))
  go_ret
  exact ⟨rfl, h3⟩
end Go.Proofs.YtncdmineepagpaaDoor
