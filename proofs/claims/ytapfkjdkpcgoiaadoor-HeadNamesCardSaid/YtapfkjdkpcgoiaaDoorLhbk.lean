/- The law HeadBack: its walk. -/
import Derived.Test.YtapfkjdkpcgoiaaDoorWrd
import Derived.Test.YtapfkjdkpcgoiaaDoorNmf
namespace Go.Proofs.YtapfkjdkpcgoiaaDoor
open Go.RowKit Go.Joins
set_option linter.unusedVariables false
set_option linter.unusedSimpArgs false

theorem pick_fours (a : Int) : ∃ p : Nat, p ≤ 3 ∧ ∀ w, Calls Tryd.prog 14 #[.int .i64 a, .int .i64 4] w fun e w' => e = .returned (.int .i64 (p : Int)) ∧ w' = w := by
  have hr := pickF_range a 4 (by omega)
  refine ⟨(pickF a 4).toNat, by omega, fun w => ?_⟩
  have h := pick_any a 4 w (by omega) (by omega)
  rwa [show (((pickF a 4).toNat : Nat) : Int) = pickF a 4 by omega]
theorem one_more (p : Nat) : ((p + 1 : Nat) : Int) = 1 + (p : Int) := by omega
set_option maxRecDepth 100000 in
set_option maxHeartbeats 4000000 in
theorem headBack_walk (a0 : Int) (w0 : (Lit.int .i64 a0).wf = true) (r : RawL) (hi : intsL r) (hz : textsL r) (w : World) :
    Calls Tryd.prog 4 #[.int .i64 a0, rawV r] w fun e w' => e = .returned (.bool true) ∧ Below w.heap.size w w' := by
  obtain ⟨z0, z1, z2, z3, z4⟩ := hz
  have hrb := reachBytes_lt
  have s0 := mkS_size r.name
  have s1 := mkS_size r.link
  have s2 := mkS_size r.user
  have s3 := mkS_size r.group
  have s4 := mkS_size r.front
  have hC := Lib.hid (RawAt.new w r 32)
  have hB := Lib.hid (below_alloc1 w (.cells (#[.string (mkS r.name), .string (mkS r.link), .string (mkS r.user), .string (mkS r.group), .string (mkS r.front), .int .u8 (r.kind.toNat : Int), .int .i64 r.mode, .int .i64 r.uid, .int .i64 r.gid, .int .i64 r.size, .int .i64 r.time, .int .i64 r.major, .int .i64 r.minor]) 32))
  have HO := Lib.hid headed_true
  obtain ⟨p, hp3, hp⟩ := pick_fours a0
  have P := Lib.hid hp
  clear hp
  unfold rawV
  go_enter Tryd.func4, Tryd.ntmps4
  by_cases hs : (600 : Int) < (r.name.length : Int) + r.link.length + r.user.length + r.group.length + r.front.length
  · go_wp2_with (first
    | (go_at_call 13; (with_reducible refine (HO.out _).mono ?_); rintro e w1 ⟨rfl, h1⟩; have hC1 := hC.out.below h1 hC.out.lt; obtain ⟨c0, c1, c2, c3, c4, c5, c6, c7, c8, c9, c10, c11, c12⟩ := id hC1; have hC2 := Lib.hid hC1; have hB1 := Lib.hid (hB.out.trans (h1.mono hB.out.size)); clear h1 hC1)
    | fail)
    go_ret
    exact ⟨rfl, hB1.out⟩
  · by_cases hg : goodL (p + 1) r
    · have C1 := Lib.hid (fun w => write_good (p + 1) r hg hi w)
      rw [one_more] at C1
      have C2 := Lib.hid (fun w => read_good (p + 1) r hg hi w)
      have hL := write_length hg
      have C3 := Lib.hid (fun w => right_mkS (writeL (p + 1) r) true ⟨fun _ => write_right hg, fun _ => rfl⟩ hL w)
      have hE := fun w => raw_eql r r w
      have hG := fun x y w => raw_guard .eql x y r r w
      rw [decide_eq_true rfl] at hE
      clear hg
      generalize writeL (p + 1) r = L at C1 C2 C3 hL
      unfold rawV at C1 C2 hE hG
      obtain ⟨y, hy⟩ : ∃ y, asRead (p + 1) = y := ⟨_, rfl⟩
      rw [hy] at C2
      have hy4 : (((1 : Int) + (p : Int)) == 4) = true ∧ (y : Int) = 2 ∨ (((1 : Int) + (p : Int)) == 4) = false ∧ (y : Int) = 1 + (p : Int) := by
        unfold asRead at hy
        by_cases h4 : p + 1 = 4
        · rw [if_pos h4] at hy; left; exact ⟨by rw [beq_iff_eq]; omega, by omega⟩
        · rw [if_neg h4] at hy; right; exact ⟨by rw [beq_eq_false_iff_ne]; omega, by omega⟩
      clear hy
      rcases hy4 with ⟨h4, hy⟩ | ⟨h4, hy⟩
      all_goals
        rw [hy] at C2
        clear hy
        go_wp2_with (first
    | (go_at_call 13; (with_reducible refine (HO.out _).mono ?_); rintro e w1 ⟨rfl, h1⟩; have hC1 := hC.out.below h1 hC.out.lt; obtain ⟨c0, c1, c2, c3, c4, c5, c6, c7, c8, c9, c10, c11, c12⟩ := id hC1; have hC2 := Lib.hid hC1; have hB1 := Lib.hid (hB.out.trans (h1.mono hB.out.size)); clear h1 hC1)
    | (go_at_call 14; (with_reducible refine (P.out _).mono ?_); rintro e w' ⟨rfl, hw⟩; replace hw := hw.symm; subst hw)
    | (go_at_call 10; (with_reducible refine (C1.out _).mono ?_); rintro e w2 ⟨rfl, h2⟩; have hB2 := Lib.hid (hB1.out.trans (h2.mono hB1.out.size)); have hC3 := Lib.hid (hC2.out.below h2 hC2.out.lt); clear h2)
    | (go_at_call 15; (with_reducible refine (C2.out _).mono ?_); rintro e w3 ⟨rfl, h3⟩; have hB3 := Lib.hid (hB2.out.trans (h3.mono hB2.out.size)); have hC4 := Lib.hid (hC3.out.below h3 hC3.out.lt); have hB4 := Lib.hid (hB3.out.alloc hB3.out.size (.cells #[.string (mkS r.name), .string (mkS r.link), .string (mkS r.user), .string (mkS r.group), .string (mkS r.front), .int .u8 (r.kind.toNat : Int), .int .i64 r.mode, .int .i64 r.uid, .int .i64 r.gid, .int .i64 r.size, .int .i64 r.time, .int .i64 r.major, .int .i64 r.minor] 32)); have hC5 := Lib.hid (hC4.out.below ((Below.refl w3.heap.size w3).alloc (Nat.le_refl _) (.cells #[.string (mkS r.name), .string (mkS r.link), .string (mkS r.user), .string (mkS r.group), .string (mkS r.front), .int .u8 (r.kind.toNat : Int), .int .i64 r.mode, .int .i64 r.uid, .int .i64 r.gid, .int .i64 r.size, .int .i64 r.time, .int .i64 r.major, .int .i64 r.minor] 32)) hC4.out.lt); clear c0 c1 c2 c3 c4 c5 c6 c7 c8 c9 c10 c11 c12; obtain ⟨c0, c1, c2, c3, c4, c5, c6, c7, c8, c9, c10, c11, c12⟩ := id hC5.out; clear h3)
    | (go_at_call 16; (with_reducible refine (C3.out _).mono ?_); rintro e w5 ⟨rfl, h5⟩; have hB5 := Lib.hid (hB4.out.trans (h5.mono hB4.out.size)); clear h5)
    | fail)
        go_ret
        exact ⟨by first | rfl | simp, hB5.out⟩
    · have C1 := Lib.hid (fun w => write_poor (1 + (p : Int)) r (by omega) (fun h => hg (by have := h.2; rwa [show ((1 : Int) + (p : Int)).toNat = p + 1 by omega] at this)) hi w)
      unfold rawV at C1
      go_wp2_with (first
    | (go_at_call 13; (with_reducible refine (HO.out _).mono ?_); rintro e w1 ⟨rfl, h1⟩; have hC1 := hC.out.below h1 hC.out.lt; obtain ⟨c0, c1, c2, c3, c4, c5, c6, c7, c8, c9, c10, c11, c12⟩ := id hC1; have hC2 := Lib.hid hC1; have hB1 := Lib.hid (hB.out.trans (h1.mono hB.out.size)); clear h1 hC1)
    | (go_at_call 14; (with_reducible refine (P.out _).mono ?_); rintro e w' ⟨rfl, hw⟩; replace hw := hw.symm; subst hw)
    | (go_at_call 10; (with_reducible refine (C1.out _).mono ?_); rintro e w2 ⟨⟨k, rfl⟩, h2⟩; have hB2 := Lib.hid (hB1.out.trans (h2.mono hB1.out.size)); clear h2)
    | fail)
      all_goals
        go_ret
        exact ⟨rfl, hB2.out⟩
end Go.Proofs.YtapfkjdkpcgoiaaDoor
