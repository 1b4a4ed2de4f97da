/- The law HeadOne: its walk. -/
import Derived.Test.YtapfkjdkpcgoiaaDoorLhbk
namespace Go.Proofs.YtapfkjdkpcgoiaaDoor
open Go.RowKit Go.Joins
set_option linter.unusedVariables false
set_option linter.unusedSimpArgs false

set_option maxRecDepth 100000 in
set_option maxHeartbeats 4000000 in
theorem headOne_walk (a0 : Int) (w0 : (Lit.int .i64 a0).wf = true) (r : RawL) (hi : intsL r) (hz : textsL r) (q : RawL) (hi2 : intsL q) (hz2 : textsL q) (w : World) :
    Calls Tryd.prog 7 #[.int .i64 a0, rawV r, rawV q] w fun e w' => e = .returned (.bool true) ∧ Below w.heap.size w w' := by
  obtain ⟨z0, z1, z2, z3, z4⟩ := hz
  obtain ⟨y0, y1, y2, y3, y4⟩ := hz2
  have hrb := reachBytes_lt
  have s0 := mkS_size r.name
  have s1 := mkS_size r.link
  have s2 := mkS_size r.user
  have s3 := mkS_size r.group
  have s4 := mkS_size r.front
  have t0 := mkS_size q.name
  have t1 := mkS_size q.link
  have t2 := mkS_size q.user
  have t3 := mkS_size q.group
  have t4 := mkS_size q.front
  have hC0 := Lib.hid (RawAt.new w r 32)
  have hB0 := Lib.hid (below_alloc1 w (.cells (#[.string (mkS r.name), .string (mkS r.link), .string (mkS r.user), .string (mkS r.group), .string (mkS r.front), .int .u8 (r.kind.toNat : Int), .int .i64 r.mode, .int .i64 r.uid, .int .i64 r.gid, .int .i64 r.size, .int .i64 r.time, .int .i64 r.major, .int .i64 r.minor]) 32))
  have hC := Lib.hid (hC0.out.below ((Below.refl _ _).alloc (Nat.le_refl _) (.cells (#[.string (mkS q.name), .string (mkS q.link), .string (mkS q.user), .string (mkS q.group), .string (mkS q.front), .int .u8 (q.kind.toNat : Int), .int .i64 q.mode, .int .i64 q.uid, .int .i64 q.gid, .int .i64 q.size, .int .i64 q.time, .int .i64 q.major, .int .i64 q.minor]) 32)) hC0.out.lt)
  have hD0 := RawAt.new (w.alloc (.cells (#[.string (mkS r.name), .string (mkS r.link), .string (mkS r.user), .string (mkS r.group), .string (mkS r.front), .int .u8 (r.kind.toNat : Int), .int .i64 r.mode, .int .i64 r.uid, .int .i64 r.gid, .int .i64 r.size, .int .i64 r.time, .int .i64 r.major, .int .i64 r.minor]) 32)) q 32
  rw [show (w.alloc (.cells (#[.string (mkS r.name), .string (mkS r.link), .string (mkS r.user), .string (mkS r.group), .string (mkS r.front), .int .u8 (r.kind.toNat : Int), .int .i64 r.mode, .int .i64 r.uid, .int .i64 r.gid, .int .i64 r.size, .int .i64 r.time, .int .i64 r.major, .int .i64 r.minor]) 32)).heap.size = w.heap.size + 1 by simp] at hD0
  have hD := Lib.hid hD0
  clear hD0
  have hB := Lib.hid (hB0.out.alloc hB0.out.size (.cells (#[.string (mkS q.name), .string (mkS q.link), .string (mkS q.user), .string (mkS q.group), .string (mkS q.front), .int .u8 (q.kind.toNat : Int), .int .i64 q.mode, .int .i64 q.uid, .int .i64 q.gid, .int .i64 q.size, .int .i64 q.time, .int .i64 q.major, .int .i64 q.minor]) 32))
  have HO := Lib.hid headed_true
  obtain ⟨p, hp3, hp⟩ := pick_fours a0
  have P := Lib.hid hp
  clear hp hC0 hB0
  unfold rawV
  go_enter Tryd.func7, Tryd.ntmps7
  by_cases hs : (600 : Int) < (r.name.length : Int) + r.link.length + r.user.length + r.group.length + r.front.length
  · go_wp2_with (first
    | (go_at_call 13; (with_reducible refine (HO.out _).mono ?_); rintro e w1 ⟨rfl, h1⟩; obtain ⟨c0, c1, c2, c3, c4, c5, c6, c7, c8, c9, c10, c11, c12⟩ := hC.out.below h1 hC.out.lt; obtain ⟨e0, e1, e2, e3, e4, e5, e6, e7, e8, e9, e10, e11, e12⟩ := hD.out.below h1 hD.out.lt; have hC2 := Lib.hid (hC.out.below h1 hC.out.lt); have hD2 := Lib.hid (hD.out.below h1 hD.out.lt); have hB1 := Lib.hid (hB.out.trans (h1.mono hB.out.size)); clear h1)
    | fail)
    go_ret
    exact ⟨rfl, hB1.out⟩
  · by_cases ht : (600 : Int) < (q.name.length : Int) + q.link.length + q.user.length + q.group.length + q.front.length
    · go_wp2_with (first
    | (go_at_call 13; (with_reducible refine (HO.out _).mono ?_); rintro e w1 ⟨rfl, h1⟩; obtain ⟨c0, c1, c2, c3, c4, c5, c6, c7, c8, c9, c10, c11, c12⟩ := hC.out.below h1 hC.out.lt; obtain ⟨e0, e1, e2, e3, e4, e5, e6, e7, e8, e9, e10, e11, e12⟩ := hD.out.below h1 hD.out.lt; have hC2 := Lib.hid (hC.out.below h1 hC.out.lt); have hD2 := Lib.hid (hD.out.below h1 hD.out.lt); have hB1 := Lib.hid (hB.out.trans (h1.mono hB.out.size)); clear h1)
    | fail)
      go_ret
      exact ⟨rfl, hB1.out⟩
    · by_cases hg : goodL (p + 1) r
      · have C1 := Lib.hid (fun w => write_good (p + 1) r hg hi w)
        rw [one_more] at C1
        by_cases hh : goodL (p + 1) q
        · have C2 := Lib.hid (fun w => write_good (p + 1) q hh hi2 w)
          rw [one_more] at C2
          have hinj := write_inj hg hi hh hi2
          have hE := fun w => raw_eql r q w
          have hG := fun x y w => raw_guard .eql x y r q w
          have hT := text_beq (writeL (p + 1) r) (writeL (p + 1) q)
          rw [show decide (writeL (p + 1) r = writeL (p + 1) q) = decide (r = q) by rw [Bool.eq_iff_iff, decide_eq_true_iff, decide_eq_true_iff]; exact hinj] at hT
          clear hinj hg hh
          generalize writeL (p + 1) r = L at C1 hT
          generalize writeL (p + 1) q = M at C2 hT
          generalize decide (r = q) = z at hE hT
          unfold rawV at C1 C2 hE hG
          go_wp2_with (first
    | (go_at_call 13; (with_reducible refine (HO.out _).mono ?_); rintro e w1 ⟨rfl, h1⟩; obtain ⟨c0, c1, c2, c3, c4, c5, c6, c7, c8, c9, c10, c11, c12⟩ := hC.out.below h1 hC.out.lt; obtain ⟨e0, e1, e2, e3, e4, e5, e6, e7, e8, e9, e10, e11, e12⟩ := hD.out.below h1 hD.out.lt; have hC2 := Lib.hid (hC.out.below h1 hC.out.lt); have hD2 := Lib.hid (hD.out.below h1 hD.out.lt); have hB1 := Lib.hid (hB.out.trans (h1.mono hB.out.size)); clear h1)
    | (go_at_call 14; (with_reducible refine (P.out _).mono ?_); rintro e w' ⟨rfl, hw⟩; replace hw := hw.symm; subst hw)
    | (go_at_call 10; (with_reducible refine (C1.out _).mono ?_); rintro e w2 ⟨rfl, h2⟩; have hB3 := Lib.hid (hB1.out.trans (h2.mono hB1.out.size)); have hC3 := Lib.hid (hC2.out.below h2 hC2.out.lt); have hD3 := Lib.hid (hD2.out.below h2 hD2.out.lt); clear h2; clear c0 c1 c2 c3 c4 c5 c6 c7 c8 c9 c10 c11 c12 e0 e1 e2 e3 e4 e5 e6 e7 e8 e9 e10 e11 e12; obtain ⟨c0, c1, c2, c3, c4, c5, c6, c7, c8, c9, c10, c11, c12⟩ := id hC3.out; obtain ⟨e0, e1, e2, e3, e4, e5, e6, e7, e8, e9, e10, e11, e12⟩ := id hD3.out)
    | (go_at_call 10; (with_reducible refine (C2.out _).mono ?_); rintro e w3 ⟨rfl, h2⟩; have hB4 := Lib.hid (hB3.out.trans (h2.mono hB3.out.size)); have hC4 := Lib.hid (hC3.out.below h2 hC3.out.lt); have hD4 := Lib.hid (hD3.out.below h2 hD3.out.lt); clear h2; clear c0 c1 c2 c3 c4 c5 c6 c7 c8 c9 c10 c11 c12 e0 e1 e2 e3 e4 e5 e6 e7 e8 e9 e10 e11 e12; obtain ⟨c0, c1, c2, c3, c4, c5, c6, c7, c8, c9, c10, c11, c12⟩ := id hC4.out; obtain ⟨e0, e1, e2, e3, e4, e5, e6, e7, e8, e9, e10, e11, e12⟩ := id hD4.out)
    | fail)
          go_ret
          exact ⟨by first | rfl | simp, hB4.out⟩
        · have C2 := Lib.hid (fun w => write_poor (1 + (p : Int)) q (by omega) (fun h => hh (by have := h.2; rwa [show ((1 : Int) + (p : Int)).toNat = p + 1 by omega] at this)) hi2 w)
          generalize writeL (p + 1) r = L at C1
          unfold rawV at C1 C2
          go_wp2_with (first
    | (go_at_call 13; (with_reducible refine (HO.out _).mono ?_); rintro e w1 ⟨rfl, h1⟩; obtain ⟨c0, c1, c2, c3, c4, c5, c6, c7, c8, c9, c10, c11, c12⟩ := hC.out.below h1 hC.out.lt; obtain ⟨e0, e1, e2, e3, e4, e5, e6, e7, e8, e9, e10, e11, e12⟩ := hD.out.below h1 hD.out.lt; have hC2 := Lib.hid (hC.out.below h1 hC.out.lt); have hD2 := Lib.hid (hD.out.below h1 hD.out.lt); have hB1 := Lib.hid (hB.out.trans (h1.mono hB.out.size)); clear h1)
    | (go_at_call 14; (with_reducible refine (P.out _).mono ?_); rintro e w' ⟨rfl, hw⟩; replace hw := hw.symm; subst hw)
    | (go_at_call 10; (with_reducible refine (C1.out _).mono ?_); rintro e w2 ⟨rfl, h2⟩; have hB3 := Lib.hid (hB1.out.trans (h2.mono hB1.out.size)); have hC3 := Lib.hid (hC2.out.below h2 hC2.out.lt); have hD3 := Lib.hid (hD2.out.below h2 hD2.out.lt); clear h2; clear c0 c1 c2 c3 c4 c5 c6 c7 c8 c9 c10 c11 c12 e0 e1 e2 e3 e4 e5 e6 e7 e8 e9 e10 e11 e12; obtain ⟨c0, c1, c2, c3, c4, c5, c6, c7, c8, c9, c10, c11, c12⟩ := id hC3.out; obtain ⟨e0, e1, e2, e3, e4, e5, e6, e7, e8, e9, e10, e11, e12⟩ := id hD3.out)
    | (go_at_call 10; (with_reducible refine (C2.out _).mono ?_); rintro e w3 ⟨⟨k, rfl⟩, h2⟩; have hB4 := Lib.hid (hB3.out.trans (h2.mono hB3.out.size)); have hC4 := Lib.hid (hC3.out.below h2 hC3.out.lt); have hD4 := Lib.hid (hD3.out.below h2 hD3.out.lt); clear h2; clear c0 c1 c2 c3 c4 c5 c6 c7 c8 c9 c10 c11 c12 e0 e1 e2 e3 e4 e5 e6 e7 e8 e9 e10 e11 e12; obtain ⟨c0, c1, c2, c3, c4, c5, c6, c7, c8, c9, c10, c11, c12⟩ := id hC4.out; obtain ⟨e0, e1, e2, e3, e4, e5, e6, e7, e8, e9, e10, e11, e12⟩ := id hD4.out)
    | fail)
          all_goals
            go_ret
            exact ⟨rfl, hB4.out⟩
      · have C1 := Lib.hid (fun w => write_poor (1 + (p : Int)) r (by omega) (fun h => hg (by have := h.2; rwa [show ((1 : Int) + (p : Int)).toNat = p + 1 by omega] at this)) hi w)
        clear hg
        have C2 := Lib.hid (fun w => write_any' (1 + (p : Int)) q (tVal_sum (n := 1000000) (by omega)) hi2 w)
        unfold rawV WritePost at *
        go_wp2_with (first
    | (go_at_call 13; (with_reducible refine (HO.out _).mono ?_); rintro e w1 ⟨rfl, h1⟩; obtain ⟨c0, c1, c2, c3, c4, c5, c6, c7, c8, c9, c10, c11, c12⟩ := hC.out.below h1 hC.out.lt; obtain ⟨e0, e1, e2, e3, e4, e5, e6, e7, e8, e9, e10, e11, e12⟩ := hD.out.below h1 hD.out.lt; have hC2 := Lib.hid (hC.out.below h1 hC.out.lt); have hD2 := Lib.hid (hD.out.below h1 hD.out.lt); have hB1 := Lib.hid (hB.out.trans (h1.mono hB.out.size)); clear h1)
    | (go_at_call 14; (with_reducible refine (P.out _).mono ?_); rintro e w' ⟨rfl, hw⟩; replace hw := hw.symm; subst hw)
    | (go_at_call 10; (with_reducible refine (C1.out _).mono ?_); rintro e w2 ⟨⟨k, rfl⟩, h2⟩; have hB3 := Lib.hid (hB1.out.trans (h2.mono hB1.out.size)); have hC3 := Lib.hid (hC2.out.below h2 hC2.out.lt); have hD3 := Lib.hid (hD2.out.below h2 hD2.out.lt); clear h2; clear c0 c1 c2 c3 c4 c5 c6 c7 c8 c9 c10 c11 c12 e0 e1 e2 e3 e4 e5 e6 e7 e8 e9 e10 e11 e12; obtain ⟨c0, c1, c2, c3, c4, c5, c6, c7, c8, c9, c10, c11, c12⟩ := id hC3.out; obtain ⟨e0, e1, e2, e3, e4, e5, e6, e7, e8, e9, e10, e11, e12⟩ := id hD3.out)
    | (go_at_call 10; (with_reducible refine (C2.out _).mono ?_); rintro e w3 ⟨s, k2, _, rfl, h2⟩; generalize errV k2 = v2; have hB4 := Lib.hid (hB3.out.trans (h2.mono hB3.out.size)); have hC4 := Lib.hid (hC3.out.below h2 hC3.out.lt); have hD4 := Lib.hid (hD3.out.below h2 hD3.out.lt); clear h2; clear c0 c1 c2 c3 c4 c5 c6 c7 c8 c9 c10 c11 c12 e0 e1 e2 e3 e4 e5 e6 e7 e8 e9 e10 e11 e12; obtain ⟨c0, c1, c2, c3, c4, c5, c6, c7, c8, c9, c10, c11, c12⟩ := id hC4.out; obtain ⟨e0, e1, e2, e3, e4, e5, e6, e7, e8, e9, e10, e11, e12⟩ := id hD4.out)
    | fail)
        all_goals
          go_ret
          exact ⟨rfl, hB4.out⟩
end Go.Proofs.YtapfkjdkpcgoiaaDoor
