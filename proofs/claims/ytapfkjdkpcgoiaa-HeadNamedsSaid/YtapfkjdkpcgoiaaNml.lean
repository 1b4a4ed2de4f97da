/- The laws HeadNameds and HeadFulls: their walks. -/
import Derived.Test.YtapfkjdkpcgoiaaNmr
import Derived.Lib.QuietBelow
import Derived.BigQuiet
namespace Go.Proofs.Ytapfkjdkpcgoiaa
open Go.RowKit Go.Joins
set_option linter.unusedVariables false
set_option linter.unusedSimpArgs false

theorem thick_yes (r : RawL) (hz : textsL r) (h : 900 < sumT r) (w : World) :
    Calls Try.prog 5 #[rawV r] w fun e w' => e = .returned (.bool true) ∧ Below w.heap.size w w' := by
  refine (thick_any r hz w).mono fun e w' ⟨he, hb⟩ => ⟨?_, hb⟩
  rw [he, decide_eq_true (by omega)]
theorem thick_no (r : RawL) (hz : textsL r) (h : ¬ 900 < sumT r) (w : World) :
    Calls Try.prog 5 #[rawV r] w fun e w' => e = .returned (.bool false) ∧ Below w.heap.size w w' := by
  refine (thick_any r hz w).mono fun e w' ⟨he, hb⟩ => ⟨?_, hb⟩
  rw [he, decide_eq_false (by omega)]

set_option maxHeartbeats 4000000 in
theorem headFulls_walk (r : RawL) (hi : intsL r) (hz : textsL r) (w : World) :
    Calls Try.prog 4 #[rawV r] w fun e w' => e = .returned (.bool true) ∧ Below w.heap.size w w' := by
  have hC := Lib.hid (RawAt.new w r 23)
  have hb := Lib.hid (below_alloc1 w (.cells (#[.string (mkS r.name), .string (mkS r.link), .string (mkS r.user), .string (mkS r.group), .string (mkS r.front), .int .u8 (r.kind.toNat : Int), .int .i64 r.mode, .int .i64 r.uid, .int .i64 r.gid, .int .i64 r.size, .int .i64 r.time, .int .i64 r.major, .int .i64 r.minor]) 23))
  by_cases h : 900 < sumT r
  · have C := Lib.hid (thick_yes r hz h)
    clear h hz hi
    unfold rawV at C ⊢
    go_enter Try.func4, Try.ntmps4
    go_wp2_with fail
    generalize (w.alloc (.cells #[.string (mkS r.name), .string (mkS r.link), .string (mkS r.user), .string (mkS r.group), .string (mkS r.front), .int .u8 (r.kind.toNat : Int), .int .i64 r.mode, .int .i64 r.uid, .int .i64 r.gid, .int .i64 r.size, .int .i64 r.time, .int .i64 r.major, .int .i64 r.minor] 23)) = w1 at *
    have qC := Lib.hid (fun d os => hC.out.regrown d os)
    have u : ∀ d os, RawAt (Sort.grow (redrawn w1 d) os) w.heap.size r := fun d os => qC.out d os
    unfold RawAt at u
    have u0 := fun d os => (u d os).1
    have u1 := fun d os => (u d os).2.1
    have u2 := fun d os => (u d os).2.2.1
    have u3 := fun d os => (u d os).2.2.2.1
    have u4 := fun d os => (u d os).2.2.2.2.1
    have u5 := fun d os => (u d os).2.2.2.2.2.1
    have u6 := fun d os => (u d os).2.2.2.2.2.2.1
    have u7 := fun d os => (u d os).2.2.2.2.2.2.2.1
    have u8 := fun d os => (u d os).2.2.2.2.2.2.2.2.1
    have u9 := fun d os => (u d os).2.2.2.2.2.2.2.2.2.1
    have u10 := fun d os => (u d os).2.2.2.2.2.2.2.2.2.2.1
    have u11 := fun d os => (u d os).2.2.2.2.2.2.2.2.2.2.2.1
    have u12 := fun d os => (u d os).2.2.2.2.2.2.2.2.2.2.2.2
    clear u
    refine wp_region_quiet_below (by kernel_rfl) (by kernel_rfl) ?_
    repeat (go_big_quiet_step ((go_at_call 5; with_reducible exact Calls.regrown_of (C.out _))))
    refine wpQuiet_nil ?_
    intro _ hw'
    obtain ⟨⟨dq, osq⟩, hw''⟩ := hw'
    subst hw''
    have hq := Lib.hid (hb.out.trans ((below_regrown w1 dq osq).mono hb.out.size))
    go_wp2
    go_ret
    exact ⟨rfl, hq.out⟩
  · have C := Lib.hid (thick_no r hz h)
    have C1 := Lib.hid (rawOf_any r)
    have C2 := Lib.hid (full_any r (by omega))
    have C3 := Lib.hid (refFull_any r (by omega))
    clear h hz hi
    generalize fullL r = F at C C1 C2 C3
    unfold rawV at C C1 C2 C3 ⊢
    go_enter Try.func4, Try.ntmps4
    go_wp2_with fail
    generalize (w.alloc (.cells #[.string (mkS r.name), .string (mkS r.link), .string (mkS r.user), .string (mkS r.group), .string (mkS r.front), .int .u8 (r.kind.toNat : Int), .int .i64 r.mode, .int .i64 r.uid, .int .i64 r.gid, .int .i64 r.size, .int .i64 r.time, .int .i64 r.major, .int .i64 r.minor] 23)) = w1 at *
    have qC := Lib.hid (fun d os => hC.out.regrown d os)
    have u : ∀ d os, RawAt (Sort.grow (redrawn w1 d) os) w.heap.size r := fun d os => qC.out d os
    unfold RawAt at u
    have u0 := fun d os => (u d os).1
    have u1 := fun d os => (u d os).2.1
    have u2 := fun d os => (u d os).2.2.1
    have u3 := fun d os => (u d os).2.2.2.1
    have u4 := fun d os => (u d os).2.2.2.2.1
    have u5 := fun d os => (u d os).2.2.2.2.2.1
    have u6 := fun d os => (u d os).2.2.2.2.2.2.1
    have u7 := fun d os => (u d os).2.2.2.2.2.2.2.1
    have u8 := fun d os => (u d os).2.2.2.2.2.2.2.2.1
    have u9 := fun d os => (u d os).2.2.2.2.2.2.2.2.2.1
    have u10 := fun d os => (u d os).2.2.2.2.2.2.2.2.2.2.1
    have u11 := fun d os => (u d os).2.2.2.2.2.2.2.2.2.2.2.1
    have u12 := fun d os => (u d os).2.2.2.2.2.2.2.2.2.2.2.2
    clear u
    refine wp_region_quiet_below (by kernel_rfl) (by kernel_rfl) ?_
    repeat (go_big_quiet_step (first
      | (go_at_call 5; with_reducible exact Calls.regrown_of (C.out _))
      | (go_at_call 7; with_reducible exact Calls.regrown_of (C1.out _))
      | (go_at_call 9; with_reducible exact Calls.regrown_of (C2.out _))
      | (go_at_call 10; with_reducible exact Calls.regrown_of (C3.out _))))
    refine wpQuiet_nil ?_
    intro _ hw'
    obtain ⟨⟨dq, osq⟩, hw''⟩ := hw'
    subst hw''
    have hq := Lib.hid (hb.out.trans ((below_regrown w1 dq osq).mono hb.out.size))
    go_wp2
    go_ret
    exact ⟨rfl, hq.out⟩

set_option maxHeartbeats 4000000 in
theorem headNameds_walk (a0 : Int) (w0 : (Lit.int .i64 a0).wf = true) (r : RawL) (hi : intsL r) (hz : textsL r) (a2 : ByteArray) (z2 : a2.size ≤ reachBytes) (w : World) :
    Calls Try.prog 3 #[.int .i64 a0, rawV r, .string a2] w fun e w' => e = .returned (.bool true) ∧ Below w.heap.size w w' := by
  obtain ⟨n, rfl⟩ : ∃ k, a2 = mkS k := ⟨_, (mkS_self a2).symm⟩
  have hC := Lib.hid (RawAt.new w r 23)
  have hb := Lib.hid (below_alloc1 w (.cells (#[.string (mkS r.name), .string (mkS r.link), .string (mkS r.user), .string (mkS r.group), .string (mkS r.front), .int .u8 (r.kind.toNat : Int), .int .i64 r.mode, .int .i64 r.uid, .int .i64 r.gid, .int .i64 r.size, .int .i64 r.time, .int .i64 r.major, .int .i64 r.minor]) 23))
  have s1 := mkS_size n
  rw [s1] at z2
  have hr := reachBytes_lt
  by_cases h : 900 < sumT r
  · have C := Lib.hid (thick_yes r hz h)
    clear h hz hi
    unfold rawV at C ⊢
    go_enter Try.func3, Try.ntmps3
    go_wp2_with (go_at_call 5; with_reducible refine (C.out _).mono ?_; rintro e w1 ⟨rfl, h1⟩)
    go_ret
    exact ⟨rfl, hb.out.trans (h1.mono hb.out.size)⟩
  · have C := Lib.hid (thick_no r hz h)
    by_cases hn : (400 : Int) < (n.length : Int)
    · clear h hz hi
      unfold rawV at C ⊢
      go_enter Try.func3, Try.ntmps3
      go_wp2_with (go_at_call 5; with_reducible refine (C.out _).mono ?_; rintro e w1 ⟨rfl, h1⟩)
      go_ret
      exact ⟨rfl, hb.out.trans (h1.mono hb.out.size)⟩
    · have C1 := Lib.hid (rawOf_any r)
      have C2 := Lib.hid (named_any a0 r n (by omega))
      have C3 := Lib.hid (refNamed_any a0 r n (by omega))
      have C4 := Lib.hid rawOf_any
      clear h hz hi
      unfold rawV at C C1 C2 C3 ⊢
      go_enter Try.func3, Try.ntmps3
      go_wp2_with (first
        | (go_at_call 5; (with_reducible refine (C.out _).mono ?_); rintro e w1 ⟨rfl, h1⟩; have hC1 := hC.out.below h1 hC.out.lt; obtain ⟨c0, c1, c2, c3, c4, c5, c6, c7, c8, c9, c10, c11, c12⟩ := id hC1; replace h1 := Lib.hid h1; replace hC1 := Lib.hid hC1)
        | (go_at_call 6; (with_reducible refine (C3.out _).mono ?_); rintro e w2 ⟨q, k, hI3, rfl, h2⟩; unfold rawV; have HI3 := Lib.hid hI3; clear hI3; have h2' := Lib.hid ((h1.out.trans (h2.mono h1.out.size)).alloc (Nat.le_trans h1.out.size h2.size) (.cells #[.string (mkS q.name), .string (mkS q.link), .string (mkS q.user), .string (mkS q.group), .string (mkS q.front), .int .u8 (q.kind.toNat : Int), .int .i64 q.mode, .int .i64 q.uid, .int .i64 q.gid, .int .i64 q.size, .int .i64 q.time, .int .i64 q.major, .int .i64 q.minor] 23)); have hC2 := Lib.hid (hC1.out.below (h2.alloc h2.size (.cells #[.string (mkS q.name), .string (mkS q.link), .string (mkS q.user), .string (mkS q.group), .string (mkS q.front), .int .u8 (q.kind.toNat : Int), .int .i64 q.mode, .int .i64 q.uid, .int .i64 q.gid, .int .i64 q.size, .int .i64 q.time, .int .i64 q.major, .int .i64 q.minor] 23)) hC1.out.lt); have hC3 := Lib.hid (RawAt.new w2 q 23); clear c0 c1 c2 c3 c4 c5 c6 c7 c8 c9 c10 c11 c12 h2; obtain ⟨c0, c1, c2, c3, c4, c5, c6, c7, c8, c9, c10, c11, c12⟩ := id hC2.out)
        | (go_at_call 7; (with_reducible refine (C1.out _).mono ?_); rintro e w3 ⟨rfl, h3⟩; clear c0 c1 c2 c3 c4 c5 c6 c7 c8 c9 c10 c11 c12; have h3' := Lib.hid (h2'.out.trans (h3.mono h2'.out.size)); have hC4 := Lib.hid (hC3.out.below h3 hC3.out.lt); clear h3)
        | (go_at_call 8; (with_reducible refine (C2.out _).mono ?_); rintro e w4 ⟨q', k', hI4, rfl, h4⟩; obtain ⟨rfl, rfl⟩ := HI3.out.unique hI4; clear hI4; unfold rawV; have h4' := Lib.hid ((h3'.out.trans (h4.mono h3'.out.size)).alloc (Nat.le_trans h3'.out.size h4.size) (.cells #[.string (mkS q.name), .string (mkS q.link), .string (mkS q.user), .string (mkS q.group), .string (mkS q.front), .int .u8 (q.kind.toNat : Int), .int .i64 q.mode, .int .i64 q.uid, .int .i64 q.gid, .int .i64 q.size, .int .i64 q.time, .int .i64 q.major, .int .i64 q.minor] 27)); have hC5 := Lib.hid (hC4.out.below (h4.alloc h4.size (.cells #[.string (mkS q.name), .string (mkS q.link), .string (mkS q.user), .string (mkS q.group), .string (mkS q.front), .int .u8 (q.kind.toNat : Int), .int .i64 q.mode, .int .i64 q.uid, .int .i64 q.gid, .int .i64 q.size, .int .i64 q.time, .int .i64 q.major, .int .i64 q.minor] 27)) hC4.out.lt); have hC6 := Lib.hid (RawAt.new w4 q 27); clear h4)
        | fail)
      have C5 := Lib.hid (rawOf_any q)
      have hE := fun w => raw_eql q q w
      have hG := fun x y w => raw_guard .eql x y q q w
      rw [decide_eq_true rfl] at hE
      unfold rawV at C5 hE hG
      generalize (w4.alloc (.cells #[.string (mkS q.name), .string (mkS q.link), .string (mkS q.user), .string (mkS q.group), .string (mkS q.front), .int .u8 (q.kind.toNat : Int), .int .i64 q.mode, .int .i64 q.uid, .int .i64 q.gid, .int .i64 q.size, .int .i64 q.time, .int .i64 q.major, .int .i64 q.minor] 27)) = w5 at *
      have qC := Lib.hid (fun d os => hC5.out.regrown d os)
      have qD := Lib.hid (fun d os => hC6.out.regrown d os)
      have u : ∀ d os, RawAt (Sort.grow (redrawn w5 d) os) w2.heap.size q := fun d os => qC.out d os
      have v : ∀ d os, RawAt (Sort.grow (redrawn w5 d) os) w4.heap.size q := fun d os => qD.out d os
      unfold RawAt at u v
      have u0 := fun d os => (u d os).1
      have v0 := fun d os => (v d os).1
      have u1 := fun d os => (u d os).2.1
      have v1 := fun d os => (v d os).2.1
      have u2 := fun d os => (u d os).2.2.1
      have v2 := fun d os => (v d os).2.2.1
      have u3 := fun d os => (u d os).2.2.2.1
      have v3 := fun d os => (v d os).2.2.2.1
      have u4 := fun d os => (u d os).2.2.2.2.1
      have v4 := fun d os => (v d os).2.2.2.2.1
      have u5 := fun d os => (u d os).2.2.2.2.2.1
      have v5 := fun d os => (v d os).2.2.2.2.2.1
      have u6 := fun d os => (u d os).2.2.2.2.2.2.1
      have v6 := fun d os => (v d os).2.2.2.2.2.2.1
      have u7 := fun d os => (u d os).2.2.2.2.2.2.2.1
      have v7 := fun d os => (v d os).2.2.2.2.2.2.2.1
      have u8 := fun d os => (u d os).2.2.2.2.2.2.2.2.1
      have v8 := fun d os => (v d os).2.2.2.2.2.2.2.2.1
      have u9 := fun d os => (u d os).2.2.2.2.2.2.2.2.2.1
      have v9 := fun d os => (v d os).2.2.2.2.2.2.2.2.2.1
      have u10 := fun d os => (u d os).2.2.2.2.2.2.2.2.2.2.1
      have v10 := fun d os => (v d os).2.2.2.2.2.2.2.2.2.2.1
      have u11 := fun d os => (u d os).2.2.2.2.2.2.2.2.2.2.2.1
      have v11 := fun d os => (v d os).2.2.2.2.2.2.2.2.2.2.2.1
      have u12 := fun d os => (u d os).2.2.2.2.2.2.2.2.2.2.2.2
      have v12 := fun d os => (v d os).2.2.2.2.2.2.2.2.2.2.2.2
      clear u v
      refine wp_region_quiet_below (by kernel_rfl) (by kernel_rfl) ?_
      repeat (go_big_quiet_step ((go_at_call 7; with_reducible exact Calls.regrown_of (C5.out _))))
      refine wpQuiet_nil ?_
      intro _ hw'
      obtain ⟨⟨dq, osq⟩, hw''⟩ := hw'
      subst hw''
      have hq := Lib.hid (h4'.out.trans ((below_regrown w5 dq osq).mono h4'.out.size))
      go_wp2
      go_ret
      exact ⟨rfl, hb.out.trans (hq.out.mono hb.out.size)⟩
end Go.Proofs.Ytapfkjdkpcgoiaa
