/- The law HeadBent: its walk. -/
import Derived.Test.YtapfkjdkpcgoiaaDoorLhbk
import Derived.Test.YtapfkjdkpcgoiaaDoorTell
namespace Go.Proofs.YtapfkjdkpcgoiaaDoor
open Go.RowKit Go.Joins
set_option linter.unusedVariables false
set_option linter.unusedSimpArgs false

theorem one_byte (c : UInt8) (w : World) : (convert 42 9 (.slice (some ⟨w.heap.size, 0, none⟩) 1 1)).run Tryd.prog (w.alloc (.cells #[.int .u8 (c.toNat : Int)] 5)).drew = .ok (.string (mkS [c])) (w.alloc (.cells #[.int .u8 (c.toNat : Int)] 5)).drew := by
  have h : RowIs (w.alloc (.cells #[.int .u8 (c.toNat : Int)] 5)).drew w.heap.size 5 [c] := heap_alloc_new w _
  exact rowIs_conv h 1 1 rfl
theorem write_poor' (d : Int) (r : RawL) (hl : r.name.length + r.link.length + r.user.length + r.group.length + r.front.length ≤ 1000000) (hg : ¬ (1 ≤ d ∧ goodL d.toNat r)) (hi : intsL r) :
    ∃ k, ∀ w, Calls Tryd.prog 10 #[.int .i64 d, rawV r] w fun e w' => e = .returned (.tuple #[.string (mkS []), .iface 25 (.int .i64 k)]) ∧ Below w.heap.size w w' := by
  by_cases ha : d < 1 ∨ 4 < d ∨ r.kind = 0
  · refine ⟨1, fun w => (write_any' d r (tVal_sum hl) hi w).mono fun e w' ⟨s, k, hI, he, hb⟩ => ?_⟩
    cases hI with
    | arg h => exact ⟨he, hb⟩
    | range h1 h2 h3 =>
      rcases ha with h | h | h
      · omega
      · omega
      · exact absurd h h2
    | ok h1 h2 => exact absurd ⟨h1, h2⟩ hg
  · refine ⟨2, fun w => (write_any' d r (tVal_sum hl) hi w).mono fun e w' ⟨s, k, hI, he, hb⟩ => ?_⟩
    cases hI with
    | arg h => exact absurd h ha
    | range h1 h2 h3 => exact ⟨he, hb⟩
    | ok h1 h2 => exact absurd ⟨h1, h2⟩ hg
theorem set_bent (T : List UInt8) (i : Nat) (c : UInt8) (h : i < T.length) : T.take i ++ [c] ++ T.drop (i + 1) = T.set i c := by
  rw [List.set_eq_take_append_cons_drop, if_pos h, List.append_assoc]; rfl
set_option maxRecDepth 100000 in
set_option maxHeartbeats 4000000 in
theorem headBent_at (a0 : Int) (r : RawL) (hi : intsL r) (hs : ¬ (600 : Int) < (r.name.length : Int) + r.link.length + r.user.length + r.group.length + r.front.length) (a2 : Int) (c : UInt8) (n A : Nat) (hA : A < 512) (hn : n < 504) (hAn : (A = n ∧ n < 148) ∨ (A = n + 8 ∧ 148 ≤ n)) (cq : ∀ w, Calls Tryd.prog 14 #[.int .i64 a2, .int .i64 504] w fun e w' => e = .returned (.int .i64 (n : Int)) ∧ w' = w) (p : Nat) (hp3 : p ≤ 3) (cp : ∀ w, Calls Tryd.prog 14 #[.int .i64 a0, .int .i64 4] w fun e w' => e = .returned (.int .i64 (p : Int)) ∧ w' = w) (hg : goodL (p + 1) r) (w : World) (hL : ErrLaid w) :
    Calls Tryd.prog 5 #[.int .i64 a0, rawV r, .int .i64 a2, .int .u8 (c.toNat : Int)] w fun e w' => e = .returned (.bool true) ∧ Below w.heap.size w w' := by
  have s0 := mkS_size r.name
  have s1 := mkS_size r.link
  have s2 := mkS_size r.user
  have s3 := mkS_size r.group
  have s4 := mkS_size r.front
  have hC := Lib.hid (RawAt.new w r 32)
  have hB := Lib.hid (below_alloc1 w (.cells (#[.string (mkS r.name), .string (mkS r.link), .string (mkS r.user), .string (mkS r.group), .string (mkS r.front), .int .u8 (r.kind.toNat : Int), .int .i64 r.mode, .int .i64 r.uid, .int .i64 r.gid, .int .i64 r.size, .int .i64 r.time, .int .i64 r.major, .int .i64 r.minor]) 32))
  have HL := Lib.hid hL
  have HO := Lib.hid headed_true
  have P := Lib.hid cp
  have Q := Lib.hid cq
  clear cp cq hL
  have C1 := Lib.hid (fun w => write_good (p + 1) r hg hi w)
  rw [one_more] at C1
  have hT := write_length hg
  have hbent := write_bent hg A c hA (by omega)
  have hR : ∃ q, (writeL (p + 1) r).set A c = writeL (p + 1) r ∧ (∀ w, Calls Tryd.prog 15 #[.string (mkS ((writeL (p + 1) r).set A c))] w fun e w' => e = .returned (.tuple #[rawV q, .int .i64 (asRead (p + 1) : Int), .nilIface]) ∧ Below w.heap.size w w') ∨
      (writeL (p + 1) r).set A c ≠ writeL (p + 1) r ∧ (∀ w, Calls Tryd.prog 15 #[.string (mkS ((writeL (p + 1) r).set A c))] w fun e w' => e = .returned (.tuple #[rawV q, .int .i64 0, .iface 25 (.int .i64 15)]) ∧ Below w.heap.size w w') := by
    by_cases he : (writeL (p + 1) r).set A c = writeL (p + 1) r
    · exact ⟨r, Or.inl ⟨he, fun w => by rw [he]; exact read_good (p + 1) r hg hi w⟩⟩
    · exact ⟨rawZ 0, Or.inr ⟨he, fun w => read_bent _ (by rw [List.length_set]; exact hT) (fun h => he (hbent.1 h)) w⟩⟩
  clear hbent hg
  generalize writeL (p + 1) r = T at *
  have hset := set_bent T A c (by omega)
  have z1 := fun w => mkS_upto T A (by omega) w
  have z2 := fun w => mkS_cat (T.take A) [c] (by rw [List.length_take]; simp; omega) w
  have z3 := fun w => mkS_onward T (A + 1) (by omega) w
  have z4 := fun w => mkS_cat (T.take A ++ [c]) (T.drop (A + 1)) (by rw [List.length_append, List.length_take, List.length_drop]; simp; omega) w
  rw [hset] at z4
  have hE := text_beq (T.set A c) T
  obtain ⟨q, hR⟩ := hR
  have hTs : (mkS T).size = 512 := by rw [mkS_size, hT]
  clear hset hT
  generalize hU : mkS (T.set A c) = U at *
  generalize mkS (T.take A ++ [c]) = S2 at *
  generalize mkS (T.take A) = S1 at *
  generalize mkS (T.drop (A + 1)) = S3 at *
  generalize hV : mkS T = V at *
  generalize hCC : mkS [c] = C at *
  have hcc := fun w => one_byte c w
  rw [hCC] at hcc
  unfold rawV at C1 hR ⊢
  clear hU hV hCC
  go_enter Tryd.func5, Tryd.ntmps5
  rcases hAn with ⟨rfl, h148⟩ | ⟨rfl, h148⟩
  · rw [show ((A + 1 : Nat) : Int) = (A : Int) + 1 by omega] at z3
    have hlt : (A : Int) < 148 := by omega
    go_wp2_with (first
      | (go_at_call 13; (with_reducible refine (HO.out _).mono ?_); rintro e w1 ⟨rfl, h1⟩; have hC1 := Lib.hid (hC.out.below h1 hC.out.lt); obtain ⟨c0, c1, c2, c3, c4, _⟩ := hC.out.below h1 hC.out.lt; have hB1 := Lib.hid (hB.out.trans (h1.mono hB.out.size)); clear h1)
      | fail)
    have qC := Lib.hid (fun d os => hC1.out.regrown d os)
    clear c0 c1 c2 c3 c4
    have u : ∀ d os, RawAt (Sort.grow (redrawn w1 d) os) w.heap.size r := fun d os => qC.out d os
    unfold RawAt at u
    have u0 := fun d os => (u d os).1
    have u1 := fun d os => (u d os).2.1
    have u2 := fun d os => (u d os).2.2.1
    have u3 := fun d os => (u d os).2.2.2.1
    have u4 := fun d os => (u d os).2.2.2.2.1
    have u5 := fun d os => (u d os).2.2.2.2.2.1
    have u6 := fun d os => (u d os).2.2.2.2.2.2.1
    have u7 := fun d os => (u d os).2.2.2.2.2.2.2.1
    have u8 := fun d os => (u d os).2.2.2.2.2.2.2.2.1
    have u9 := fun d os => (u d os).2.2.2.2.2.2.2.2.2.1
    have u10 := fun d os => (u d os).2.2.2.2.2.2.2.2.2.2.1
    have u11 := fun d os => (u d os).2.2.2.2.2.2.2.2.2.2.2.1
    have u12 := fun d os => (u d os).2.2.2.2.2.2.2.2.2.2.2.2
    clear u
    refine wp_region_quiet_below (by kernel_rfl) (by kernel_rfl) ?_
    repeat (go_big_quiet_step (first
      | (go_at_call 14; with_reducible exact Calls.regrown_of ((P.out _).mono fun e w' ⟨he, hw⟩ => ⟨he, by rw [hw]; exact Below.refl _ _⟩))
      | (go_at_call 10; with_reducible exact Calls.regrown_of (C1.out _))))
    refine wpQuiet_nil ?_
    intro _ hw'
    obtain ⟨⟨dq, osq⟩, hw''⟩ := hw'
    subst hw''
    have hB2 := Lib.hid (hB1.out.trans ((below_regrown w1 dq osq).mono hB1.out.size))
    clear u0 u1 u2 u3 u4 u5 u6 u7 u8 u9 u10 u11 u12 hB1 qC hC1
    dsimp only at *
    generalize Sort.grow (redrawn w1 dq) osq = w2 at *
    go_wp2_with (first
      | (go_at_call 14; (with_reducible refine (Q.out _).mono ?_); rintro e w' ⟨rfl, hw⟩; replace hw := hw.symm; subst hw)
      | fail)
    go_region
    all_goals
      have hbb := Lib.hid ((hB2.out.alloc hB2.out.size (.cells #[.int .u8 (c.toNat : Int)] 5)).drew)
      clear z1 z2 z3 z4 hcc
      generalize (w2.alloc (.cells #[.int .u8 (c.toNat : Int)] 5)).drew = w4 at *
      rcases hR with ⟨he, hR⟩ | ⟨he, hR⟩
      · have R := Lib.hid hR
        rw [decide_eq_true he] at hE
        clear hR he
        go_wp2_with (first
          | (go_at_call 15; (with_reducible refine (R.out _).mono ?_); rintro e w5 ⟨rfl, h5⟩; have hB5 := Lib.hid (hbb.out.trans (h5.mono hbb.out.size)); clear h5)
          | fail)
        go_ret
        exact ⟨by first | rfl | simp, hB5.out⟩
      · have R := Lib.hid hR
        rw [decide_eq_false he] at hE
        clear hR he
        go_wp2_with (first
          | (go_at_call 15; (with_reducible refine (R.out _).mono ?_); rintro e w5 ⟨rfl, h5⟩; have hB5 := Lib.hid (hbb.out.trans (h5.mono hbb.out.size)); clear h5)
          | (go_at_call 17; (with_reducible refine (tell_err 15 _ (HL.out.below hB5.out)).mono ?_); rintro e w6 ⟨rfl, h6⟩; have hB6 := Lib.hid (hB5.out.trans (h6.mono hB5.out.size)); clear h6)
          | fail)
        go_ret
        exact ⟨by first | rfl | simp, hB6.out⟩
  · rw [show ((n + 8 + 1 : Nat) : Int) = (n : Int) + 8 + 1 by omega] at z3
    rw [show ((n + 8 : Nat) : Int) = (n : Int) + 8 by omega] at z1
    have hge : ¬ (n : Int) < 148 := by omega
    have hge2 : (148 : Int) ≤ (n : Int) := by omega
    go_wp2_with (first
      | (go_at_call 13; (with_reducible refine (HO.out _).mono ?_); rintro e w1 ⟨rfl, h1⟩; have hC1 := Lib.hid (hC.out.below h1 hC.out.lt); obtain ⟨c0, c1, c2, c3, c4, _⟩ := hC.out.below h1 hC.out.lt; have hB1 := Lib.hid (hB.out.trans (h1.mono hB.out.size)); clear h1)
      | fail)
    have qC := Lib.hid (fun d os => hC1.out.regrown d os)
    clear c0 c1 c2 c3 c4
    have u : ∀ d os, RawAt (Sort.grow (redrawn w1 d) os) w.heap.size r := fun d os => qC.out d os
    unfold RawAt at u
    have u0 := fun d os => (u d os).1
    have u1 := fun d os => (u d os).2.1
    have u2 := fun d os => (u d os).2.2.1
    have u3 := fun d os => (u d os).2.2.2.1
    have u4 := fun d os => (u d os).2.2.2.2.1
    have u5 := fun d os => (u d os).2.2.2.2.2.1
    have u6 := fun d os => (u d os).2.2.2.2.2.2.1
    have u7 := fun d os => (u d os).2.2.2.2.2.2.2.1
    have u8 := fun d os => (u d os).2.2.2.2.2.2.2.2.1
    have u9 := fun d os => (u d os).2.2.2.2.2.2.2.2.2.1
    have u10 := fun d os => (u d os).2.2.2.2.2.2.2.2.2.2.1
    have u11 := fun d os => (u d os).2.2.2.2.2.2.2.2.2.2.2.1
    have u12 := fun d os => (u d os).2.2.2.2.2.2.2.2.2.2.2.2
    clear u
    refine wp_region_quiet_below (by kernel_rfl) (by kernel_rfl) ?_
    repeat (go_big_quiet_step (first
      | (go_at_call 14; with_reducible exact Calls.regrown_of ((P.out _).mono fun e w' ⟨he, hw⟩ => ⟨he, by rw [hw]; exact Below.refl _ _⟩))
      | (go_at_call 10; with_reducible exact Calls.regrown_of (C1.out _))))
    refine wpQuiet_nil ?_
    intro _ hw'
    obtain ⟨⟨dq, osq⟩, hw''⟩ := hw'
    subst hw''
    have hB2 := Lib.hid (hB1.out.trans ((below_regrown w1 dq osq).mono hB1.out.size))
    clear u0 u1 u2 u3 u4 u5 u6 u7 u8 u9 u10 u11 u12 hB1 qC hC1
    dsimp only at *
    generalize Sort.grow (redrawn w1 dq) osq = w2 at *
    go_wp2_with (first
      | (go_at_call 14; (with_reducible refine (Q.out _).mono ?_); rintro e w' ⟨rfl, hw⟩; replace hw := hw.symm; subst hw)
      | fail)
    go_region
    all_goals
      have hbb := Lib.hid ((hB2.out.alloc hB2.out.size (.cells #[.int .u8 (c.toNat : Int)] 5)).drew)
      clear z1 z2 z3 z4 hcc
      generalize (w2.alloc (.cells #[.int .u8 (c.toNat : Int)] 5)).drew = w4 at *
      rcases hR with ⟨he, hR⟩ | ⟨he, hR⟩
      · have R := Lib.hid hR
        rw [decide_eq_true he] at hE
        clear hR he
        go_wp2_with (first
          | (go_at_call 15; (with_reducible refine (R.out _).mono ?_); rintro e w5 ⟨rfl, h5⟩; have hB5 := Lib.hid (hbb.out.trans (h5.mono hbb.out.size)); clear h5)
          | fail)
        go_ret
        exact ⟨by first | rfl | simp, hB5.out⟩
      · have R := Lib.hid hR
        rw [decide_eq_false he] at hE
        clear hR he
        go_wp2_with (first
          | (go_at_call 15; (with_reducible refine (R.out _).mono ?_); rintro e w5 ⟨rfl, h5⟩; have hB5 := Lib.hid (hbb.out.trans (h5.mono hbb.out.size)); clear h5)
          | (go_at_call 17; (with_reducible refine (tell_err 15 _ (HL.out.below hB5.out)).mono ?_); rintro e w6 ⟨rfl, h6⟩; have hB6 := Lib.hid (hB5.out.trans (h6.mono hB5.out.size)); clear h6)
          | fail)
        go_ret
        exact ⟨by first | rfl | simp, hB6.out⟩
set_option maxRecDepth 100000 in
set_option maxHeartbeats 4000000 in
theorem headBent_walk (a0 : Int) (w0 : (Lit.int .i64 a0).wf = true) (r : RawL) (hi : intsL r) (hz : textsL r) (a2 : Int) (w2 : (Lit.int .i64 a2).wf = true) (a3 : Int) (w3 : (Lit.int .u8 a3).wf = true) (w : World) (hL : ErrLaid w) :
    Calls Tryd.prog 5 #[.int .i64 a0, rawV r, .int .i64 a2, .int .u8 a3] w fun e w' => e = .returned (.bool true) ∧ Below w.heap.size w w' := by
  obtain ⟨c, rfl⟩ := u8_of w3
  obtain ⟨p, hp3, hp⟩ := pick_fours a0
  obtain ⟨z0, z1, z2, z3, z4⟩ := hz
  have hrb := reachBytes_lt
  by_cases hs : (600 : Int) < (r.name.length : Int) + r.link.length + r.user.length + r.group.length + r.front.length
  · have s0 := mkS_size r.name
    have s1 := mkS_size r.link
    have s2 := mkS_size r.user
    have s3 := mkS_size r.group
    have s4 := mkS_size r.front
    have hC := Lib.hid (RawAt.new w r 32)
    have hB := Lib.hid (below_alloc1 w (.cells (#[.string (mkS r.name), .string (mkS r.link), .string (mkS r.user), .string (mkS r.group), .string (mkS r.front), .int .u8 (r.kind.toNat : Int), .int .i64 r.mode, .int .i64 r.uid, .int .i64 r.gid, .int .i64 r.size, .int .i64 r.time, .int .i64 r.major, .int .i64 r.minor]) 32))
    have HO := Lib.hid headed_true
    clear hL hp
    unfold rawV
    go_enter Tryd.func5, Tryd.ntmps5
    go_wp2_with (first
      | (go_at_call 13; (with_reducible refine (HO.out _).mono ?_); rintro e w1 ⟨rfl, h1⟩; obtain ⟨c0, c1, c2, c3, c4, _⟩ := hC.out.below h1 hC.out.lt; have hB1 := Lib.hid (hB.out.trans (h1.mono hB.out.size)); clear h1)
      | fail)
    go_ret
    exact ⟨rfl, hB1.out⟩
  · by_cases hg : goodL (p + 1) r
    · obtain ⟨p1, p2⟩ := pickF_range a2 504 (by omega)
      obtain ⟨n, hn⟩ := Int.eq_ofNat_of_zero_le p1
      have c1 := fun w => pick_any a2 504 w (by omega) (by omega)
      rw [hn] at c1
      by_cases h148 : n < 148
      · exact headBent_at a0 r hi hs a2 c n n (by omega) (by omega) (.inl ⟨rfl, h148⟩) c1 p hp3 hp hg w hL
      · exact headBent_at a0 r hi hs a2 c n (n + 8) (by omega) (by omega) (.inr ⟨rfl, by omega⟩) c1 p hp3 hp hg w hL
    · have C1 := Lib.hid (write_poor' (1 + (p : Int)) r (by omega) (fun h => hg (by have := h.2; rwa [show ((1 : Int) + (p : Int)).toNat = p + 1 by omega] at this)) hi)
      obtain ⟨k, C1⟩ := C1.out
      have C2 := Lib.hid C1
      have P := Lib.hid hp
      have s0 := mkS_size r.name
      have s1 := mkS_size r.link
      have s2 := mkS_size r.user
      have s3 := mkS_size r.group
      have s4 := mkS_size r.front
      have hC := Lib.hid (RawAt.new w r 32)
      have hB := Lib.hid (below_alloc1 w (.cells (#[.string (mkS r.name), .string (mkS r.link), .string (mkS r.user), .string (mkS r.group), .string (mkS r.front), .int .u8 (r.kind.toNat : Int), .int .i64 r.mode, .int .i64 r.uid, .int .i64 r.gid, .int .i64 r.size, .int .i64 r.time, .int .i64 r.major, .int .i64 r.minor]) 32))
      have HO := Lib.hid headed_true
      clear hL hp hg C1
      unfold rawV at C2 ⊢
      go_enter Tryd.func5, Tryd.ntmps5
      go_wp2_with (first
        | (go_at_call 13; (with_reducible refine (HO.out _).mono ?_); rintro e w1 ⟨rfl, h1⟩; have hC1 := Lib.hid (hC.out.below h1 hC.out.lt); obtain ⟨c0, c1, c2, c3, c4, _⟩ := hC.out.below h1 hC.out.lt; have hB1 := Lib.hid (hB.out.trans (h1.mono hB.out.size)); clear h1)
        | fail)
      have qC := Lib.hid (fun d os => hC1.out.regrown d os)
      clear c0 c1 c2 c3 c4
      have u : ∀ d os, RawAt (Sort.grow (redrawn w1 d) os) w.heap.size r := fun d os => qC.out d os
      unfold RawAt at u
      have u0 := fun d os => (u d os).1
      have u1 := fun d os => (u d os).2.1
      have u2 := fun d os => (u d os).2.2.1
      have u3 := fun d os => (u d os).2.2.2.1
      have u4 := fun d os => (u d os).2.2.2.2.1
      have u5 := fun d os => (u d os).2.2.2.2.2.1
      have u6 := fun d os => (u d os).2.2.2.2.2.2.1
      have u7 := fun d os => (u d os).2.2.2.2.2.2.2.1
      have u8 := fun d os => (u d os).2.2.2.2.2.2.2.2.1
      have u9 := fun d os => (u d os).2.2.2.2.2.2.2.2.2.1
      have u10 := fun d os => (u d os).2.2.2.2.2.2.2.2.2.2.1
      have u11 := fun d os => (u d os).2.2.2.2.2.2.2.2.2.2.2.1
      have u12 := fun d os => (u d os).2.2.2.2.2.2.2.2.2.2.2.2
      clear u
      refine wp_region_quiet_below (by kernel_rfl) (by kernel_rfl) ?_
      repeat (go_big_quiet_step (first
        | (go_at_call 14; with_reducible exact Calls.regrown_of ((P.out _).mono fun e w' ⟨he, hw⟩ => ⟨he, by rw [hw]; exact Below.refl _ _⟩))
        | (go_at_call 10; with_reducible exact Calls.regrown_of (C2.out _))))
      refine wpQuiet_nil ?_
      intro _ hw'
      obtain ⟨⟨dq, osq⟩, hw''⟩ := hw'
      subst hw''
      have hB2 := Lib.hid (hB1.out.trans ((below_regrown w1 dq osq).mono hB1.out.size))
      clear u0 u1 u2 u3 u4 u5 u6 u7 u8 u9 u10 u11 u12
      go_wp2
      go_ret
      exact ⟨rfl, hB2.out⟩
end Go.Proofs.YtapfkjdkpcgoiaaDoor
