/- The law HeadReads: its walk. -/
import Derived.Test.YtapfkjdkpcgoiaaGreatDoorRhr
import Derived.Test.YtapfkjdkpcgoiaaGreatDoorRof
import Derived.Test.YtapfkjdkpcgoiaaGreatDoorTell
namespace Go.Proofs.YtapfkjdkpcgoiaaGreatDoor
open Go.RowKit Go.Joins
set_option linter.unusedVariables false
set_option linter.unusedSimpArgs false

theorem ReadIs.unique {l : List UInt8} {q q' : RawL} {d d' k k' : Int} (h : ReadIs l q d k) (h' : ReadIs l q' d' k') : q = q' ∧ d = d' ∧ k = k' := by
  cases h with
  | form h =>
    cases h' with
    | form h' => exact ⟨rfl, rfl, rfl⟩
    | spoilt h' _ => exact absurd h' h
    | range h' _ => exact absurd h'.1 h
    | ok h' _ => exact absurd h'.1 h
  | spoilt h g =>
    cases h' with
    | form h' => exact absurd h h'
    | spoilt h' _ => exact ⟨rfl, rfl, rfl⟩
    | range h' _ => exact absurd h' g
    | ok h' _ => exact absurd h' g
  | range h g =>
    cases h' with
    | form h' => exact absurd h.1 h'
    | spoilt _ h' => exact absurd h h'
    | range _ _ => exact ⟨rfl, rfl, rfl⟩
    | ok _ h' => exact absurd h' g
  | ok h g =>
    cases h' with
    | form h' => exact absurd h.1 h'
    | spoilt _ h' => exact absurd h h'
    | range _ h' => exact absurd g h'
    | ok _ _ => exact ⟨rfl, rfl, rfl⟩
set_option maxHeartbeats 4000000 in
theorem refRead_form (l : List UInt8) (hl : l.length ≠ 512) (hb : l.length ≤ 1000000) (w : World) :
    Calls Tryz.prog 4 #[.string (mkS l)] w (RefPost l w) := by
  have s1 := mkS_size l
  have H := Lib.hid (ReadIs.form l hl)
  have hne' : ¬ (l.length : Int) = 512 := by omega
  have hne : ((l.length : Int) != 512) = true := by simpa using hne'
  clear hl
  go_enter Tryz.func4, Tryz.ntmps4
  go_wp2
  refine bodyPost_ret (v := .tuple #[rawV (rawZ 0), .int .i64 0, .int .i64 3]) (by simp [results, Tryz.results4, go_sem, rawV, rawZ, mkS_nil0]) rfl ?_
  exact ⟨_, _, _, H.out, rfl, below_alloc2 _ _ _⟩
set_option maxHeartbeats 4000000 in
theorem refRead_spoilt (l : List UInt8) (hl : l.length = 512) (hr : ¬ rightL l) (w : World) :
    Calls Tryz.prog 4 #[.string (mkS l)] w (RefPost l w) := by
  have s1 := mkS_size l
  have H := Lib.hid (ReadIs.spoilt l hl hr)
  have C1 := Lib.hid (fun w => refRight_mkS l false ⟨(fun h => by cases h), fun h => absurd h hr⟩ hl w)
  clear hr
  rw [hl] at s1
  have hZ0 := Lib.hid (show ((w.alloc (.cells #[.string (mkS l)] 9)).alloc (.cells #[.string ⟨#[]⟩, .string ⟨#[]⟩, .string ⟨#[]⟩, .string ⟨#[]⟩, .string ⟨#[]⟩, .int .u8 0, .int .i64 0, .int .i64 0, .int .i64 0, .int .i64 0, .int .i64 0, .int .i64 0, .int .i64 0] 23)).heap[w.heap.size + 1]? = some (.cells #[.string ⟨#[]⟩, .string ⟨#[]⟩, .string ⟨#[]⟩, .string ⟨#[]⟩, .string ⟨#[]⟩, .int .u8 0, .int .i64 0, .int .i64 0, .int .i64 0, .int .i64 0, .int .i64 0, .int .i64 0, .int .i64 0] 23 (0, 0)) by
    have := heap_alloc_new (w.alloc (.cells #[.string (mkS l)] 9)) (.cells #[.string ⟨#[]⟩, .string ⟨#[]⟩, .string ⟨#[]⟩, .string ⟨#[]⟩, .string ⟨#[]⟩, .int .u8 0, .int .i64 0, .int .i64 0, .int .i64 0, .int .i64 0, .int .i64 0, .int .i64 0, .int .i64 0] 23)
    rwa [show (w.alloc (.cells #[.string (mkS l)] 9)).heap.size = w.heap.size + 1 by simp] at this)
  have hB0 := Lib.hid (below_alloc2 w (.cells #[.string (mkS l)] 9) (.cells #[.string ⟨#[]⟩, .string ⟨#[]⟩, .string ⟨#[]⟩, .string ⟨#[]⟩, .string ⟨#[]⟩, .int .u8 0, .int .i64 0, .int .i64 0, .int .i64 0, .int .i64 0, .int .i64 0, .int .i64 0, .int .i64 0] 23))
  go_enter Tryz.func4, Tryz.ntmps4
  go_wp2_with (first
    | (go_at_call 8; (with_reducible refine (C1.out _).mono ?_); rintro e w1 ⟨rfl, h1⟩; have hB1 := Lib.hid (hB0.out.trans (h1.mono hB0.out.size)); have hZ1 := Lib.hid ((h1.block _ (Array.getElem?_eq_some_iff.1 hZ0.out).1).trans hZ0.out); clear h1)
    | refine wpList_store_row rfl _ _ _ rfl (w.heap.size + 1) #[.string ⟨#[]⟩, .string ⟨#[]⟩, .string ⟨#[]⟩, .string ⟨#[]⟩, .string ⟨#[]⟩, .int .u8 0, .int .i64 0, .int .i64 0, .int .i64 0, .int .i64 0, .int .i64 0, .int .i64 0, .int .i64 0] rfl rfl _ _ hZ1.out infoRef rfl (by kernel_rfl) ?_)
  refine bodyPost_ret (results_row3 rfl _ _ (w.heap.size + 1) _ _ _ _ rfl (setRow_heap _ _ _ #[.string ⟨#[]⟩, .string ⟨#[]⟩, .string ⟨#[]⟩, .string ⟨#[]⟩, .string ⟨#[]⟩, .int .u8 0, .int .i64 0, .int .i64 0, .int .i64 0, .int .i64 0, .int .i64 0, .int .i64 0, .int .i64 0] _ _ hZ1.out) Tryz.underlying23 rfl infoRef) rfl ?_
  exact ⟨_, _, _, H.out, rfl, below_setRow hB1.out (by omega) _⟩
theorem refRead_any2 (l : List UInt8) (hb : l.length ≤ 1000000) (w : World) :
    Calls Tryz.prog 4 #[.string (mkS l)] w (RefPost l w) := by
  by_cases hl : l.length = 512
  · by_cases hr : rightL l
    · refine refRead_right l hl hr _ _ rfl rfl ?_ w
      by_cases h2 : sub l 257 8 = magicL 2
      · left
        refine ⟨decide_eq_true h2, decide_eq_false ?_⟩
        rw [h2]; decide
      · right
        by_cases h3 : sub l 257 8 = magicL 3
        · left; exact ⟨decide_eq_false h2, decide_eq_true h3⟩
        · right; exact ⟨decide_eq_false h2, decide_eq_false h3⟩
    · exact refRead_spoilt l hl hr w
  · exact refRead_form l hl hb w
theorem bare_is (k : Int) (w : World) (hg : ErrLaid w) :
    Calls Tryz.prog 6 #[errV k, .int .i64 k] w fun e w' => e = .returned (.bool true) ∧ Below w.heap.size w w' := by
  unfold errV
  by_cases h : k = 0
  · rw [if_pos h, h]
    exact (bare_nil w).mono fun e w' ⟨he, hw⟩ => ⟨he, by rw [hw]; exact Below.refl _ _⟩
  · rw [if_neg h]
    exact bare_err k w hg
set_option maxRecDepth 100000 in
set_option maxHeartbeats 4000000 in
theorem headReads_walk (a0 : ByteArray) (z0 : a0.size ≤ reachBytes) (w : World) (hg : ErrLaid w) :
    Calls Tryz.prog 3 #[.string a0] w fun e w' => e = .returned (.bool true) ∧ Below w.heap.size w w' := by
  obtain ⟨l, rfl⟩ : ∃ k, a0 = mkS k := ⟨_, (mkS_self a0).symm⟩
  have s1 := mkS_size l
  rw [s1] at z0
  have hrb := reachBytes_lt
  by_cases h6 : (600 : Int) < (l.length : Int)
  · clear hg
    go_enter Tryz.func3, Tryz.ntmps3
    go_wp2
    go_ret
    exact ⟨rfl, Below.refl _ _⟩
  · have C1 := Lib.hid (fun w => refRead_any2 l (by omega) w)
    have C2 := Lib.hid (fun w => readRaw_any l (by omega) w)
    unfold RefPost at C1
    unfold ReadPost at C2
    have HG := Lib.hid hg
    clear hg
    go_enter Tryz.func3, Tryz.ntmps3
    go_wp2_with (first
      | (go_at_call 4; (with_reducible refine (C1.out _).mono ?_); rintro e w1 ⟨q, d, k, hI, rfl, h1⟩; unfold rawV; have HI := Lib.hid hI; have hB1 := Lib.hid (h1.alloc h1.size (.cells #[.string (mkS q.name), .string (mkS q.link), .string (mkS q.user), .string (mkS q.group), .string (mkS q.front), .int .u8 (q.kind.toNat : Int), .int .i64 q.mode, .int .i64 q.uid, .int .i64 q.gid, .int .i64 q.size, .int .i64 q.time, .int .i64 q.major, .int .i64 q.minor] 23)); have hQ1 := Lib.hid (RawAt.new w1 q 23); clear h1 hI)
      | (go_at_call 5; (with_reducible refine (C2.out _).mono ?_); rintro e w2 ⟨q2, d2, k2, hI, rfl, h2⟩; obtain ⟨rfl, rfl, rfl⟩ := HI.out.unique hI; clear hI; unfold rawV; have hB2 := Lib.hid ((hB1.out.trans (h2.mono hB1.out.size)).alloc (Nat.le_trans hB1.out.size h2.size) (.cells #[.string (mkS q.name), .string (mkS q.link), .string (mkS q.user), .string (mkS q.group), .string (mkS q.front), .int .u8 (q.kind.toNat : Int), .int .i64 q.mode, .int .i64 q.uid, .int .i64 q.gid, .int .i64 q.size, .int .i64 q.time, .int .i64 q.major, .int .i64 q.minor] 27)); have hQ2 := Lib.hid (hQ1.out.below (h2.alloc h2.size (.cells #[.string (mkS q.name), .string (mkS q.link), .string (mkS q.user), .string (mkS q.group), .string (mkS q.front), .int .u8 (q.kind.toNat : Int), .int .i64 q.mode, .int .i64 q.uid, .int .i64 q.gid, .int .i64 q.size, .int .i64 q.time, .int .i64 q.major, .int .i64 q.minor] 27)) hQ1.out.lt); have hD2 := Lib.hid (RawAt.new w2 q 27); clear h2)
      | fail)
    have C5 := Lib.hid (rawOf_any q)
    have hE := fun w => raw_eql q q w
    have hG := fun x y w => raw_guard .eql x y q q w
    rw [decide_eq_true rfl] at hE
    unfold rawV at C5 hE hG
    generalize (w2.alloc (.cells #[.string (mkS q.name), .string (mkS q.link), .string (mkS q.user), .string (mkS q.group), .string (mkS q.front), .int .u8 (q.kind.toNat : Int), .int .i64 q.mode, .int .i64 q.uid, .int .i64 q.gid, .int .i64 q.size, .int .i64 q.time, .int .i64 q.major, .int .i64 q.minor] 27)) = w5 at *
    have HG5 := HG.out.below hB2.out
    have C6 := Lib.hid (fun d os => bare_is k (Sort.grow (redrawn w5 d) os) (HG5.below (below_regrown w5 d os)))
    have qC := Lib.hid (fun d os => hQ2.out.regrown d os)
    have qD := Lib.hid (fun d os => hD2.out.regrown d os)
    have u : ∀ d os, RawAt (Sort.grow (redrawn w5 d) os) w1.heap.size q := fun d os => qC.out d os
    have v : ∀ d os, RawAt (Sort.grow (redrawn w5 d) os) w2.heap.size q := fun d os => qD.out d os
    unfold RawAt at u v
    have u0 := fun d os => (u d os).1
    have u1 := fun d os => (u d os).2.1
    have u2 := fun d os => (u d os).2.2.1
    have u3 := fun d os => (u d os).2.2.2.1
    have u4 := fun d os => (u d os).2.2.2.2.1
    have u5 := fun d os => (u d os).2.2.2.2.2.1
    have u6 := fun d os => (u d os).2.2.2.2.2.2.1
    have u7 := fun d os => (u d os).2.2.2.2.2.2.2.1
    have u8 := fun d os => (u d os).2.2.2.2.2.2.2.2.1
    have u9 := fun d os => (u d os).2.2.2.2.2.2.2.2.2.1
    have u10 := fun d os => (u d os).2.2.2.2.2.2.2.2.2.2.1
    have u11 := fun d os => (u d os).2.2.2.2.2.2.2.2.2.2.2.1
    have u12 := fun d os => (u d os).2.2.2.2.2.2.2.2.2.2.2.2
    have v0 := fun d os => (v d os).1
    have v1 := fun d os => (v d os).2.1
    have v2 := fun d os => (v d os).2.2.1
    have v3 := fun d os => (v d os).2.2.2.1
    have v4 := fun d os => (v d os).2.2.2.2.1
    have v5 := fun d os => (v d os).2.2.2.2.2.1
    have v6 := fun d os => (v d os).2.2.2.2.2.2.1
    have v7 := fun d os => (v d os).2.2.2.2.2.2.2.1
    have v8 := fun d os => (v d os).2.2.2.2.2.2.2.2.1
    have v9 := fun d os => (v d os).2.2.2.2.2.2.2.2.2.1
    have v10 := fun d os => (v d os).2.2.2.2.2.2.2.2.2.2.1
    have v11 := fun d os => (v d os).2.2.2.2.2.2.2.2.2.2.2.1
    have v12 := fun d os => (v d os).2.2.2.2.2.2.2.2.2.2.2.2
    clear u v
    refine wp_region_quiet_below (by kernel_rfl) (by kernel_rfl) ?_
    repeat (go_big_quiet_step (first
      | (go_at_call 7; with_reducible exact Calls.regrown_of (C5.out _))
      | (go_at_call 6; with_reducible exact Calls.regrown_of (C6.out _ _))))
    refine wpQuiet_nil ?_
    intro _ hw'
    obtain ⟨⟨dq, osq⟩, hw''⟩ := hw'
    subst hw''
    have hq := Lib.hid (hB2.out.trans ((below_regrown w5 dq osq).mono hB2.out.size))
    go_wp2
    go_ret
    exact ⟨rfl, hq.out⟩
end Go.Proofs.YtapfkjdkpcgoiaaGreatDoor
