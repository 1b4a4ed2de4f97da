/- head.Write. -/
import Derived.Test.YtapfkjdkpcgoiaaDoorHrow
import Derived.Test.YtapfkjdkpcgoiaaDoorBlkh
import Derived.Test.YtapfkjdkpcgoiaaDoorWrk
import Derived.Test.YtapfkjdkpcgoiaaDoorHsl
import Derived.Sort.LoopGhostIn
import Derived.StillTailTactics
namespace Go.Proofs.YtapfkjdkpcgoiaaDoor
open Go.RowKit Go.Joins
set_option linter.unusedVariables false
set_option linter.unusedSimpArgs false

theorem row_keep {w w' : World} {B : Nat} {o : Obj} (hb : Below w.heap.size w w') (h : w.heap[B]? = some o) : w'.heap[B]? = some o := (hb.block B (Array.getElem?_eq_some_iff.1 h).1).trans h
theorem zeroBlock (w : World) : (zeroValue 58).run Tryd.prog w = .ok (.agg (Array.replicate 512 (.int .u8 0))) w := by kernel_rfl
theorem cut_hdr (W : World) (B : Nat) (a : Nat) (h : a < 512) : (Instr.sliceAt 58 (.pointer (some ⟨B, 0, none⟩)) (some (.int .i64 (a : Int))) none none).run Tryd.prog W = .ok (.slice (some ⟨B, a, none⟩) (512 - a) (512 - a)) W := by
  have hl : Tryd.prog.arrayLen 58 = 512 := by kernel_rfl
  have he : Tryd.prog.elem 58 = 5 := by kernel_rfl
  have hs : (sizeOf 5).run Tryd.prog W = .ok 1 W := by kernel_rfl
  have h1 := run_sliceAt_array_l (P := Tryd.prog) W 58 ⟨B, 0, none⟩ (by kernel_rfl) .i64 (a : Int) (by omega) (by rw [hl]; omega)
  rw [h1, he, hs, hl]
  simp [Result.andThen, slicedAt, Addr.add]
  rw [if_neg (by omega)]
  split <;> simp_all
/-- What writing a header comes to: the text, and the error's number. -/
inductive WriteIs : Int → RawL → List UInt8 → Int → Prop
  | arg (d : Int) (r : RawL) : (d < 1 ∨ 4 < d ∨ r.kind = 0) → WriteIs d r [] 1
  | range (d : Int) (r : RawL) : 1 ≤ d ∧ d ≤ 4 → r.kind ≠ 0 → ¬ goodL d.toNat r → WriteIs d r [] 2
  | ok (d : Int) (r : RawL) : 1 ≤ d → goodL d.toNat r → WriteIs d r (writeL d.toNat r) 0
def WritePost (d : Int) (r : RawL) (w : World) (e : Ending) (w' : World) : Prop := ∃ s k, WriteIs d r s k ∧ e = .returned (.tuple #[.string (mkS s), errV k]) ∧ Below w.heap.size w w'
theorem fail_text {d : Int} {r : RawL} (hd : 1 ≤ d ∧ d ≤ 4) (hk : r.kind ≠ 0) (k : Nat) (h5 : k < 5) (h : ¬ txtOk (tVal r k) (tSz k) = true) : WriteIs d r [] 2 :=
  .range d r hd hk fun g => h (txts_all.1 g.2.2.2.2 k h5)
theorem fail_num {d : Int} {r : RawL} (hd : 1 ≤ d ∧ d ≤ 4) (hk : r.kind ≠ 0) (k : Nat) (hm : k < nMany d.toNat) (h : ¬ numOk (nVal r k) (nSz k) (d.toNat == 3) = true) : WriteIs d r [] 2 :=
  .range d r hd hk fun g => h (nums_all.1 g.2.2.2.1 k hm)
theorem within_bears {d : Int} {r : RawL} (hd : 1 ≤ d ∧ d ≤ 4) : withinL d r = r ↔ bearsL d.toNat r := by
  obtain ⟨a0, a1, a2, a3, a4, a5, a6, a7, a8, a9, a10, a11, a12⟩ := r
  obtain rfl | rfl | rfl | rfl : d = 1 ∨ d = 2 ∨ d = 3 ∨ d = 4 := by omega
  · simp [withinL, bearsL, eq_comm]
  · simp [withinL, bearsL]
  · simp [withinL, bearsL, eq_comm]
  · simp [withinL, bearsL]
theorem write_done {d : Int} {r : RawL} (hd : 1 ≤ d ∧ d ≤ 4) (hk : r.kind ≠ 0) (hw : withinL d r = r) (ht : ∀ k, k < 5 → txtOk (tVal r k) (tSz k) = true) (hn : ∀ k, k < nMany d.toNat → numOk (nVal r k) (nSz k) (d.toNat == 3) = true) :
    sealL (hdrM d.toNat r) = writeL d.toNat r ∧ WriteIs d r (writeL d.toNat r) 0 := by
  have g : goodL d.toNat r := ⟨by omega, hk, (within_bears hd).1 hw, nums_all.2 hn, txts_all.2 ht⟩
  exact ⟨by rw [hdrM_body g.1 g.2.2.1 g.2.2.2.1 g.2.2.2.2]; exact seal_body (goodL.wide g.2.2.2.1 g.2.2.2.2), .ok d r hd.1 g⟩
theorem magic_any (d : Int) (hd : 1 ≤ d ∧ d ≤ 4) (w : World) :
    Calls Tryd.prog 33 #[.int .i64 d] w fun e w' => e = .returned (.string (mkS (magicP d.toNat))) ∧ Below w.heap.size w w' := by
  obtain rfl | rfl | rfl | rfl : d = 1 ∨ d = 2 ∨ d = 3 ∨ d = 4 := by omega
  all_goals
    go_enter Tryd.func33, Tryd.ntmps33
    go_wp2
    go_ret
    exact ⟨rfl, Below.refl _ _⟩
theorem index_any (S : List UInt8) : decide (0 ≤ Lib.indexByte S 0) = S.any (· == 0) := by
  induction S with
  | nil => rfl
  | cons b s ih =>
    rw [List.any_cons, ← ih, Lib.indexByte]
    by_cases h : b = 0
    · subst h; simp
    · have h1 : (b == 0) = false := by simpa using h
      rw [h1]
      by_cases h3 : Lib.indexByte s 0 = -1
      · rw [h3]; simp
      · have h4 : (Lib.indexByte s 0 == -1) = false := by simpa using h3
        rw [h4]
        simp only [Bool.false_eq_true, if_false, Bool.false_or]
        by_cases h5 : 0 ≤ Lib.indexByte s 0
        · rw [decide_eq_true h5, decide_eq_true (by omega)]
        · rw [decide_eq_false h5, decide_eq_false (by omega)]
theorem contains_zero (V : List UInt8) (w : World) :
    Calls Tryd.prog 22 #[.string (mkS V), .string ⟨#[0]⟩] w fun e w' => e = .returned (.bool (V.any (· == 0))) ∧ w' = w := by
  refine (Tryd.strings_Contains_one (mkS V) 0 w).mono fun e w' ⟨he, hw⟩ => ⟨?_, hw⟩
  rw [he, mkS_list, index_any]
theorem txt_zero {V : List UInt8} {n : Nat} {p : Prop} (h : txtOk V n = true) (hz : V.any (· == 0) = true) : p := by
  unfold txtOk at h
  rw [hz] at h
  simp at h
set_option maxRecDepth 100000 in
set_option maxHeartbeats 4000000 in
theorem write_fit (d : Int) (r : RawL) (hd : ¬ d < 1) (hd4 : ¬ 4 < d) (hk : r.kind ≠ 0) (w : World) (hw : withinL d r = r) (hz : ∀ k, k < 5 → (tVal r k).length ≤ 1000000) (hi : intsL r) :
    Calls Tryd.prog 10 #[.int .i64 d, rawV r] w (WritePost d r w) := by
  have FT := Lib.hid (fun k h5 h => fail_text (d := d) (r := r) ⟨by omega, by omega⟩ hk k h5 h)
  have FN := Lib.hid (fun k hm h => fail_num (d := d) (r := r) ⟨by omega, by omega⟩ hk k hm h)
  have OK := Lib.hid (write_done (d := d) (r := r) ⟨by omega, by omega⟩ hk hw)
  have hC := Lib.hid (RawAt.new w r 32)
  have hB := Lib.hid (below_alloc1 w (.cells (#[.string (mkS r.name), .string (mkS r.link), .string (mkS r.user), .string (mkS r.group), .string (mkS r.front), .int .u8 (r.kind.toNat : Int), .int .i64 r.mode, .int .i64 r.uid, .int .i64 r.gid, .int .i64 r.size, .int .i64 r.time, .int .i64 r.major, .int .i64 r.minor]) 32))
  have hlt := Lib.hid hC.out.lt
  have C1 := Lib.hid (fun w => withinRaw_any d r w)
  have C2 := Lib.hid (fun b w => texts_any b w)
  have C3 := Lib.hid contains_zero
  have Z := Lib.hid zeroBlock
  have hG := fun x y w => raw_guard .neq x y r r w
  have hN := fun w => raw_neq r r w
  rw [decide_eq_true rfl] at hN
  have hkk : ((r.kind.toNat : Int) == 0) = false := by
    rw [beq_eq_false_iff_ne]; intro e; exact hk (UInt8.toNat_inj.1 (by show r.kind.toNat = 0; omega))
  rw [hw] at C1
  clear hw hk
  unfold rawV at C1 hG hN ⊢
  go_enter Tryd.func10, Tryd.ntmps10
  go_wp2_with fail
  generalize (w.alloc (.cells #[.string (mkS r.name), .string (mkS r.link), .string (mkS r.user), .string (mkS r.group), .string (mkS r.front), .int .u8 (r.kind.toNat : Int), .int .i64 r.mode, .int .i64 r.uid, .int .i64 r.gid, .int .i64 r.size, .int .i64 r.time, .int .i64 r.major, .int .i64 r.minor] 32)) = w1 at *
  have qC := Lib.hid (fun d os => hC.out.regrown d os)
  have u : ∀ d os, RawAt (Sort.grow (redrawn w1 d) os) w.heap.size r := fun d os => qC.out d os
  unfold RawAt at u
  have u0 := fun d os => (u d os).1
  have u1 := fun d os => (u d os).2.1
  have u2 := fun d os => (u d os).2.2.1
  have u3 := fun d os => (u d os).2.2.2.1
  have u4 := fun d os => (u d os).2.2.2.2.1
  have u5 := fun d os => (u d os).2.2.2.2.2.1
  have u6 := fun d os => (u d os).2.2.2.2.2.2.1
  have u7 := fun d os => (u d os).2.2.2.2.2.2.2.1
  have u8 := fun d os => (u d os).2.2.2.2.2.2.2.2.1
  have u9 := fun d os => (u d os).2.2.2.2.2.2.2.2.2.1
  have u10 := fun d os => (u d os).2.2.2.2.2.2.2.2.2.2.1
  have u11 := fun d os => (u d os).2.2.2.2.2.2.2.2.2.2.2.1
  have u12 := fun d os => (u d os).2.2.2.2.2.2.2.2.2.2.2.2
  clear u
  refine wp_region_quiet_below (by kernel_rfl) (by kernel_rfl) ?_
  repeat (go_big_quiet_step ((go_at_call 29; with_reducible exact Calls.regrown_of (C1.out _))))
  refine wpQuiet_nil ?_
  intro _ hw'
  obtain ⟨⟨dq, osq⟩, hw''⟩ := hw'
  subst hw''
  have hB2 := Lib.hid (hB.out.trans ((below_regrown w1 dq osq).mono hB.out.size))
  have hC2 := Lib.hid (hC.out.regrown dq osq)
  clear u0 u1 u2 u3 u4 u5 u6 u7 u8 u9 u10 u11 u12 hB hC qC hG hN C1 hlt
  dsimp only at *
  generalize Sort.grow (redrawn w1 dq) osq = w2 at *
  clear osq dq
  have hR2 := Lib.hid (rowIs_new w2 58)
  have hB3 := Lib.hid (hB2.out.alloc hB2.out.size (.cells (Array.replicate 512 (.int .u8 0)) 58))
  have hC3 := Lib.hid (hC2.out.below ((Below.refl w2.heap.size w2).alloc (Nat.le_refl _) (.cells (Array.replicate 512 (.int .u8 0)) 58)) hC2.out.lt)
  have hBB := Lib.hid hB2.out.size
  have hbB := Lib.hid hC2.out.lt
  go_wp2_with (first
    | refine wpList_alloc_row rfl _ rfl _ (Z.out _) ?_
    | (go_at_call 30; (with_reducible refine (C2.out _ _).mono ?_); rintro e w3 ⟨rfl, h3⟩; have hR3 := Lib.hid (hR2.out.below h3); have hB4 := Lib.hid (hB3.out.trans (h3.mono hB3.out.size)); have hC4 := Lib.hid (hC3.out.below h3 hC3.out.lt); clear h3 hC3 hB3 hR2 hC2 hB2 C2 Z)
    | fail)
  generalize w2.heap.size = B at *
  have s0 := Lib.hid (show RowIs w3 B 58 (hdrT r 0) from hR3.out)
  clear hR3 w1 w2
  go_loopg [32] 5 (fun g s wr => ∃ k : Nat, k ≤ 5 ∧ 5 - k ≤ g ∧ s = .int .i64 (k : Int) ∧ Aside (Below w.heap.size w wr ∧ RawAt wr w.heap.size r ∧ RowIs wr B 58 (hdrT r k) ∧ (hdrT r k).length = 512 ∧ ∀ j, j < k → txtOk (tVal r j) (tSz j) = true))
  case atStart => exact ⟨0, by omega, by omega, rfl, (show Aside _ from ⟨hB4.out, hC4.out, s0.out, List.length_replicate, fun j hj => absurd hj (by omega)⟩)⟩
  case round =>
    obtain ⟨k, hk, hg, rfl, A⟩ := hrel
    by_cases hk5 : k < 5
    · have hix := fun W => txt_index w.heap.size W k hk5
      have hV0 := hz k hk5
      have hfit := tFit k hk5
      have hfit2 := tMin k hk5
      have hcell := Lib.hid (A.out.2.1.txt k hk5)
      have hW0 := A.out.1.size
      generalize hVe : tVal r k = V at hV0 hcell
      generalize hae : tAt k = a at hix hfit
      generalize hne : tSz k = n at hix hfit hfit2
      have hE := Lib.hid (And.intro hVe (And.intro hae hne))
      clear hVe hae hne
      have sV := mkS_size V
      go_wp2_with fail
      have hF := heap_alloc_new wr (.cells #[.pointer (some ⟨w.heap.size, k, none⟩), .int .i64 (a : Int), .int .i64 (n : Int)] 61)
      have hW := Lib.hid ((Below.refl wr.heap.size wr).alloc (Nat.le_refl _) (.cells #[.pointer (some ⟨w.heap.size, k, none⟩), .int .i64 (a : Int), .int .i64 (n : Int)] 61))
      have f0 : (wr.alloc (.cells #[.pointer (some ⟨w.heap.size, k, none⟩), .int .i64 (a : Int), .int .i64 (n : Int)] 61)).cell? ⟨wr.heap.size, 0, none⟩ = some (.pointer (some ⟨w.heap.size, k, none⟩)) := by simp only [World.cell?, hF]; rfl
      have f1 : (wr.alloc (.cells #[.pointer (some ⟨w.heap.size, k, none⟩), .int .i64 (a : Int), .int .i64 (n : Int)] 61)).cell? ⟨wr.heap.size, 1, none⟩ = some (.int .i64 (a : Int)) := by simp only [World.cell?, hF]; rfl
      have f2 : (wr.alloc (.cells #[.pointer (some ⟨w.heap.size, k, none⟩), .int .i64 (a : Int), .int .i64 (n : Int)] 61)).cell? ⟨wr.heap.size, 2, none⟩ = some (.int .i64 (n : Int)) := by simp only [World.cell?, hF]; rfl
      have f3 := (hW.out.cell (p := ⟨w.heap.size, k, none⟩) A.out.2.1.lt).trans hcell.out
      have hBW := Lib.hid (A.out.1.alloc A.out.1.size (.cells #[.pointer (some ⟨w.heap.size, k, none⟩), .int .i64 (a : Int), .int .i64 (n : Int)] 61))
      have hCW := Lib.hid (A.out.2.1.below hW.out A.out.2.1.lt)
      have hRW := Lib.hid (A.out.2.2.1.below hW.out)
      have hA2 := Lib.hid A.out.2.2.2
      clear A hF hcell
      generalize wr.alloc (.cells #[.pointer (some ⟨w.heap.size, k, none⟩), .int .i64 (a : Int), .int .i64 (n : Int)] 61) = W at *
      have g0 := fun d os => cell_regrown f0 d os
      have g1 := fun d os => cell_regrown f1 d os
      have g2 := fun d os => cell_regrown f2 d os
      have g3 := fun d os => cell_regrown f3 d os
      clear f0 f1 f2 f3
      have cz := C3.out V
      generalize hzV : V.any (· == 0) = z at cz
      have CZ := Lib.hid cz
      have HZ := Lib.hid hzV
      clear cz hzV
      by_cases hn : (n : Int) < (V.length : Int)
      · refine wp_region_quiet_below (by kernel_rfl) (by kernel_rfl) ?_
        repeat (go_big_quiet_step ((go_at_call 22; with_reducible exact Calls.regrown_of ((CZ.out _).mono fun e w' ⟨he, hw⟩ => ⟨he, by rw [hw]; exact Below.refl _ _⟩))))
        refine wpQuiet_nil ?_
        intro _ hw'
        obtain ⟨⟨dq, osq⟩, hw''⟩ := hw'
        subst hw''
        have hq := Lib.hid (hBW.out.trans ((below_regrown W dq osq).mono hBW.out.size))
        go_wp2
        go_ret2
        exact ⟨[], 2, FT.out k hk5 (by rw [hE.out.1, hE.out.2.2]; intro h; exact absurd (txtOk_iff.1 h).1 (by omega)), rfl, hq.out⟩
      · cases z with
        | true =>
          refine wp_region_quiet_below (by kernel_rfl) (by kernel_rfl) ?_
          repeat (go_big_quiet_step ((go_at_call 22; with_reducible exact Calls.regrown_of ((CZ.out _).mono fun e w' ⟨he, hw⟩ => ⟨he, by rw [hw]; exact Below.refl _ _⟩))))
          refine wpQuiet_nil ?_
          intro _ hw'
          obtain ⟨⟨dq, osq⟩, hw''⟩ := hw'
          subst hw''
          have hq := Lib.hid (hBW.out.trans ((below_regrown W dq osq).mono hBW.out.size))
          go_wp2
          go_ret2
          exact ⟨[], 2, FT.out k hk5 (by rw [hE.out.1, hE.out.2.2]; intro h; exact txt_zero h HZ.out), rfl, hq.out⟩
        | false =>
          refine wp_region_quiet_below (by kernel_rfl) (by kernel_rfl) ?_
          repeat (go_big_quiet_step ((go_at_call 22; with_reducible exact Calls.regrown_of ((CZ.out _).mono fun e w' ⟨he, hw⟩ => ⟨he, by rw [hw]; exact Below.refl _ _⟩))))
          refine wpQuiet_nil ?_
          intro _ hw'
          obtain ⟨⟨dq, osq⟩, hw''⟩ := hw'
          subst hw''
          have hBq := Lib.hid (hBW.out.trans ((below_regrown W dq osq).mono hBW.out.size))
          have hCq := Lib.hid (hCW.out.regrown dq osq)
          have hRq := Lib.hid (hRW.out.below (below_regrown W dq osq))
          have q0 := g0 dq osq
          have q1 := g1 dq osq
          have q3 := g3 dq osq
          clear g0 g1 g2 g3 hBW hCW hRW
          dsimp only at *
          generalize Sort.grow (redrawn W dq) osq = W2 at *
          clear dq osq
          go_wp2_with fail
          have hcut := fun W => cut_hdr W B a (by omega)
          go_still_tail 7, (by kernel_rfl)
          change wpList _ _ _ _ _ W2.drew
          have hBd := Lib.hid hBq.out.drew
          have hCd := Lib.hid (hCq.out.below (Below.refl _ _).drew hCq.out.lt)
          have hRd := Lib.hid (hRq.out.below (Below.refl _ _).drew)
          clear q0 q1 q3 hBq hCq hRq
          generalize W2.drew = W3 at *
          have hcp := run_copy_put (P := Tryd.prog) W3 42 9 3 5 B a (512 - a) (512 - a) V (hdrT r k) 58 Tryd.underlying42 (by kernel_rfl) hRd.out (by omega) (by rw [hA2.out.1]; omega)
          go_wp2
          go_roundg (5 - (k + 1))
          case measure => omega
          case rel =>
            have e : hdrT r (k + 1) = putAt (hdrT r k) a V := by rw [hdrT, hE.out.1, hE.out.2.1]
            have ok : txtOk V n = true := by
              unfold txtOk
              rw [Bool.and_eq_true, decide_eq_true_iff, HZ.out]
              exact ⟨by omega, rfl⟩
            refine ⟨k + 1, by omega, by omega, rfl, (show Aside _ from ⟨below_setRow hBd.out (Nat.le_of_lt hbB.out) _, hCd.out.setRow (Nat.ne_of_lt hbB.out) _, by rw [e]; exact rowIs_set hRd.out, by rw [e, putAt_length (by rw [hA2.out.1]; omega)]; exact hA2.out.1, fun j hj => ?_⟩)⟩
            by_cases hjk : j = k
            · subst hjk; rw [hE.out.1, hE.out.2.2]; exact ok
            · exact hA2.out.2 j (by omega)
    · obtain rfl : k = 5 := by omega
      have hBa := Lib.hid A.out.1
      have hCa := Lib.hid A.out.2.1
      have hRa := Lib.hid A.out.2.2.1
      have hLa := Lib.hid A.out.2.2.2
      clear A hz C3 s0 hB4 hC4
      obtain ⟨m, hm⟩ : ∃ m, nMany d.toNat = m := ⟨_, rfl⟩
      have hm7 : m ≤ 7 := by rw [← hm]; unfold nMany; split <;> omega
      have C4 := Lib.hid (numbers_any w.heap.size d m (by
        rw [← hm]; unfold nMany
        by_cases h1 : d = 1
        · exact Or.inl ⟨h1, by rw [if_pos (by omega)]⟩
        · exact Or.inr ⟨h1, by rw [if_neg (by omega)]⟩))
      have HM := Lib.hid hm
      clear hm
      go_wp2_with (first
        | (go_at_call 31; (with_reducible refine (C4.out _).mono ?_); rintro e w4 ⟨rfl, hN4, h4⟩; have hB4 := Lib.hid (hBa.out.trans (h4.mono hBa.out.size)); have hC4 := Lib.hid (hCa.out.below h4 hCa.out.lt); have hR4 := Lib.hid (hRa.out.below h4); have hNN := Lib.hid hN4; have hNb := Lib.hid hBa.out.size; have hBw := Lib.hid hRa.out.lt; clear h4 hN4 hBa hCa hRa C4)
        | fail)
      generalize wr.heap.size = NB at *
      obtain ⟨b, hb⟩ : ∃ b, (d == 3) = b := ⟨_, rfl⟩
      have hb2 : (d.toNat == 3) = b := by
        rw [← hb]
        by_cases h3 : d = 3
        · subst h3; rfl
        · have h4 : d.toNat ≠ 3 := by omega
          rw [beq_eq_false_iff_ne.2 h3, beq_eq_false_iff_ne.2 h4]
      have HB := Lib.hid hb2
      clear hb2
      have s0 := Lib.hid (show RowIs w4 B 58 (hdrN d.toNat r 0) from hR4.out)
      clear hR4
      go_loopg [63] 7 (fun g s wr => ∃ k : Nat, k ≤ m ∧ 7 - k ≤ g ∧ s = .int .i64 (k : Int) ∧ Aside (Below w.heap.size w wr ∧ RawAt wr w.heap.size r ∧ RowIs wr B 58 (hdrN d.toNat r k) ∧ (hdrN d.toNat r k).length = 512 ∧ wr.heap[NB]? = some (.cells (numRow w.heap.size) 97 (0, 0)) ∧ ∀ j, j < k → numOk (nVal r j) (nSz j) b = true))
      case atStart => exact ⟨0, by omega, by omega, rfl, (show Aside _ from ⟨hB4.out, hC4.out, s0.out, hLa.out.1, hNN.out, fun j hj => absurd hj (by omega)⟩)⟩
      case round =>
        obtain ⟨k, hk, hg, rfl, A⟩ := hrel
        by_cases hkm : k < m
        · have hk7 : k < 7 := by omega
          obtain ⟨x0, x1, x2⟩ := num_cells A.out.2.2.2.2.1 k hk7
          have hfit := nFit k hk7
          have hsz := nSz_is k hk7
          have hcell := Lib.hid (A.out.2.1.num k hk7)
          have hW0 := A.out.1.size
          have hi6 := nVal_i64 hi k hk7
          generalize hVe : nVal r k = V at hcell hi6
          generalize hae : nAt k = a at x1 hfit
          generalize hne : nSz k = n at x2 hfit hsz
          have hE := Lib.hid (And.intro hVe (And.intro hae hne))
          clear hVe hae hne
          go_wp2_with fail
          have hF := heap_alloc_new wr (.cells #[.pointer (some ⟨w.heap.size, 6 + k, none⟩), .int .i64 (a : Int), .int .i64 (n : Int)] 68)
          have hW := Lib.hid ((Below.refl wr.heap.size wr).alloc (Nat.le_refl _) (.cells #[.pointer (some ⟨w.heap.size, 6 + k, none⟩), .int .i64 (a : Int), .int .i64 (n : Int)] 68))
          have f0 : (wr.alloc (.cells #[.pointer (some ⟨w.heap.size, 6 + k, none⟩), .int .i64 (a : Int), .int .i64 (n : Int)] 68)).cell? ⟨wr.heap.size, 0, none⟩ = some (.pointer (some ⟨w.heap.size, 6 + k, none⟩)) := by simp only [World.cell?, hF]; rfl
          have f1 : (wr.alloc (.cells #[.pointer (some ⟨w.heap.size, 6 + k, none⟩), .int .i64 (a : Int), .int .i64 (n : Int)] 68)).cell? ⟨wr.heap.size, 1, none⟩ = some (.int .i64 (a : Int)) := by simp only [World.cell?, hF]; rfl
          have f2 : (wr.alloc (.cells #[.pointer (some ⟨w.heap.size, 6 + k, none⟩), .int .i64 (a : Int), .int .i64 (n : Int)] 68)).cell? ⟨wr.heap.size, 2, none⟩ = some (.int .i64 (n : Int)) := by simp only [World.cell?, hF]; rfl
          have f3 := (hW.out.cell (p := ⟨w.heap.size, 6 + k, none⟩) A.out.2.1.lt).trans hcell.out
          have hBW := Lib.hid (A.out.1.alloc A.out.1.size (.cells #[.pointer (some ⟨w.heap.size, 6 + k, none⟩), .int .i64 (a : Int), .int .i64 (n : Int)] 68))
          have hCW := Lib.hid (A.out.2.1.below hW.out A.out.2.1.lt)
          have hRW := Lib.hid (A.out.2.2.1.below hW.out)
          have hNW := Lib.hid (row_keep hW.out A.out.2.2.2.2.1)
          have hLW := Lib.hid A.out.2.2.2.1
          have hA2 := Lib.hid A.out.2.2.2.2.2
          clear A hF hcell x0 x1 x2
          generalize wr.alloc (.cells #[.pointer (some ⟨w.heap.size, 6 + k, none⟩), .int .i64 (a : Int), .int .i64 (n : Int)] 68) = W at *
          have g0 := fun d os => cell_regrown f0 d os
          have g1 := fun d os => cell_regrown f1 d os
          have g2 := fun d os => cell_regrown f2 d os
          have g3 := fun d os => cell_regrown f3 d os
          clear f0 f1 f2 f3
          by_cases ho : numOk V n b = true
          · have C5 := Lib.hid (fun w => write_nil V n b _ (wr_ok hsz ho) hi6.1 hi6.2 w)
            have hlen := numG_length (b := b) (n := V) (W := n) (by omega) ho
            have HO := Lib.hid ho
            obtain ⟨T, hT⟩ : ∃ T, numG V n b = T := ⟨_, rfl⟩
            rw [hT] at C5 hlen
            have HT := Lib.hid hT
            clear ho hT
            refine wp_region_quiet_below (by kernel_rfl) (by kernel_rfl) ?_
            repeat (go_big_quiet_step ((go_at_call 32; with_reducible exact Calls.regrown_of (C5.out _))))
            refine wpQuiet_nil ?_
            intro _ hw'
            obtain ⟨⟨dq, osq⟩, hw''⟩ := hw'
            subst hw''
            have hBq := Lib.hid (hBW.out.trans ((below_regrown W dq osq).mono hBW.out.size))
            have hCq := Lib.hid (hCW.out.regrown dq osq)
            have hRq := Lib.hid (hRW.out.below (below_regrown W dq osq))
            have hNq := Lib.hid (row_keep (below_regrown W dq osq) hNW.out)
            have q1 := g1 dq osq
            clear g0 g1 g2 g3 hBW hCW hRW hNW C5
            dsimp only at *
            generalize Sort.grow (redrawn W dq) osq = W2 at *
            clear dq osq
            have hcut := fun W => cut_hdr W B a (by omega)
            have hcp := run_copy_put (P := Tryd.prog) W2 42 9 3 5 B a (512 - a) (512 - a) T (hdrN d.toNat r k) 58 Tryd.underlying42 (by kernel_rfl) hRq.out (by omega) (by rw [hLW.out]; omega)
            go_wp2
            go_roundg (7 - (k + 1))
            case measure => omega
            case rel =>
              have e : hdrN d.toNat r (k + 1) = putAt (hdrN d.toNat r k) a T := by rw [hdrN, hE.out.1, hE.out.2.1, hE.out.2.2, HB.out, HT.out]
              refine ⟨k + 1, by omega, by omega, rfl, (show Aside _ from ⟨below_setRow hBq.out (Nat.le_of_lt hbB.out) _, hCq.out.setRow (Nat.ne_of_lt hbB.out) _, by rw [e]; exact rowIs_set hRq.out, by rw [e, putAt_length (by rw [hLW.out]; omega)]; exact hLW.out, by rw [setRow_other _ _ _ _ (Nat.ne_of_gt hBw.out)]; exact hNq.out, fun j hj => ?_⟩)⟩
              by_cases hjk : j = k
              · subst hjk; rw [hE.out.1, hE.out.2.2]; exact HO.out
              · exact hA2.out j (by omega)
          · have C5 := Lib.hid (fun w => write_err V n b 2 (by decide) _ (wr_no hsz ho) hi6.1 hi6.2 w)
            have HO := Lib.hid ho
            clear ho
            refine wp_region_quiet_below (by kernel_rfl) (by kernel_rfl) ?_
            repeat (go_big_quiet_step ((go_at_call 32; with_reducible exact Calls.regrown_of (C5.out _))))
            refine wpQuiet_nil ?_
            intro _ hw'
            obtain ⟨⟨dq, osq⟩, hw''⟩ := hw'
            subst hw''
            have hq := Lib.hid (hBW.out.trans ((below_regrown W dq osq).mono hBW.out.size))
            go_wp2
            go_ret2
            exact ⟨[], 2, FN.out k (by rw [HM.out]; exact hkm) (by rw [hE.out.1, hE.out.2.2, HB.out]; exact HO.out), rfl, hq.out⟩
        · obtain rfl : k = m := by omega
          have hBa := Lib.hid A.out.1
          have hCa := Lib.hid A.out.2.1
          have hRa := Lib.hid A.out.2.2.1
          have hLl := Lib.hid A.out.2.2.2.1
          have hLn := Lib.hid A.out.2.2.2.2.2
          clear A s0 hB4 hC4 hNN
          have c5 := hCa.out.2.2.2.2.2.1
          have cB := cell_of_row wr B 156 _ _ (0, 0) hRa.out
          rw [List.getElem?_toArray, List.getElem?_eq_getElem (by unfold Lib.byteCells; rw [List.length_map, hLl.out]; omega)] at cB
          generalize (Lib.byteCells (hdrN d.toNat r k))[156]'_ = v0 at cB
          have fB := frozen_of_row wr B 156 _ _ hRa.out
          have hset := rowIs_cell (i := 156) hRa.out r.kind
          have MG := Lib.hid (fun w => magic_any d ⟨by omega, by omega⟩ w)
          go_wp2_with fail
          have hKe : (hdrN d.toNat r k).set 156 r.kind = hdrK d.toNat r := by unfold hdrK; rw [HM.out]
          rw [hKe]
          have hRk := Lib.hid (rowIs_set (F' := hdrK d.toNat r) hRa.out)
          have hBk := Lib.hid (below_setRow hBa.out (Nat.le_of_lt hbB.out) (Lib.byteCells (hdrK d.toNat r)).toArray)
          have hLk := Lib.hid (show (hdrK d.toNat r).length = 512 by rw [← hKe, List.length_set]; exact hLl.out)
          clear c5 cB fB hset hBa hCa hRa hLl hKe
          generalize wr.setRow B (Lib.byteCells (hdrK d.toNat r)).toArray = W5 at *
          refine wp_region_held_drew (S := fun w' => Below w.heap.size w w' ∧ RowIs w' B 58 (hdrK d.toNat r) ∨ Below w.heap.size w w' ∧ RowIs w' B 58 (hdrM d.toNat r)) (by kernel_rfl) (Or.inl ⟨hBk.out.drew, hRk.out.below (Below.refl _ _).drew⟩) (fun hHeld => ?_)
          have hS1 := Lib.hid (show Below w.heap.size w W5.drew ∧ RowIs W5.drew B 58 (hdrK d.toNat r) from ⟨hBk.out.drew, hRk.out.below (Below.refl _ _).drew⟩)
          generalize W5.drew = W6 at *
          have hcut := fun W => cut_hdr W B 257 (by omega)
          refine take_to (i := 0) 91 (.slice (some ⟨B, 257, none⟩) (512 - 257) (512 - 257)) rfl rfl (by kernel_rfl) (by kernel_rfl) (by kernel_rfl) (fun _ _ _ h => h) (Or.inl ⟨by rfl, ?_⟩) hHeld ?_
          · (intro w hSw; clear hSw; go_simp; try with_reducible rfl)
          simp only [List.setIfInBounds_toArray, List.set_cons_succ, List.set_cons_zero]
          refine take_to (i := 1) 92 (.int .i64 d) rfl rfl (by kernel_rfl) (by kernel_rfl) (by kernel_rfl) (fun _ _ _ h => h) (Or.inl ⟨by rfl, fun _ _ => rfl⟩) hHeld ?_
          simp only [List.setIfInBounds_toArray, List.set_cons_succ, List.set_cons_zero]
          refine wpAnyH_ready (rs := [2]) (by kernel_rfl) (by simp) ?_
          refine AllReadyH.cons rfl (fun K hK => ?_) AllReadyH.nil
          go_simp
          go_at_call 33
          with_reducible refine (MG.out _).mono ?_
          rintro e w7 ⟨rfl, h7⟩
          have hS2 := Lib.hid (show Below w.heap.size w w7 ∧ RowIs w7 B 58 (hdrK d.toNat r) from ⟨hS1.out.1.trans (h7.mono hS1.out.1.size), hS1.out.2.below h7⟩)
          refine hK.out _ _ (Or.inl hS2.out) (fun hHeld => ?_)
          clear hK h7
          (try simp only [Act.put]); (try simp only [List.setIfInBounds_toArray]); (try simp only [List.set_cons_succ]); (try simp only [List.set_cons_zero])
          have hml : (magicP d.toNat).length ≤ 8 := by
            unfold magicP
            split
            · simp
            · rw [magicL_length]; exact Nat.le_refl _
          have hcp := run_copy_put (P := Tryd.prog) w7 42 9 3 5 B 257 (512 - 257) (512 - 257) (magicP d.toNat) (hdrK d.toNat r) 58 Tryd.underlying42 (by kernel_rfl) hS2.out.2 (by omega) (by rw [hLk.out]; omega)
          refine wpAnyH_ready (rs := [3]) (by kernel_rfl) (by simp) ?_
          refine AllReadyH.cons rfl (fun K hK => ?_) AllReadyH.nil
          go_simp
          have hS3 := Lib.hid (show Below w.heap.size w (w7.setRow B (Lib.byteCells (putAt (hdrK d.toNat r) 257 (magicP d.toNat))).toArray) ∧ RowIs (w7.setRow B (Lib.byteCells (putAt (hdrK d.toNat r) 257 (magicP d.toNat))).toArray) B 58 (hdrM d.toNat r) from ⟨below_setRow hS2.out.1 (Nat.le_of_lt hbB.out) _, rowIs_set hS2.out.2⟩)
          refine hK.out _ _ (Or.inr hS3.out) (fun hHeld => ?_)
          clear hK hcp hHeld
          generalize w7.setRow B (Lib.byteCells (putAt (hdrK d.toNat r) 257 (magicP d.toNat))).toArray = W8 at *
          refine wpAnyH_done (by kernel_rfl) ?_ _
          have hLM : (hdrM d.toNat r).length = 512 := by unfold hdrM; rw [putAt_length (by rw [hLk.out]; omega)]; exact hLk.out
          have hcv := rowIs_conv hS3.out.2 512 512 hLM
          have SL := Lib.hid (fun w => seal_mkS (hdrM d.toNat r) hLM w)
          obtain ⟨hM1, hM2⟩ := OK.out hLa.out.2 (fun j hj => by rw [HB.out]; exact hLn.out j (by rw [← HM.out]; exact hj))
          rw [hM1] at SL
          have HW := Lib.hid hM2
          clear hM1 hM2
          go_wp2_with (first
            | (go_at_call 34; (with_reducible refine (SL.out _).mono ?_); rintro e w9 ⟨rfl, h9⟩)
            | fail)
          go_ret2
          exact ⟨_, 0, HW.out, rfl, hS3.out.1.trans (h9.mono hS3.out.1.size)⟩
set_option maxHeartbeats 4000000 in
theorem write_arg (d : Int) (r : RawL) (h : d < 1 ∨ 4 < d ∨ r.kind = 0) (w : World) :
    Calls Tryd.prog 10 #[.int .i64 d, rawV r] w (WritePost d r w) := by
  have H := Lib.hid (WriteIs.arg d r h)
  have hB := Lib.hid (below_alloc1 w (.cells (#[.string (mkS r.name), .string (mkS r.link), .string (mkS r.user), .string (mkS r.group), .string (mkS r.front), .int .u8 (r.kind.toNat : Int), .int .i64 r.mode, .int .i64 r.uid, .int .i64 r.gid, .int .i64 r.size, .int .i64 r.time, .int .i64 r.major, .int .i64 r.minor]) 32))
  unfold rawV
  rcases h with h | h | h
  · go_enter Tryd.func10, Tryd.ntmps10
    go_wp2
    go_ret2
    exact ⟨[], 1, H.out, rfl, hB.out⟩
  · have h1 : ¬ d < 1 := by omega
    go_enter Tryd.func10, Tryd.ntmps10
    go_wp2
    go_ret2
    exact ⟨[], 1, H.out, rfl, hB.out⟩
  · have hk : ((r.kind.toNat : Int) == 0) = true := by rw [h]; rfl
    clear h
    go_enter Tryd.func10, Tryd.ntmps10
    by_cases h1 : d < 1
    · go_wp2
      go_ret2
      exact ⟨[], 1, H.out, rfl, hB.out⟩
    · by_cases h4 : 4 < d
      · go_wp2
        go_ret2
        exact ⟨[], 1, H.out, rfl, hB.out⟩
      · go_wp2
        go_ret2
        exact ⟨[], 1, H.out, rfl, hB.out⟩
set_option maxRecDepth 100000 in
set_option maxHeartbeats 4000000 in
theorem write_unfit (d : Int) (r : RawL) (hd : ¬ d < 1) (hd4 : ¬ 4 < d) (hk : r.kind ≠ 0) (w : World) (hw : ¬ withinL d r = r) :
    Calls Tryd.prog 10 #[.int .i64 d, rawV r] w (WritePost d r w) := by
  have H := Lib.hid (WriteIs.range d r ⟨by omega, by omega⟩ hk fun g => hw ((within_bears ⟨by omega, by omega⟩).2 g.2.2.1))
  have hC := Lib.hid (RawAt.new w r 32)
  have hB := Lib.hid (below_alloc1 w (.cells (#[.string (mkS r.name), .string (mkS r.link), .string (mkS r.user), .string (mkS r.group), .string (mkS r.front), .int .u8 (r.kind.toNat : Int), .int .i64 r.mode, .int .i64 r.uid, .int .i64 r.gid, .int .i64 r.size, .int .i64 r.time, .int .i64 r.major, .int .i64 r.minor]) 32))
  have C1 := Lib.hid (fun w => withinRaw_any d r w)
  have hG := fun x y w => raw_guard .neq x y (withinL d r) r w
  have hN := fun w => raw_neq (withinL d r) r w
  rw [decide_eq_false hw] at hN
  have hkk : ((r.kind.toNat : Int) == 0) = false := by
    rw [beq_eq_false_iff_ne]; intro e; exact hk (UInt8.toNat_inj.1 (by show r.kind.toNat = 0; omega))
  clear hw hk
  generalize withinL d r = q at *
  unfold rawV at C1 hG hN ⊢
  go_enter Tryd.func10, Tryd.ntmps10
  go_wp2_with fail
  generalize (w.alloc (.cells #[.string (mkS r.name), .string (mkS r.link), .string (mkS r.user), .string (mkS r.group), .string (mkS r.front), .int .u8 (r.kind.toNat : Int), .int .i64 r.mode, .int .i64 r.uid, .int .i64 r.gid, .int .i64 r.size, .int .i64 r.time, .int .i64 r.major, .int .i64 r.minor] 32)) = w1 at *
  have qC := Lib.hid (fun d os => hC.out.regrown d os)
  have u : ∀ d os, RawAt (Sort.grow (redrawn w1 d) os) w.heap.size r := fun d os => qC.out d os
  unfold RawAt at u
  have u0 := fun d os => (u d os).1
  have u1 := fun d os => (u d os).2.1
  have u2 := fun d os => (u d os).2.2.1
  have u3 := fun d os => (u d os).2.2.2.1
  have u4 := fun d os => (u d os).2.2.2.2.1
  have u5 := fun d os => (u d os).2.2.2.2.2.1
  have u6 := fun d os => (u d os).2.2.2.2.2.2.1
  have u7 := fun d os => (u d os).2.2.2.2.2.2.2.1
  have u8 := fun d os => (u d os).2.2.2.2.2.2.2.2.1
  have u9 := fun d os => (u d os).2.2.2.2.2.2.2.2.2.1
  have u10 := fun d os => (u d os).2.2.2.2.2.2.2.2.2.2.1
  have u11 := fun d os => (u d os).2.2.2.2.2.2.2.2.2.2.2.1
  have u12 := fun d os => (u d os).2.2.2.2.2.2.2.2.2.2.2.2
  clear u
  refine wp_region_quiet_below (by kernel_rfl) (by kernel_rfl) ?_
  repeat (go_big_quiet_step ((go_at_call 29; with_reducible exact Calls.regrown_of (C1.out _))))
  refine wpQuiet_nil ?_
  intro _ hw'
  obtain ⟨⟨dq, osq⟩, hw''⟩ := hw'
  subst hw''
  have hB2 := Lib.hid (hB.out.trans ((below_regrown w1 dq osq).mono hB.out.size))
  go_wp2
  go_ret2
  exact ⟨[], 2, H.out, rfl, hB2.out⟩
theorem write_any' (d : Int) (r : RawL) (hz : ∀ k, k < 5 → (tVal r k).length ≤ 1000000) (hi : intsL r) (w : World) :
    Calls Tryd.prog 10 #[.int .i64 d, rawV r] w (WritePost d r w) := by
  by_cases h1 : d < 1
  · exact write_arg d r (Or.inl h1) w
  · by_cases h4 : 4 < d
    · exact write_arg d r (Or.inr (Or.inl h4)) w
    · by_cases hk : r.kind = 0
      · exact write_arg d r (Or.inr (Or.inr hk)) w
      · by_cases hw : withinL d r = r
        · exact write_fit d r h1 h4 hk w hw hz hi
        · exact write_unfit d r h1 h4 hk w hw
end Go.Proofs.YtapfkjdkpcgoiaaDoor
