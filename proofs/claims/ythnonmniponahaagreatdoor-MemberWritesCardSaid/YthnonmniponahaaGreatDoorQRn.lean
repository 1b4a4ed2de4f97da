/- Rn: what the texts of the name hold, joined. -/
import Derived.Test.YthnonmniponahaaGreatDoorQGh
import Derived.Test.YthnonmniponahaaGreatDoorQPt
import Derived.Test.YthnonmniponahaaGreatDoorQWr
import Derived.Test.YthnonmniponahaaGreatDoorQOo
import Derived.Test.YthnonmniponahaaGreatDoorQBr
set_option linter.unusedSimpArgs false
set_option linter.unusedVariables false
section
/- The reference's gnu. -/
namespace Go.Proofs.YthnonmniponahaaGreatDoor
open Go.RowKit Go.Joins
set_option linter.unusedVariables false
set_option linter.unusedSimpArgs false

theorem refWhole_at (D : Int) (d : Nat) (hD : D = (d : Int)) (hd : 1 ≤ d ∧ d ≤ 4) (r : RawL) (n link data : List UInt8) (hk : r.kind ≠ 0) (hn : n.length ≤ 1000000) (hl : link.length ≤ 1000000) (hu : r.user.length ≤ 1000000) (hg : r.group.length ≤ 1000000) (hdt : data.length ≤ 50000) (hi : intsL r) (w : World) :
    Calls Tryz.prog 89 #[.int .i64 D, rawV r, .string (mkS n), .string (mkS link), .string (mkS data)] w fun e w' => e = .returned (.tuple #[.string (mkS (wholeF d r n link data).1), Value.int .i64 (wholeF d r n link data).2]) ∧ Below w.heap.size w w' := by
  subst hD
  exact refWhole_any d hd r n link data hk hn hl hu hg hdt hi w
theorem idx_kv (w : World) (b off n cap k : Nat) (h : k < n) : (Instr.indexAt 217 (.slice (some ⟨b, off, none⟩) n cap) (.int .i64 (k : Int))).run Tryz.prog w = .ok (.pointer (some ⟨b, off + k * 2, none⟩)) w := by
  have he : Tryz.prog.elem 217 = 216 := by kernel_rfl
  rw [run_indexAt_slice w 217 _ _ _ _ _ (by rw [he]; exact Tryz.underlying217), if_pos ⟨by omega, by omega⟩, he]
  have hs : (sizeOf 216).run Tryz.prog w = .ok 2 w := by rw [sizeOf]; go_simp; kernel_rfl
  rw [hs]
  simp [Result.andThen, Go.WideShapes.add_plain]
/-- What stands while gnu runs: the header's box, the member's box, the list of the two texts. -/
structure GnS (w : World) (e : EntL) (v : Value) (cs : Array Value) (B : Nat) (ps : Array Value) (W : World) : Prop where
  below : Below w.heap.size w W
  raw : W.heap[w.heap.size]? = some (.cells cs 67 (0, 0))
  ent : EntAt W (w.heap.size + 1) e v
  lst : W.heap[B]? = some (.cells ps 216 (0, 0))
theorem GnS.next {w W W' : World} {e : EntL} {v : Value} {cs ps : Array Value} {B : Nat} (h : GnS w e v cs B ps W) (hb : Below W.heap.size W W') : GnS w e v cs B ps W' :=
  ⟨h.below.trans (hb.mono h.below.size), (hb.block _ (Array.getElem?_eq_some_iff.1 h.raw).1).trans h.raw, h.ent.below hb h.ent.lt, (hb.block _ (Array.getElem?_eq_some_iff.1 h.lst).1).trans h.lst⟩
theorem EntAt.of_block {w w' : World} {b : Nat} {e : EntL} {v : Value} (h : EntAt w b e v) (hb : w'.heap[b]? = w.heap[b]?) : EntAt w' b e v := by
  have k : ∀ i, w'.cell? ⟨b, i, none⟩ = w.cell? ⟨b, i, none⟩ := fun i => World.cell?_of_block (w := w) hb
  unfold EntAt at h ⊢
  simp only [k]
  exact h
theorem GnS.store {w W : World} {e : EntL} {v : Value} {cs ps : Array Value} {B : Nat} (h : GnS w e v cs B ps W) (i : Nat) (x : Value) : GnS w e v (cs.setIfInBounds i x) B ps (W.setCell ⟨w.heap.size, i, none⟩ x) := by
  obtain ⟨h1, h2⟩ := setCell_row (i := i) (v := x) h.raw
  refine ⟨h2 _ (Nat.le_refl _) _ h.below, h1, h.ent.of_block (Below.heap_setCell W ⟨w.heap.size, i, none⟩ x _ (Nat.succ_ne_self _)), (Below.heap_setCell W ⟨w.heap.size, i, none⟩ x B (fun hB => ?_)).trans h.lst⟩
  have h3 := h.lst
  rw [show B = w.heap.size from hB, h.raw] at h3
  simp only [Option.some.injEq, Obj.cells.injEq] at h3
  exact absurd h3.2.1 (by decide)
def twoT (a b : List UInt8) : Nat → List UInt8
  | 0 => []
  | 1 => a
  | _ => a ++ b
theorem flag_char (b : Bool) (w : World) : ∃ F : Int, (∀ W, Calls Tryz.prog 125 #[.bool b] W fun e w' => e = .returned (.int .i64 F) ∧ Below W.heap.size W w') ∧ (∀ W, Calls Tryz.prog 162 #[.int .i64 F] W fun e w' => e = .returned (.string (mkS [if b then 1 else 0])) ∧ Below W.heap.size W w') := by
  cases b with
  | true => exact ⟨1, fun W => (one_any true W).mono fun e w' h => ⟨by first | exact h.1 | (rw [h.1]; rfl), by first | exact h.2 | (rw [h.2]; exact Below.refl _ _)⟩, fun W => (char_any 1 W (by omega) (by omega)).mono fun e w' h => ⟨by rw [h.1]; rfl, h.2⟩⟩
  | false => exact ⟨0, fun W => (one_any false W).mono fun e w' h => ⟨by first | exact h.1 | (rw [h.1]; rfl), by first | exact h.2 | (rw [h.2]; exact Below.refl _ _)⟩, fun W => (char_any 0 W (by omega) (by omega)).mono fun e w' h => ⟨by rw [h.1]; rfl, h.2⟩⟩
theorem refLong (k : UInt8) (K : Int) (hK : K = (k.toNat : Int)) (hk : k ≠ 0) (t : List UInt8) (ht : t.length ≤ 2000) (hl : 100 < t.length) (w : World) :
    Calls Tryz.prog 89 #[.int .i64 3, .agg #[.string ⟨#[]⟩, .string ⟨#[]⟩, .string ⟨#[]⟩, .string ⟨#[]⟩, .string ⟨#[]⟩, .int .u8 K, .int .i64 0, .int .i64 0, .int .i64 0, .int .i64 ((t.length : Int) + 1), .int .i64 0, .int .i64 0, .int .i64 0], .string ⟨#[46, 47, 46, 47, 64, 76, 111, 110, 103, 76, 105, 110, 107]⟩, .string ⟨#[]⟩, .string (mkS (t ++ [0]))] w fun e w' => e = .returned (.tuple #[.string (mkS (longF k t)), .int .i64 0]) ∧ Below w.heap.size w w' := by
  subst hK
  have h := refWhole_at 3 3 rfl (by decide) (rawK k ((t.length : Int) + 1)) longName [] (t ++ [0]) hk (by decide) (by decide) (show ([] : List UInt8).length ≤ 1000000 by decide) (show ([] : List UInt8).length ≤ 1000000 by decide) (by rw [List.length_append, List.length_singleton]; omega) (by unfold intsL rawK i64; dsimp only; omega) w
  rw [wholeLong k hk _ (by omega) (by omega)] at h
  have h2 : longF k t = writeL 3 (rawLong k (t.length + 1)) ++ fillL (t ++ [0]) := by unfold longF; rw [if_pos (by omega)]
  rw [← h2] at h
  exact h
theorem long_none (k : UInt8) (t : List UInt8) (hl : ¬ 100 < t.length) : longF k t = [] := by unfold longF; rw [if_neg hl]
set_option maxRecDepth 100000 in
set_option maxHeartbeats 16000000 in
theorem refGnu_dense_ok (e : EntL) (hk : e.kind ≠ 0) (ad : Option Addr) (cap : Nat) (ho : Held e) (hl : e.link.length ≤ 1000) (hn : e.name.length ≤ 1000) (hdl : e.data.length ≤ 5000) (hsp : sparseE e = false) (h0 : e.nano = 0) (X : List UInt8) (hX : gnuX e = (X, 0)) (w : World) :
    Calls Tryz.prog 86 #[rawV (rawE e), entV e (.slice ad e.map.length cap), .string (mkS (storedE e))] w fun r w' => r = .returned (.tuple #[.string (mkS (longF 75 e.link ++ longF 76 (storedE e) ++ X)), .int .i64 0]) ∧ Below w.heap.size w w' := by
  have hdt : e.data.length ≤ 9223372036854775807 := by have := ho.data; omega
  have CP := Lib.hid (fun w => refSparse_any e ad cap hdt w)
  have hsl := storedE_len e
  have hri := ho.raw
  have CK1 := Lib.hid (fun (h : (100 : Int) < (e.link.length : Int)) W => refLong 75 75 (by decide) (by decide) e.link (by omega) (by omega) W)
  have CK2 := Lib.hid (fun (h : (100 : Int) < ((storedE e).length : Int)) W => refLong 76 76 (by decide) (by decide) (storedE e) (by omega) (by omega) W)
  have CN1 := Lib.hid (fun (h : (e.link.length : Int) ≤ 100) => long_none 75 e.link (by omega))
  have CN2 := Lib.hid (fun (h : ((storedE e).length : Int) ≤ 100) => long_none 76 (storedE e) (by omega))
  have CC1 := Lib.hid (fun W => cutTo_any (storedE e) (by omega) W)
  have CC2 := Lib.hid (fun W => cutTo_any e.link (by omega) W)
  have hXX : gnuX e = wholeF 3 { rawE e with kind := e.kind } ((storedE e).take 100) (e.link.take 100) e.data := by unfold gnuX gnuRaw; rw [if_neg (by rw [hsp]; decide)]; rfl
  have CW := Lib.hid (fun w => refWhole_at 3 3 rfl (by decide) { rawE e with kind := e.kind } ((storedE e).take 100) (e.link.take 100) e.data (by first | exact hk | (show (83 : UInt8) ≠ 0; decide)) (by rw [List.length_take]; omega) (by rw [List.length_take]; omega) (by have := ho.user; show e.user.length ≤ _; omega) (by have := ho.group; show e.group.length ≤ _; omega) (by have := ho.data; omega) hri w)
  have hXl : X.length ≤ 6200 := by have h := whole_len 3 { rawE e with kind := e.kind } ((storedE e).take 100) (e.link.take 100) e.data; rw [← hXX, hX] at h; dsimp only at h; omega
  rw [← hXX, hX] at CW
  clear hXX hX
  have HLP := Lib.hid (show (longF 75 e.link).length ≤ 5000 ∧ (longF 76 (storedE e)).length ≤ 5000 from ⟨longF_le _ (by decide) _ (by omega), longF_le _ (by decide) _ (by omega)⟩)
  have hE := EntAt.new (w.alloc (.cells (rawC (rawE e)) 67)) e (.slice ad e.map.length cap) 28
  have hz1 : (w.alloc (.cells (rawC (rawE e)) 67)).heap.size = w.heap.size + 1 := Array.size_push ..
  have hb1' := below_alloc1 w (.cells (rawC (rawE e)) 67)
  have hb2' := below_alloc1 (w.alloc (.cells (rawC (rawE e)) 67)) (.cells (entC e (.slice ad e.map.length cap)) 28)
  have hr0 : (w.alloc (.cells (rawC (rawE e)) 67)).heap[w.heap.size]? = some (.cells (rawC (rawE e)) 67 (0, 0)) := heap_alloc_new w _
  have hr1 := (hb2'.block _ (by rw [hz1]; exact Nat.lt_succ_self _)).trans hr0
  rw [hz1] at hE
  have HB1 := Lib.hid (hb1'.trans (hb2'.mono (by rw [hz1]; exact Nat.le_succ _)))
  have HE1 := Lib.hid hE
  have HR1 := Lib.hid hr1
  clear hE hz1 hb1' hb2' hr0 hr1 ho hri
  unfold entC rawC at HB1 HE1 HR1
  unfold entV at CP ⊢
  unfold rawV at CW ⊢
  rw [hsp] at CP
  generalize longF 75 e.link = P1 at *
  generalize longF 76 (storedE e) = P2 at *
  generalize (storedE e).take 100 = SN at *
  generalize e.link.take 100 = LK at *
  generalize storedE e = ST at *
  generalize e.map.length = n at *
  rw [h0] at HB1 HE1 HR1 CP ⊢
  have HEn := Lib.hid h0
  go_enter Tryz.func86, Tryz.ntmps86
  go_upto_region 1 with fail
  generalize (World.alloc (World.alloc w _) _) = W2 at *
  obtain ⟨c0, c1, c2, c3, c4, c5, c6, c7, c8, c9, c10, c11, c12, c13, c14⟩ := id HE1.out
  rw [HEn.out] at c7
  go_upto_region 4 with fail
  have hls : (W2.alloc (.cells #[.int .u8 75, .string (mkS e.link), .int .u8 76, .string (mkS ST)] 216)).heap[W2.heap.size]? = some (.cells #[.int .u8 75, .string (mkS e.link), .int .u8 76, .string (mkS ST)] 216 (0, 0)) := heap_alloc_new W2 _
  have hbl := below_alloc1 W2 (.cells #[.int .u8 75, .string (mkS e.link), .int .u8 76, .string (mkS ST)] 216)
  have HG := Lib.hid (show GnS w e (.slice ad n cap) _ W2.heap.size _ (W2.alloc (.cells #[.int .u8 75, .string (mkS e.link), .int .u8 76, .string (mkS ST)] 216)) from ⟨HB1.out.trans (hbl.mono HB1.out.size), (hbl.block _ (Array.getElem?_eq_some_iff.1 HR1.out).1).trans HR1.out, HE1.out.below hbl HE1.out.lt, hls⟩)
  clear hls hbl HB1 HE1 HR1
  go_wp2_with fail
  generalize (W2.alloc _) = W3 at *
  generalize W2.heap.size = B at *
  clear c0 c1 c2 c3 c4 c5 c6 c7 c8 c9 c10 c11 c12 c13 c14
  go_loopg [32, 8] 2 (fun g s32 s8 wr => ∃ i : Nat, i ≤ 2 ∧ 2 - i ≤ g ∧ s32 = .int .i64 (i : Int) ∧ s8 = .string (mkS (twoT P1 P2 i)) ∧ Aside (GnS w e (.slice ad n cap) #[.string (mkS (rawE e).name), .string (mkS (rawE e).link), .string (mkS (rawE e).user), .string (mkS (rawE e).group), .string (mkS (rawE e).front), .int .u8 ((rawE e).kind.toNat : Int), .int .i64 (rawE e).mode, .int .i64 (rawE e).uid, .int .i64 (rawE e).gid, .int .i64 (rawE e).size, .int .i64 (rawE e).time, .int .i64 (rawE e).major, .int .i64 (rawE e).minor] B #[.int .u8 75, .string (mkS e.link), .int .u8 76, .string (mkS ST)] wr))
  case atStart => exact ⟨0, by omega, by omega, rfl, rfl, HG.out⟩
  case round =>
    obtain ⟨i, hi, hg, rfl, rfl, A⟩ := hrel
    obtain rfl | rfl | rfl : i = 0 ∨ i = 1 ∨ i = 2 := by omega
    · -- round 0
      have l0 := row_cell A.out.lst 0 _ rfl
      have l1 := row_cell A.out.lst 1 _ rfl
      have hix := fun W => idx_kv W B 0 2 2 0 (by omega)
      simp only [Nat.zero_mul, Nat.one_mul, Nat.zero_add, Int.natCast_zero, Int.natCast_one, Int.ofNat_zero, Int.ofNat_one] at hix
      have hkx := mkS_size e.link
      have HW := Lib.hid (A.out.next (below_alloc1 wr (.cells #[.int .u8 75, .string (mkS e.link)] 216)))
      by_cases hlt : (100 : Int) < (e.link.length : Int)
      · have CK := Lib.hid (CK1.out hlt)
        have k0 : ∀ W, (Op.stringOp .add (mkS e.link) (⟨#[0]⟩ : ByteArray)).run Tryz.prog W = .ok (.string (mkS (e.link ++ [0]))) W := fun W => mkS_cat e.link [0] (by rw [List.length_singleton]; omega) W
        have k1 := fun W => mkS_cat (twoT P1 P2 0) P1 (by have := HLP.out; show ([] : List UInt8).length + _ ≤ _; (try simp only [List.length_append, List.length_nil]); omega) W
        go_wp2_with (first
          | (go_at_call 89; (with_reducible refine (CK.out _).mono ?_); rintro r w3 ⟨rfl, h3⟩; have HX := Lib.hid (HW.out.next h3); clear h3)
          | fail)
        go_roundg 1
        case measure => omega
        case rel => exact ⟨1, by omega, by omega, by first | rfl | simp, by first | rfl | simp [twoT], HX.out⟩
      · have hP : P1 = [] := CN1.out (by omega)
        go_wp2_with fail
        go_roundg 1
        case measure => omega
        case rel => exact ⟨1, by omega, by omega, by first | rfl | simp, by first | (simp [twoT, hP]) | (rw [hP]; rfl), HW.out⟩
    · -- round 1
      have l0 := row_cell A.out.lst 2 _ rfl
      have l1 := row_cell A.out.lst 3 _ rfl
      have hix := fun W => idx_kv W B 0 2 2 1 (by omega)
      simp only [Nat.zero_mul, Nat.one_mul, Nat.zero_add, Int.natCast_zero, Int.natCast_one, Int.ofNat_zero, Int.ofNat_one] at hix
      have hkx := mkS_size ST
      have HW := Lib.hid (A.out.next (below_alloc1 wr (.cells #[.int .u8 76, .string (mkS ST)] 216)))
      by_cases hlt : (100 : Int) < (ST.length : Int)
      · have CK := Lib.hid (CK2.out hlt)
        have k0 : ∀ W, (Op.stringOp .add (mkS ST) (⟨#[0]⟩ : ByteArray)).run Tryz.prog W = .ok (.string (mkS (ST ++ [0]))) W := fun W => mkS_cat ST [0] (by rw [List.length_singleton]; omega) W
        have k1 := fun W => mkS_cat (twoT P1 P2 1) P2 (by have := HLP.out; show (P1 : List UInt8).length + _ ≤ _; (try simp only [List.length_append, List.length_nil]); omega) W
        go_wp2_with (first
          | (go_at_call 89; (with_reducible refine (CK.out _).mono ?_); rintro r w3 ⟨rfl, h3⟩; have HX := Lib.hid (HW.out.next h3); clear h3)
          | fail)
        go_roundg 0
        case measure => omega
        case rel => exact ⟨2, by omega, by omega, by first | rfl | simp, by first | rfl | simp [twoT], HX.out⟩
      · have hP : P2 = [] := CN2.out (by omega)
        go_wp2_with fail
        go_roundg 0
        case measure => omega
        case rel => exact ⟨2, by omega, by omega, by first | rfl | simp, by first | (simp [twoT, hP]) | (rw [hP]; rfl), HW.out⟩
    · -- behind the long texts
      have HG3 := Lib.hid A.out
      clear A HG CK1 CK2 CN1 CN2
      obtain ⟨c0, c1, c2, c3, c4, c5, c6, c7, c8, c9, c10, c11, c12, c13, c14⟩ := id HG3.out.ent
      go_upto_region 14 with (first
        | (go_at_call 88; (with_reducible refine (CP.out _).mono ?_); rintro r w4 ⟨rfl, h3⟩; have HG4 := Lib.hid (HG3.out.next h3); clear h3 c0 c1 c2 c3 c4 c5 c6 c7 c8 c9 c10 c11 c12 c13 c14)
        | fail)
      obtain ⟨c0, c1, c2, c3, c4, c5, c6, c7, c8, c9, c10, c11, c12, c13, c14⟩ := id HG4.out.ent
      obtain ⟨r0, r1, r2, r3, r4, r5, r6, r7, r8, r9, r10, r11, r12⟩ := id (show RawAt w4 w.heap.size { rawE e with kind := e.kind } from RawAt.of_row HG4.out.raw)
      have v8 := fun d os => cell_regrown c8 d os
      have v13 := fun d os => cell_regrown c13 d os
      have x0 := fun d os => cell_regrown r0 d os
      have x1 := fun d os => cell_regrown r1 d os
      have x2 := fun d os => cell_regrown r2 d os
      have x3 := fun d os => cell_regrown r3 d os
      have x4 := fun d os => cell_regrown r4 d os
      have x5 := fun d os => cell_regrown r5 d os
      have x6 := fun d os => cell_regrown r6 d os
      have x7 := fun d os => cell_regrown r7 d os
      have x8 := fun d os => cell_regrown r8 d os
      have x9 := fun d os => cell_regrown r9 d os
      have x10 := fun d os => cell_regrown r10 d os
      have x11 := fun d os => cell_regrown r11 d os
      have x12 := fun d os => cell_regrown r12 d os
      clear c0 c1 c2 c3 c4 c5 c6 c7 c8 c9 c10 c11 c12 c13 c14 r0 r1 r2 r3 r4 r5 r6 r7 r8 r9 r10 r11 r12
      refine wp_region_quiet_below (by kernel_rfl) (by kernel_rfl) ?_
      repeat (go_big_quiet_step (first
        | (go_at_call 158; with_reducible exact Calls.regrown_of (CC1.out _))
        | (go_at_call 158; with_reducible exact Calls.regrown_of (CC2.out _))
        | (go_at_call 89; with_reducible exact Calls.regrown_of (CW.out _))))
      refine wpQuiet_nil ?_
      intro _ hw'
      obtain ⟨⟨dq, osq⟩, hw''⟩ := hw'
      subst hw''
      have hq := Lib.hid (HG4.out.next (below_regrown _ dq osq)).below
      dsimp only at *
      generalize Sort.grow (redrawn _ dq) osq = w6 at *
      have KX := fun W => mkS_cat (twoT P1 P2 2) X (by have := HLP.out; show (P1 ++ P2).length + _ ≤ _; rw [List.length_append]; omega) W
      go_wp2_with fail
      try go_ret2
      exact ⟨rfl, hq.out⟩
set_option maxRecDepth 100000 in
set_option maxHeartbeats 16000000 in
theorem refGnu_dense_bad (e : EntL) (hk : e.kind ≠ 0) (ad : Option Addr) (cap : Nat) (ho : Held e) (hl : e.link.length ≤ 1000) (hn : e.name.length ≤ 1000) (hdl : e.data.length ≤ 5000) (hsp : sparseE e = false) (h0 : e.nano = 0) (hX : gnuX e = ([], 2)) (w : World) :
    Calls Tryz.prog 86 #[rawV (rawE e), entV e (.slice ad e.map.length cap), .string (mkS (storedE e))] w fun r w' => r = .returned (.tuple #[.string ⟨#[]⟩, .int .i64 2]) ∧ Below w.heap.size w w' := by
  have hdt : e.data.length ≤ 9223372036854775807 := by have := ho.data; omega
  have CP := Lib.hid (fun w => refSparse_any e ad cap hdt w)
  have hsl := storedE_len e
  have hri := ho.raw
  have CK1 := Lib.hid (fun (h : (100 : Int) < (e.link.length : Int)) W => refLong 75 75 (by decide) (by decide) e.link (by omega) (by omega) W)
  have CK2 := Lib.hid (fun (h : (100 : Int) < ((storedE e).length : Int)) W => refLong 76 76 (by decide) (by decide) (storedE e) (by omega) (by omega) W)
  have CN1 := Lib.hid (fun (h : (e.link.length : Int) ≤ 100) => long_none 75 e.link (by omega))
  have CN2 := Lib.hid (fun (h : ((storedE e).length : Int) ≤ 100) => long_none 76 (storedE e) (by omega))
  have CC1 := Lib.hid (fun W => cutTo_any (storedE e) (by omega) W)
  have CC2 := Lib.hid (fun W => cutTo_any e.link (by omega) W)
  have hXX : gnuX e = wholeF 3 { rawE e with kind := e.kind } ((storedE e).take 100) (e.link.take 100) e.data := by unfold gnuX gnuRaw; rw [if_neg (by rw [hsp]; decide)]; rfl
  have CW := Lib.hid (fun w => refWhole_at 3 3 rfl (by decide) { rawE e with kind := e.kind } ((storedE e).take 100) (e.link.take 100) e.data (by first | exact hk | (show (83 : UInt8) ≠ 0; decide)) (by rw [List.length_take]; omega) (by rw [List.length_take]; omega) (by have := ho.user; show e.user.length ≤ _; omega) (by have := ho.group; show e.group.length ≤ _; omega) (by have := ho.data; omega) hri w)
  rw [← hXX, hX] at CW
  clear hXX hX
  have HLP := Lib.hid (show (longF 75 e.link).length ≤ 5000 ∧ (longF 76 (storedE e)).length ≤ 5000 from ⟨longF_le _ (by decide) _ (by omega), longF_le _ (by decide) _ (by omega)⟩)
  have hE := EntAt.new (w.alloc (.cells (rawC (rawE e)) 67)) e (.slice ad e.map.length cap) 28
  have hz1 : (w.alloc (.cells (rawC (rawE e)) 67)).heap.size = w.heap.size + 1 := Array.size_push ..
  have hb1' := below_alloc1 w (.cells (rawC (rawE e)) 67)
  have hb2' := below_alloc1 (w.alloc (.cells (rawC (rawE e)) 67)) (.cells (entC e (.slice ad e.map.length cap)) 28)
  have hr0 : (w.alloc (.cells (rawC (rawE e)) 67)).heap[w.heap.size]? = some (.cells (rawC (rawE e)) 67 (0, 0)) := heap_alloc_new w _
  have hr1 := (hb2'.block _ (by rw [hz1]; exact Nat.lt_succ_self _)).trans hr0
  rw [hz1] at hE
  have HB1 := Lib.hid (hb1'.trans (hb2'.mono (by rw [hz1]; exact Nat.le_succ _)))
  have HE1 := Lib.hid hE
  have HR1 := Lib.hid hr1
  clear hE hz1 hb1' hb2' hr0 hr1 ho hri
  unfold entC rawC at HB1 HE1 HR1
  unfold entV at CP ⊢
  unfold rawV at CW ⊢
  rw [hsp] at CP
  generalize longF 75 e.link = P1 at *
  generalize longF 76 (storedE e) = P2 at *
  generalize (storedE e).take 100 = SN at *
  generalize e.link.take 100 = LK at *
  generalize storedE e = ST at *
  generalize e.map.length = n at *
  rw [h0] at HB1 HE1 HR1 CP ⊢
  have HEn := Lib.hid h0
  try simp only [show mkS [] = ⟨#[]⟩ from rfl] at CW
  go_enter Tryz.func86, Tryz.ntmps86
  go_upto_region 1 with fail
  generalize (World.alloc (World.alloc w _) _) = W2 at *
  obtain ⟨c0, c1, c2, c3, c4, c5, c6, c7, c8, c9, c10, c11, c12, c13, c14⟩ := id HE1.out
  rw [HEn.out] at c7
  go_upto_region 4 with fail
  have hls : (W2.alloc (.cells #[.int .u8 75, .string (mkS e.link), .int .u8 76, .string (mkS ST)] 216)).heap[W2.heap.size]? = some (.cells #[.int .u8 75, .string (mkS e.link), .int .u8 76, .string (mkS ST)] 216 (0, 0)) := heap_alloc_new W2 _
  have hbl := below_alloc1 W2 (.cells #[.int .u8 75, .string (mkS e.link), .int .u8 76, .string (mkS ST)] 216)
  have HG := Lib.hid (show GnS w e (.slice ad n cap) _ W2.heap.size _ (W2.alloc (.cells #[.int .u8 75, .string (mkS e.link), .int .u8 76, .string (mkS ST)] 216)) from ⟨HB1.out.trans (hbl.mono HB1.out.size), (hbl.block _ (Array.getElem?_eq_some_iff.1 HR1.out).1).trans HR1.out, HE1.out.below hbl HE1.out.lt, hls⟩)
  clear hls hbl HB1 HE1 HR1
  go_wp2_with fail
  generalize (W2.alloc _) = W3 at *
  generalize W2.heap.size = B at *
  clear c0 c1 c2 c3 c4 c5 c6 c7 c8 c9 c10 c11 c12 c13 c14
  go_loopg [32, 8] 2 (fun g s32 s8 wr => ∃ i : Nat, i ≤ 2 ∧ 2 - i ≤ g ∧ s32 = .int .i64 (i : Int) ∧ s8 = .string (mkS (twoT P1 P2 i)) ∧ Aside (GnS w e (.slice ad n cap) #[.string (mkS (rawE e).name), .string (mkS (rawE e).link), .string (mkS (rawE e).user), .string (mkS (rawE e).group), .string (mkS (rawE e).front), .int .u8 ((rawE e).kind.toNat : Int), .int .i64 (rawE e).mode, .int .i64 (rawE e).uid, .int .i64 (rawE e).gid, .int .i64 (rawE e).size, .int .i64 (rawE e).time, .int .i64 (rawE e).major, .int .i64 (rawE e).minor] B #[.int .u8 75, .string (mkS e.link), .int .u8 76, .string (mkS ST)] wr))
  case atStart => exact ⟨0, by omega, by omega, rfl, rfl, HG.out⟩
  case round =>
    obtain ⟨i, hi, hg, rfl, rfl, A⟩ := hrel
    obtain rfl | rfl | rfl : i = 0 ∨ i = 1 ∨ i = 2 := by omega
    · -- round 0
      have l0 := row_cell A.out.lst 0 _ rfl
      have l1 := row_cell A.out.lst 1 _ rfl
      have hix := fun W => idx_kv W B 0 2 2 0 (by omega)
      simp only [Nat.zero_mul, Nat.one_mul, Nat.zero_add, Int.natCast_zero, Int.natCast_one, Int.ofNat_zero, Int.ofNat_one] at hix
      have hkx := mkS_size e.link
      have HW := Lib.hid (A.out.next (below_alloc1 wr (.cells #[.int .u8 75, .string (mkS e.link)] 216)))
      by_cases hlt : (100 : Int) < (e.link.length : Int)
      · have CK := Lib.hid (CK1.out hlt)
        have k0 : ∀ W, (Op.stringOp .add (mkS e.link) (⟨#[0]⟩ : ByteArray)).run Tryz.prog W = .ok (.string (mkS (e.link ++ [0]))) W := fun W => mkS_cat e.link [0] (by rw [List.length_singleton]; omega) W
        have k1 := fun W => mkS_cat (twoT P1 P2 0) P1 (by have := HLP.out; show ([] : List UInt8).length + _ ≤ _; (try simp only [List.length_append, List.length_nil]); omega) W
        go_wp2_with (first
          | (go_at_call 89; (with_reducible refine (CK.out _).mono ?_); rintro r w3 ⟨rfl, h3⟩; have HX := Lib.hid (HW.out.next h3); clear h3)
          | fail)
        go_roundg 1
        case measure => omega
        case rel => exact ⟨1, by omega, by omega, by first | rfl | simp, by first | rfl | simp [twoT], HX.out⟩
      · have hP : P1 = [] := CN1.out (by omega)
        go_wp2_with fail
        go_roundg 1
        case measure => omega
        case rel => exact ⟨1, by omega, by omega, by first | rfl | simp, by first | (simp [twoT, hP]) | (rw [hP]; rfl), HW.out⟩
    · -- round 1
      have l0 := row_cell A.out.lst 2 _ rfl
      have l1 := row_cell A.out.lst 3 _ rfl
      have hix := fun W => idx_kv W B 0 2 2 1 (by omega)
      simp only [Nat.zero_mul, Nat.one_mul, Nat.zero_add, Int.natCast_zero, Int.natCast_one, Int.ofNat_zero, Int.ofNat_one] at hix
      have hkx := mkS_size ST
      have HW := Lib.hid (A.out.next (below_alloc1 wr (.cells #[.int .u8 76, .string (mkS ST)] 216)))
      by_cases hlt : (100 : Int) < (ST.length : Int)
      · have CK := Lib.hid (CK2.out hlt)
        have k0 : ∀ W, (Op.stringOp .add (mkS ST) (⟨#[0]⟩ : ByteArray)).run Tryz.prog W = .ok (.string (mkS (ST ++ [0]))) W := fun W => mkS_cat ST [0] (by rw [List.length_singleton]; omega) W
        have k1 := fun W => mkS_cat (twoT P1 P2 1) P2 (by have := HLP.out; show (P1 : List UInt8).length + _ ≤ _; (try simp only [List.length_append, List.length_nil]); omega) W
        go_wp2_with (first
          | (go_at_call 89; (with_reducible refine (CK.out _).mono ?_); rintro r w3 ⟨rfl, h3⟩; have HX := Lib.hid (HW.out.next h3); clear h3)
          | fail)
        go_roundg 0
        case measure => omega
        case rel => exact ⟨2, by omega, by omega, by first | rfl | simp, by first | rfl | simp [twoT], HX.out⟩
      · have hP : P2 = [] := CN2.out (by omega)
        go_wp2_with fail
        go_roundg 0
        case measure => omega
        case rel => exact ⟨2, by omega, by omega, by first | rfl | simp, by first | (simp [twoT, hP]) | (rw [hP]; rfl), HW.out⟩
    · -- behind the long texts
      have HG3 := Lib.hid A.out
      clear A HG CK1 CK2 CN1 CN2
      obtain ⟨c0, c1, c2, c3, c4, c5, c6, c7, c8, c9, c10, c11, c12, c13, c14⟩ := id HG3.out.ent
      go_upto_region 14 with (first
        | (go_at_call 88; (with_reducible refine (CP.out _).mono ?_); rintro r w4 ⟨rfl, h3⟩; have HG4 := Lib.hid (HG3.out.next h3); clear h3 c0 c1 c2 c3 c4 c5 c6 c7 c8 c9 c10 c11 c12 c13 c14)
        | fail)
      obtain ⟨c0, c1, c2, c3, c4, c5, c6, c7, c8, c9, c10, c11, c12, c13, c14⟩ := id HG4.out.ent
      obtain ⟨r0, r1, r2, r3, r4, r5, r6, r7, r8, r9, r10, r11, r12⟩ := id (show RawAt w4 w.heap.size { rawE e with kind := e.kind } from RawAt.of_row HG4.out.raw)
      have v8 := fun d os => cell_regrown c8 d os
      have v13 := fun d os => cell_regrown c13 d os
      have x0 := fun d os => cell_regrown r0 d os
      have x1 := fun d os => cell_regrown r1 d os
      have x2 := fun d os => cell_regrown r2 d os
      have x3 := fun d os => cell_regrown r3 d os
      have x4 := fun d os => cell_regrown r4 d os
      have x5 := fun d os => cell_regrown r5 d os
      have x6 := fun d os => cell_regrown r6 d os
      have x7 := fun d os => cell_regrown r7 d os
      have x8 := fun d os => cell_regrown r8 d os
      have x9 := fun d os => cell_regrown r9 d os
      have x10 := fun d os => cell_regrown r10 d os
      have x11 := fun d os => cell_regrown r11 d os
      have x12 := fun d os => cell_regrown r12 d os
      clear c0 c1 c2 c3 c4 c5 c6 c7 c8 c9 c10 c11 c12 c13 c14 r0 r1 r2 r3 r4 r5 r6 r7 r8 r9 r10 r11 r12
      refine wp_region_quiet_below (by kernel_rfl) (by kernel_rfl) ?_
      repeat (go_big_quiet_step (first
        | (go_at_call 158; with_reducible exact Calls.regrown_of (CC1.out _))
        | (go_at_call 158; with_reducible exact Calls.regrown_of (CC2.out _))
        | (go_at_call 89; with_reducible exact Calls.regrown_of (CW.out _))))
      refine wpQuiet_nil ?_
      intro _ hw'
      obtain ⟨⟨dq, osq⟩, hw''⟩ := hw'
      subst hw''
      have hq := Lib.hid (HG4.out.next (below_regrown _ dq osq)).below
      dsimp only at *
      generalize Sort.grow (redrawn _ dq) osq = w6 at *
      go_wp2_with fail
      try go_ret2
      exact ⟨rfl, hq.out⟩
set_option maxRecDepth 100000 in
set_option maxHeartbeats 16000000 in
theorem refGnu_sparse_ok (e : EntL) (hk : e.kind ≠ 0) (ad : Option Addr) (cap : Nat) (ho : Held e) (hl : e.link.length ≤ 1000) (hn : e.name.length ≤ 1000) (ho2 : Octs e.map) (hm2 : e.map.length ≤ 20) (hz2 : 0 ≤ e.size ∧ e.size ≤ 8589934591) (hdl : e.data.length ≤ 5000) (hsp : sparseE e = true) (h0 : e.nano = 0) (X : List UInt8) (hX : gnuX e = (X, 0)) (w : World) (hM : PiecesAt w ad e.map) :
    Calls Tryz.prog 86 #[rawV (rawE e), entV e (.slice ad e.map.length cap), .string (mkS (storedE e))] w fun r w' => r = .returned (.tuple #[.string (mkS (longF 75 e.link ++ longF 76 (storedE e) ++ holesF X e)), .int .i64 0]) ∧ Below w.heap.size w w' := by
  have hdt : e.data.length ≤ 9223372036854775807 := by have := ho.data; omega
  have CP := Lib.hid (fun w => refSparse_any e ad cap hdt w)
  have hsl := storedE_len e
  have hri := ho.raw
  have CK1 := Lib.hid (fun (h : (100 : Int) < (e.link.length : Int)) W => refLong 75 75 (by decide) (by decide) e.link (by omega) (by omega) W)
  have CK2 := Lib.hid (fun (h : (100 : Int) < ((storedE e).length : Int)) W => refLong 76 76 (by decide) (by decide) (storedE e) (by omega) (by omega) W)
  have CN1 := Lib.hid (fun (h : (e.link.length : Int) ≤ 100) => long_none 75 e.link (by omega))
  have CN2 := Lib.hid (fun (h : ((storedE e).length : Int) ≤ 100) => long_none 76 (storedE e) (by omega))
  have CC1 := Lib.hid (fun W => cutTo_any (storedE e) (by omega) W)
  have CC2 := Lib.hid (fun W => cutTo_any e.link (by omega) W)
  have hXX : gnuX e = wholeF 3 { rawE e with kind := 83 } ((storedE e).take 100) (e.link.take 100) e.data := by unfold gnuX gnuRaw; rw [if_pos hsp]
  have CW := Lib.hid (fun w => refWhole_at 3 3 rfl (by decide) { rawE e with kind := 83 } ((storedE e).take 100) (e.link.take 100) e.data (by first | exact hk | (show (83 : UInt8) ≠ 0; decide)) (by rw [List.length_take]; omega) (by rw [List.length_take]; omega) (by have := ho.user; show e.user.length ≤ _; omega) (by have := ho.group; show e.group.length ≤ _; omega) (by have := ho.data; omega) hri w)
  have hXl : X.length ≤ 6200 := by have h := whole_len 3 { rawE e with kind := 83 } ((storedE e).take 100) (e.link.take 100) e.data; rw [← hXX, hX] at h; dsimp only at h; omega
  have hX5 : 512 ≤ X.length := whole_ge (hXX.symm.trans hX)
  obtain ⟨fX, nX, gX, _, hXw⟩ := whole_parts (hXX.symm.trans hX)
  have hXd : X.drop 512 = fillL e.data := by rw [hXw, List.drop_left' (write_length gX)]
  clear hXw gX
  rw [← hXX, hX] at CW
  clear hXX hX
  have HLP := Lib.hid (show (longF 75 e.link).length ≤ 5000 ∧ (longF 76 (storedE e)).length ≤ 5000 from ⟨longF_le _ (by decide) _ (by omega), longF_le _ (by decide) _ (by omega)⟩)
  have HM := Lib.hid (fun W (h : Below w.heap.size w W) => hM.below h)
  have CO := Lib.hid (fun W => refOctal_mem e.size hz2.1 hz2.2 W)
  have CT1 := Lib.hid (fun W (h : Below w.heap.size w W) => piecesText_any ad cap e.map 0 4 0 4 rfl rfl (by omega) (by omega) (by omega) ho2 W (hM.below h))
  have CT2 := Lib.hid (fun W (h : Below w.heap.size w W) => piecesText_any ad cap e.map 4 21 4 21 rfl rfl (by omega) (by omega) (by omega) ho2 W (hM.below h))
  obtain ⟨F1, CF1, CH1⟩ := flag_char (decide ((4 : Int) < (e.map.length : Int))) w
  obtain ⟨F2, CF2, CH2⟩ := flag_char (decide ((25 : Int) < (e.map.length : Int))) w
  have l1 := pzT_len e.map 0 4
  have l2 := pzT_len e.map 4 21
  have l3 := octL_length e.size
  have l4 : (sub X 495 17).length ≤ 17 := List.length_take_le ..
  have l5 : (X.take 386).length ≤ 386 := List.length_take_le ..
  have hBl : (X.take 386 ++ (pzT e.map 0 4 ++ ([if decide ((4 : Int) < (e.map.length : Int)) then 1 else 0] ++ (octL e.size ++ sub X 495 17)))).length = 512 := by simp only [List.length_append, List.length_take, List.length_singleton, sub, List.length_drop] at *; omega
  have CSl := Lib.hid (fun W => show Calls Tryz.prog 160 #[.string (mkS (X.take 386 ++ (pzT e.map 0 4 ++ ([if decide ((4 : Int) < (e.map.length : Int)) then 1 else 0] ++ (octL e.size ++ sub X 495 17)))))] W fun e2 w' => e2 = .returned (.tuple #[.string (mkS (sealL (X.take 386 ++ (pzT e.map 0 4 ++ ([if decide ((4 : Int) < (e.map.length : Int)) then 1 else 0] ++ (octL e.size ++ sub X 495 17)))))), .int .i64 0]) ∧ Below W.heap.size W w' from (refSeal_ok _ W (by rw [mkS_size]; exact hBl)).mono fun e2 w' ⟨g1, g2⟩ => ⟨by rw [g1, sealB_mkS], g2⟩)
  have hSl := sealL_length _ hBl
  have hHo : holesF X e = sealL (X.take 386 ++ (pzT e.map 0 4 ++ ([if decide ((4 : Int) < (e.map.length : Int)) then 1 else 0] ++ (octL e.size ++ sub X 495 17)))) ++ (moreF (e.map.drop 4) ++ fillL e.data) := by
    unfold holesF
    rw [hXd, show listF e.map 4 = pzT e.map 0 4 ++ [if decide ((4 : Int) < (e.map.length : Int)) then 1 else 0] by
      have := listF_pz e.map 0 4
      rw [List.drop_zero] at this
      rw [this]
      by_cases h4 : 4 < e.map.length
      · rw [if_pos h4, if_pos (decide_eq_true (by omega))]
      · rw [if_neg h4, if_neg (by simp; omega)]]
    simp only [List.append_assoc]
  have hMo : moreF (e.map.drop 4) = if (4 : Int) < (e.map.length : Int) then fillL (pzT e.map 4 21 ++ [if decide ((25 : Int) < (e.map.length : Int)) then 1 else 0]) else [] := by
    unfold moreF
    by_cases h4 : (4 : Int) < (e.map.length : Int)
    · rw [if_pos h4, if_neg (fun h => by have := congrArg List.length h; rw [List.length_drop, List.length_nil] at this; omega), listF_pz, List.length_drop, if_neg (by omega), if_neg (by simp; omega)]
    · rw [if_neg h4, if_pos (List.drop_eq_nil_of_le (by omega))]
  rw [hHo, hMo]
  clear hHo hMo hXd hM ho2 hBl
  have CFi := Lib.hid (fun W => refFill_any e.data W (by omega))
  have CFm := Lib.hid (fun W => refFill_any (pzT e.map 4 21 ++ [if decide ((25 : Int) < (e.map.length : Int)) then 1 else 0]) W (by rw [List.length_append, List.length_singleton]; omega))
  have hFl := fillL_le e.data
  have hFm := fillL_le (pzT e.map 4 21 ++ [if decide ((25 : Int) < (e.map.length : Int)) then 1 else 0])
  have i1 : ∀ W, (Instr.slice 9 (.string (mkS X)) none (some (.int .i64 386)) none).run Tryz.prog W = .ok (.string (mkS (X.take 386))) W := fun W => mkS_upto X 386 (by omega) W
  have i2 : ∀ W, (Instr.slice 9 (.string (mkS X)) (some (.int .i64 495)) (some (.int .i64 512)) none).run Tryz.prog W = .ok (.string (mkS (sub X 495 17))) W := fun W => mkS_mid X 495 512 (by omega) hX5 W
  rw [List.length_append, List.length_singleton] at hFm
  have hnm : (e.map.length : Int) ≤ 20 := by omega
  obtain ⟨b1, hb1⟩ : ∃ b, decide ((4 : Int) < (e.map.length : Int)) = b := ⟨_, rfl⟩
  obtain ⟨b2, hb2⟩ : ∃ b, decide ((25 : Int) < (e.map.length : Int)) = b := ⟨_, rfl⟩
  rw [hb1] at CF1 CH1 CSl hSl ⊢
  rw [hb2] at CF2 CH2 CFm hFm ⊢
  generalize pzT e.map 0 4 = Z1 at *
  generalize pzT e.map 4 21 = Z2 at *
  generalize octL e.size = OS at *
  generalize sub X 495 17 = X4 at *
  generalize X.take 386 = X3 at *
  generalize hq1 : [if b1 = true then (1 : UInt8) else 0] = f1 at *
  generalize hq2 : [if b2 = true then (1 : UInt8) else 0] = f2 at *
  have hf1 : f1.length = 1 := by rw [← hq1]; rfl
  have hf2 : f2.length = 1 := by rw [← hq2]; rfl
  clear hq1 hq2
  have j1 := fun W => mkS_cat X3 Z1 (by omega) W
  have j2 := fun W => mkS_cat (X3 ++ Z1) f1 (by simp only [List.length_append]; omega) W
  simp only [List.append_assoc] at j2
  have j3 := fun W => mkS_cat (X3 ++ (Z1 ++ f1)) OS (by simp only [List.length_append]; omega) W
  simp only [List.append_assoc] at j3
  have j4 := fun W => mkS_cat (X3 ++ (Z1 ++ (f1 ++ OS))) X4 (by simp only [List.length_append]; omega) W
  simp only [List.append_assoc] at j4
  have j5 := fun W => mkS_cat Z2 f2 (by omega) W
  generalize sealL (X3 ++ (Z1 ++ (f1 ++ (OS ++ X4)))) = SH at *
  generalize fillL (Z2 ++ f2) = FM at *
  generalize fillL e.data = FD at *
  have CF1 := Lib.hid CF1
  have CH1 := Lib.hid CH1
  have CF2 := Lib.hid CF2
  have CH2 := Lib.hid CH2
  have hE := EntAt.new (w.alloc (.cells (rawC (rawE e)) 67)) e (.slice ad e.map.length cap) 28
  have hz1 : (w.alloc (.cells (rawC (rawE e)) 67)).heap.size = w.heap.size + 1 := Array.size_push ..
  have hb1' := below_alloc1 w (.cells (rawC (rawE e)) 67)
  have hb2' := below_alloc1 (w.alloc (.cells (rawC (rawE e)) 67)) (.cells (entC e (.slice ad e.map.length cap)) 28)
  have hr0 : (w.alloc (.cells (rawC (rawE e)) 67)).heap[w.heap.size]? = some (.cells (rawC (rawE e)) 67 (0, 0)) := heap_alloc_new w _
  have hr1 := (hb2'.block _ (by rw [hz1]; exact Nat.lt_succ_self _)).trans hr0
  rw [hz1] at hE
  have HB1 := Lib.hid (hb1'.trans (hb2'.mono (by rw [hz1]; exact Nat.le_succ _)))
  have HE1 := Lib.hid hE
  have HR1 := Lib.hid hr1
  clear hE hz1 hb1' hb2' hr0 hr1 ho hri
  unfold entC rawC at HB1 HE1 HR1
  unfold entV at CP ⊢
  unfold rawV at CW ⊢
  have CW := Lib.hid (fun w => show Calls Tryz.prog 89 #[.int .i64 3, .agg #[.string (mkS (rawE e).name), .string (mkS (rawE e).link), .string (mkS (rawE e).user), .string (mkS (rawE e).group), .string (mkS (rawE e).front), .int .u8 83, .int .i64 (rawE e).mode, .int .i64 (rawE e).uid, .int .i64 (rawE e).gid, .int .i64 (rawE e).size, .int .i64 (rawE e).time, .int .i64 (rawE e).major, .int .i64 (rawE e).minor], .string (mkS ((storedE e).take 100)), .string (mkS (e.link.take 100)), .string (mkS e.data)] w fun r w' => r = .returned (.tuple #[.string (mkS X), .int .i64 0]) ∧ Below w.heap.size w w' from CW.out w)
  rw [hsp] at CP
  generalize longF 75 e.link = P1 at *
  generalize longF 76 (storedE e) = P2 at *
  generalize (storedE e).take 100 = SN at *
  generalize e.link.take 100 = LK at *
  generalize storedE e = ST at *
  generalize e.map.length = n at *
  rw [h0] at HB1 HE1 HR1 CP ⊢
  have HEn := Lib.hid h0
  go_enter Tryz.func86, Tryz.ntmps86
  go_upto_region 1 with fail
  generalize (World.alloc (World.alloc w _) _) = W2 at *
  obtain ⟨c0, c1, c2, c3, c4, c5, c6, c7, c8, c9, c10, c11, c12, c13, c14⟩ := id HE1.out
  rw [HEn.out] at c7
  go_upto_region 4 with fail
  have hls : (W2.alloc (.cells #[.int .u8 75, .string (mkS e.link), .int .u8 76, .string (mkS ST)] 216)).heap[W2.heap.size]? = some (.cells #[.int .u8 75, .string (mkS e.link), .int .u8 76, .string (mkS ST)] 216 (0, 0)) := heap_alloc_new W2 _
  have hbl := below_alloc1 W2 (.cells #[.int .u8 75, .string (mkS e.link), .int .u8 76, .string (mkS ST)] 216)
  have HG := Lib.hid (show GnS w e (.slice ad n cap) _ W2.heap.size _ (W2.alloc (.cells #[.int .u8 75, .string (mkS e.link), .int .u8 76, .string (mkS ST)] 216)) from ⟨HB1.out.trans (hbl.mono HB1.out.size), (hbl.block _ (Array.getElem?_eq_some_iff.1 HR1.out).1).trans HR1.out, HE1.out.below hbl HE1.out.lt, hls⟩)
  clear hls hbl HB1 HE1 HR1
  go_wp2_with fail
  generalize (W2.alloc _) = W3 at *
  generalize W2.heap.size = B at *
  clear c0 c1 c2 c3 c4 c5 c6 c7 c8 c9 c10 c11 c12 c13 c14
  go_loopg [32, 8] 2 (fun g s32 s8 wr => ∃ i : Nat, i ≤ 2 ∧ 2 - i ≤ g ∧ s32 = .int .i64 (i : Int) ∧ s8 = .string (mkS (twoT P1 P2 i)) ∧ Aside (GnS w e (.slice ad n cap) #[.string (mkS (rawE e).name), .string (mkS (rawE e).link), .string (mkS (rawE e).user), .string (mkS (rawE e).group), .string (mkS (rawE e).front), .int .u8 ((rawE e).kind.toNat : Int), .int .i64 (rawE e).mode, .int .i64 (rawE e).uid, .int .i64 (rawE e).gid, .int .i64 (rawE e).size, .int .i64 (rawE e).time, .int .i64 (rawE e).major, .int .i64 (rawE e).minor] B #[.int .u8 75, .string (mkS e.link), .int .u8 76, .string (mkS ST)] wr))
  case atStart => exact ⟨0, by omega, by omega, rfl, rfl, HG.out⟩
  case round =>
    obtain ⟨i, hi, hg, rfl, rfl, A⟩ := hrel
    obtain rfl | rfl | rfl : i = 0 ∨ i = 1 ∨ i = 2 := by omega
    · -- round 0
      have l0 := row_cell A.out.lst 0 _ rfl
      have l1 := row_cell A.out.lst 1 _ rfl
      have hix := fun W => idx_kv W B 0 2 2 0 (by omega)
      simp only [Nat.zero_mul, Nat.one_mul, Nat.zero_add, Int.natCast_zero, Int.natCast_one, Int.ofNat_zero, Int.ofNat_one] at hix
      have hkx := mkS_size e.link
      have HW := Lib.hid (A.out.next (below_alloc1 wr (.cells #[.int .u8 75, .string (mkS e.link)] 216)))
      by_cases hlt : (100 : Int) < (e.link.length : Int)
      · have CK := Lib.hid (CK1.out hlt)
        have k0 : ∀ W, (Op.stringOp .add (mkS e.link) (⟨#[0]⟩ : ByteArray)).run Tryz.prog W = .ok (.string (mkS (e.link ++ [0]))) W := fun W => mkS_cat e.link [0] (by rw [List.length_singleton]; omega) W
        have k1 := fun W => mkS_cat (twoT P1 P2 0) P1 (by have := HLP.out; show ([] : List UInt8).length + _ ≤ _; (try simp only [List.length_append, List.length_nil]); omega) W
        go_wp2_with (first
          | (go_at_call 89; (with_reducible refine (CK.out _).mono ?_); rintro r w3 ⟨rfl, h3⟩; have HX := Lib.hid (HW.out.next h3); clear h3)
          | fail)
        go_roundg 1
        case measure => omega
        case rel => exact ⟨1, by omega, by omega, by first | rfl | simp, by first | rfl | simp [twoT], HX.out⟩
      · have hP : P1 = [] := CN1.out (by omega)
        go_wp2_with fail
        go_roundg 1
        case measure => omega
        case rel => exact ⟨1, by omega, by omega, by first | rfl | simp, by first | (simp [twoT, hP]) | (rw [hP]; rfl), HW.out⟩
    · -- round 1
      have l0 := row_cell A.out.lst 2 _ rfl
      have l1 := row_cell A.out.lst 3 _ rfl
      have hix := fun W => idx_kv W B 0 2 2 1 (by omega)
      simp only [Nat.zero_mul, Nat.one_mul, Nat.zero_add, Int.natCast_zero, Int.natCast_one, Int.ofNat_zero, Int.ofNat_one] at hix
      have hkx := mkS_size ST
      have HW := Lib.hid (A.out.next (below_alloc1 wr (.cells #[.int .u8 76, .string (mkS ST)] 216)))
      by_cases hlt : (100 : Int) < (ST.length : Int)
      · have CK := Lib.hid (CK2.out hlt)
        have k0 : ∀ W, (Op.stringOp .add (mkS ST) (⟨#[0]⟩ : ByteArray)).run Tryz.prog W = .ok (.string (mkS (ST ++ [0]))) W := fun W => mkS_cat ST [0] (by rw [List.length_singleton]; omega) W
        have k1 := fun W => mkS_cat (twoT P1 P2 1) P2 (by have := HLP.out; show (P1 : List UInt8).length + _ ≤ _; (try simp only [List.length_append, List.length_nil]); omega) W
        go_wp2_with (first
          | (go_at_call 89; (with_reducible refine (CK.out _).mono ?_); rintro r w3 ⟨rfl, h3⟩; have HX := Lib.hid (HW.out.next h3); clear h3)
          | fail)
        go_roundg 0
        case measure => omega
        case rel => exact ⟨2, by omega, by omega, by first | rfl | simp, by first | rfl | simp [twoT], HX.out⟩
      · have hP : P2 = [] := CN2.out (by omega)
        go_wp2_with fail
        go_roundg 0
        case measure => omega
        case rel => exact ⟨2, by omega, by omega, by first | rfl | simp, by first | (simp [twoT, hP]) | (rw [hP]; rfl), HW.out⟩
    · -- behind the long texts
      have HG3 := Lib.hid A.out
      clear A HG CK1 CK2 CN1 CN2
      obtain ⟨c0, c1, c2, c3, c4, c5, c6, c7, c8, c9, c10, c11, c12, c13, c14⟩ := id HG3.out.ent
      have k5 := row_cell HG3.out.raw 5 _ rfl
      have f5 := row_free HG3.out.raw 5
      go_upto_region 14 with (first
        | (go_at_call 88; (with_reducible refine (CP.out _).mono ?_); rintro r w4 ⟨rfl, h3⟩; have HG4 := Lib.hid (HG3.out.next h3); clear h3 c0 c1 c2 c3 c4 c5 c6 c7 c8 c9 c10 c11 c12 c13 c14 k5 f5; have k5 := row_cell HG4.out.raw 5 _ rfl; have f5 := row_free HG4.out.raw 5)
        | fail)
      have HG5 := Lib.hid (HG4.out.store 5 (.int .u8 83))
      clear k5 f5
      generalize (w4.setCell ⟨w.heap.size, 5, none⟩ (.int .u8 83)) = w5 at *
      obtain ⟨c0, c1, c2, c3, c4, c5, c6, c7, c8, c9, c10, c11, c12, c13, c14⟩ := id HG5.out.ent
      obtain ⟨r0, r1, r2, r3, r4, r5, r6, r7, r8, r9, r10, r11, r12⟩ := id (show RawAt w5 w.heap.size { rawE e with kind := 83 } from RawAt.of_row HG5.out.raw)
      change _ = some (Value.int .u8 83) at r5
      have v8 := fun d os => cell_regrown c8 d os
      have v13 := fun d os => cell_regrown c13 d os
      have x0 := fun d os => cell_regrown r0 d os
      have x1 := fun d os => cell_regrown r1 d os
      have x2 := fun d os => cell_regrown r2 d os
      have x3 := fun d os => cell_regrown r3 d os
      have x4 := fun d os => cell_regrown r4 d os
      have x5 := fun d os => cell_regrown r5 d os
      have x6 := fun d os => cell_regrown r6 d os
      have x7 := fun d os => cell_regrown r7 d os
      have x8 := fun d os => cell_regrown r8 d os
      have x9 := fun d os => cell_regrown r9 d os
      have x10 := fun d os => cell_regrown r10 d os
      have x11 := fun d os => cell_regrown r11 d os
      have x12 := fun d os => cell_regrown r12 d os
      clear c0 c1 c2 c3 c4 c5 c6 c7 c8 c9 c10 c11 c12 c13 c14 r0 r1 r2 r3 r4 r5 r6 r7 r8 r9 r10 r11 r12
      refine wp_region_quiet_below (by kernel_rfl) (by kernel_rfl) ?_
      repeat (go_big_quiet_step (first
        | (go_at_call 158; with_reducible exact Calls.regrown_of (CC1.out _))
        | (go_at_call 158; with_reducible exact Calls.regrown_of (CC2.out _))
        | (go_at_call 89; with_reducible exact Calls.regrown_of (CW.out _))))
      refine wpQuiet_nil ?_
      intro _ hw'
      obtain ⟨⟨dq, osq⟩, hw''⟩ := hw'
      subst hw''
      have HG6 := Lib.hid (HG5.out.next (below_regrown _ dq osq))
      clear v8 v13 x0 x1 x2 x3 x4 x5 x6 x7 x8 x9 x10 x11 x12
      dsimp only at *
      generalize Sort.grow (redrawn _ dq) osq = w6 at *
      obtain ⟨c0, c1, c2, c3, c4, c5, c6, c7, c8, c9, c10, c11, c12, c13, c14⟩ := id HG6.out.ent
      go_upto_region 20 with (first
        | (go_at_call 159; (with_reducible refine (CO.out _).mono ?_); rintro r w7 ⟨rfl, h3⟩; have HG7 := Lib.hid (HG6.out.next h3); clear h3 c0 c1 c2 c3 c4 c5 c6 c7 c8 c9 c10 c11 c12 c13 c14)
        | fail)
      obtain ⟨c0, c1, c2, c3, c4, c5, c6, c7, c8, c9, c10, c11, c12, c13, c14⟩ := id HG7.out.ent
      have v14 := fun d os => cell_regrown c14 d os
      have hb2 := Lib.hid (fun d os => (HG7.out.next (below_regrown w7 d os)).below)
      clear c0 c1 c2 c3 c4 c5 c6 c7 c8 c9 c10 c11 c12 c13 c14
      refine wp_region_quiet_below (by kernel_rfl) (by kernel_rfl) ?_
      repeat (go_big_quiet_step (first
        | (go_at_call 161; with_reducible exact Calls.regrown_of (CT1.out _ (hb2.out _ _)))
        | (go_at_call 125; with_reducible exact Calls.regrown_of (CF1.out _))
        | (go_at_call 162; with_reducible exact Calls.regrown_of (CH1.out _))
        | (go_at_call 160; with_reducible exact Calls.regrown_of (CSl.out _))))
      refine wpQuiet_nil ?_
      intro _ hw'
      obtain ⟨⟨dq, osq⟩, hw''⟩ := hw'
      subst hw''
      have HG8 := Lib.hid (HG7.out.next (below_regrown _ dq osq))
      clear v14 hb2 j1 j2 j3 j4 i1 i2
      dsimp only at *
      generalize Sort.grow (redrawn _ dq) osq = w8 at *
      have KX := fun W => mkS_cat (twoT P1 P2 2) SH (by have := HLP.out; show (P1 ++ P2).length + _ ≤ _; rw [List.length_append]; omega) W
      have hPS : (twoT P1 P2 2 ++ SH).length ≤ 11000 := by have := HLP.out; show (P1 ++ P2 ++ SH).length ≤ _; rw [List.length_append, List.length_append]; omega
      obtain ⟨c0, c1, c2, c3, c4, c5, c6, c7, c8, c9, c10, c11, c12, c13, c14⟩ := id HG8.out.ent
      go_wp2_with fail
      clear KX
      generalize hPP : twoT P1 P2 2 ++ SH = PS at *
      have HN4 := Lib.hid hb1
      have HN25 := Lib.hid hb2
      clear c0 c1 c2 c3 c4 c5 c6 c7 c8 c9 c10 c11 c12 c13 c14
      go_loopg [20, 8] 1 (fun g s20 s8 wr => ∃ (j : Nat) (K : Int), 1 - j ≤ g ∧ ((j = 0 ∧ K = 4) ∨ (j = 1 ∧ K = 25 ∧ (4 : Int) < (n : Int))) ∧ s20 = .int .i64 K ∧ s8 = .string (mkS (twoT PS FM (j + 1))) ∧ Aside (Below w.heap.size w wr ∧ EntAt wr (w.heap.size + 1) e (.slice ad n cap)))
      case atStart => exact ⟨0, 4, by omega, .inl ⟨rfl, rfl⟩, rfl, rfl, HG8.out.below, HG8.out.ent⟩
      case round =>
        obtain ⟨j, K, hg, hj, rfl, rfl, A⟩ := hrel
        obtain ⟨c0, c1, c2, c3, c4, c5, c6, c7, c8, c9, c10, c11, c12, c13, c14⟩ := id A.out.2
        have KD : ∀ W, (Op.stringOp .add (mkS (twoT PS FM (j + 1))) (mkS FD)).run Tryz.prog W = .ok (.string (mkS (twoT PS FM (j + 1) ++ FD))) W := fun W => mkS_cat _ _ (by
          rcases hj with ⟨rfl, _⟩ | ⟨rfl, _, _⟩
          · show PS.length + _ ≤ _; omega
          · show (PS ++ FM).length + _ ≤ _; rw [List.length_append]; omega) W
        rcases hj with ⟨rfl, rfl⟩ | ⟨rfl, rfl, h4⟩
        · by_cases h4 : (4 : Int) < (n : Int)
          · clear KD
            have v14 := fun d os => cell_regrown c14 d os
            have hb3 := Lib.hid (fun d os => A.out.1.trans ((below_regrown wr d os).mono A.out.1.size))
            have j6 := fun W => mkS_cat (twoT PS FM 1) FM (by show PS.length + _ ≤ _; omega) W
            have hdb : decide ((25 : Int) < (n : Int)) = b2 := HN25.out
            go_upto_region 25 with fail
            clear c0 c1 c2 c3 c4 c5 c6 c7 c8 c9 c10 c11 c12 c13 c14
            refine wp_region_quiet_below (by kernel_rfl) (by kernel_rfl) ?_
            repeat (go_big_quiet_step (first
              | (go_at_call 161; with_reducible exact Calls.regrown_of (CT2.out _ (hb3.out _ _)))
              | (go_at_call 125; with_reducible exact Calls.regrown_of (CF2.out _))
              | (go_at_call 162; with_reducible exact Calls.regrown_of (CH2.out _))
              | (go_at_call 163; with_reducible exact Calls.regrown_of (CFm.out _))))
            refine wpQuiet_nil ?_
            intro _ hw'
            obtain ⟨⟨dq, osq⟩, hw''⟩ := hw'
            subst hw''
            have HA := Lib.hid (And.intro (A.out.1.trans ((below_regrown wr dq osq).mono A.out.1.size)) (A.out.2.below (below_regrown wr dq osq) A.out.2.lt))
            clear v14 hb3 hdb
            dsimp only at *
            generalize Sort.grow (redrawn _ dq) osq = w9 at *
            go_wp2_with fail
            go_roundg 0
            case measure => omega
            case rel => exact ⟨1, 25, by omega, .inr ⟨rfl, rfl, h4⟩, rfl, rfl, HA.out⟩
          · go_wp2_with (first
              | (go_at_call 163; (with_reducible refine (CFi.out _).mono ?_); rintro r wa ⟨rfl, h5⟩; have HZ := Lib.hid (A.out.1.trans (h5.mono A.out.1.size)); clear h5)
              | fail)
            try go_ret2
            refine ⟨?_, HZ.out⟩
            refine congrArg (fun x => Ending.returned (Value.tuple #[.string (mkS x), .int .i64 0])) ?_
            rw [← hPP]
            simp [twoT, h4]
        · have h25 : ¬ (25 : Int) < (n : Int) := by omega
          go_wp2_with (first
            | (go_at_call 163; (with_reducible refine (CFi.out _).mono ?_); rintro r wa ⟨rfl, h5⟩; have HZ := Lib.hid (A.out.1.trans (h5.mono A.out.1.size)); clear h5)
            | fail)
          try go_ret2
          refine ⟨?_, HZ.out⟩
          refine congrArg (fun x => Ending.returned (Value.tuple #[.string (mkS x), .int .i64 0])) ?_
          rw [← hPP]
          simp [twoT, h4]
set_option maxRecDepth 100000 in
set_option maxHeartbeats 16000000 in
theorem refGnu_sparse_bad (e : EntL) (hk : e.kind ≠ 0) (ad : Option Addr) (cap : Nat) (ho : Held e) (hl : e.link.length ≤ 1000) (hn : e.name.length ≤ 1000) (hdl : e.data.length ≤ 5000) (hsp : sparseE e = true) (h0 : e.nano = 0) (hX : gnuX e = ([], 2)) (w : World) :
    Calls Tryz.prog 86 #[rawV (rawE e), entV e (.slice ad e.map.length cap), .string (mkS (storedE e))] w fun r w' => r = .returned (.tuple #[.string ⟨#[]⟩, .int .i64 2]) ∧ Below w.heap.size w w' := by
  have hdt : e.data.length ≤ 9223372036854775807 := by have := ho.data; omega
  have CP := Lib.hid (fun w => refSparse_any e ad cap hdt w)
  have hsl := storedE_len e
  have hri := ho.raw
  have CK1 := Lib.hid (fun (h : (100 : Int) < (e.link.length : Int)) W => refLong 75 75 (by decide) (by decide) e.link (by omega) (by omega) W)
  have CK2 := Lib.hid (fun (h : (100 : Int) < ((storedE e).length : Int)) W => refLong 76 76 (by decide) (by decide) (storedE e) (by omega) (by omega) W)
  have CN1 := Lib.hid (fun (h : (e.link.length : Int) ≤ 100) => long_none 75 e.link (by omega))
  have CN2 := Lib.hid (fun (h : ((storedE e).length : Int) ≤ 100) => long_none 76 (storedE e) (by omega))
  have CC1 := Lib.hid (fun W => cutTo_any (storedE e) (by omega) W)
  have CC2 := Lib.hid (fun W => cutTo_any e.link (by omega) W)
  have hXX : gnuX e = wholeF 3 { rawE e with kind := 83 } ((storedE e).take 100) (e.link.take 100) e.data := by unfold gnuX gnuRaw; rw [if_pos hsp]
  have CW := Lib.hid (fun w => refWhole_at 3 3 rfl (by decide) { rawE e with kind := 83 } ((storedE e).take 100) (e.link.take 100) e.data (by first | exact hk | (show (83 : UInt8) ≠ 0; decide)) (by rw [List.length_take]; omega) (by rw [List.length_take]; omega) (by have := ho.user; show e.user.length ≤ _; omega) (by have := ho.group; show e.group.length ≤ _; omega) (by have := ho.data; omega) hri w)
  rw [← hXX, hX] at CW
  clear hXX hX
  have HLP := Lib.hid (show (longF 75 e.link).length ≤ 5000 ∧ (longF 76 (storedE e)).length ≤ 5000 from ⟨longF_le _ (by decide) _ (by omega), longF_le _ (by decide) _ (by omega)⟩)
  have hE := EntAt.new (w.alloc (.cells (rawC (rawE e)) 67)) e (.slice ad e.map.length cap) 28
  have hz1 : (w.alloc (.cells (rawC (rawE e)) 67)).heap.size = w.heap.size + 1 := Array.size_push ..
  have hb1' := below_alloc1 w (.cells (rawC (rawE e)) 67)
  have hb2' := below_alloc1 (w.alloc (.cells (rawC (rawE e)) 67)) (.cells (entC e (.slice ad e.map.length cap)) 28)
  have hr0 : (w.alloc (.cells (rawC (rawE e)) 67)).heap[w.heap.size]? = some (.cells (rawC (rawE e)) 67 (0, 0)) := heap_alloc_new w _
  have hr1 := (hb2'.block _ (by rw [hz1]; exact Nat.lt_succ_self _)).trans hr0
  rw [hz1] at hE
  have HB1 := Lib.hid (hb1'.trans (hb2'.mono (by rw [hz1]; exact Nat.le_succ _)))
  have HE1 := Lib.hid hE
  have HR1 := Lib.hid hr1
  clear hE hz1 hb1' hb2' hr0 hr1 ho hri
  unfold entC rawC at HB1 HE1 HR1
  unfold entV at CP ⊢
  unfold rawV at CW ⊢
  have CW := Lib.hid (fun w => show Calls Tryz.prog 89 #[.int .i64 3, .agg #[.string (mkS (rawE e).name), .string (mkS (rawE e).link), .string (mkS (rawE e).user), .string (mkS (rawE e).group), .string (mkS (rawE e).front), .int .u8 83, .int .i64 (rawE e).mode, .int .i64 (rawE e).uid, .int .i64 (rawE e).gid, .int .i64 (rawE e).size, .int .i64 (rawE e).time, .int .i64 (rawE e).major, .int .i64 (rawE e).minor], .string (mkS ((storedE e).take 100)), .string (mkS (e.link.take 100)), .string (mkS e.data)] w fun r w' => r = .returned (.tuple #[.string ⟨#[]⟩, .int .i64 2]) ∧ Below w.heap.size w w' from CW.out w)
  rw [hsp] at CP
  generalize longF 75 e.link = P1 at *
  generalize longF 76 (storedE e) = P2 at *
  generalize (storedE e).take 100 = SN at *
  generalize e.link.take 100 = LK at *
  generalize storedE e = ST at *
  generalize e.map.length = n at *
  rw [h0] at HB1 HE1 HR1 CP ⊢
  have HEn := Lib.hid h0
  try simp only [show mkS [] = ⟨#[]⟩ from rfl] at CW
  go_enter Tryz.func86, Tryz.ntmps86
  go_upto_region 1 with fail
  generalize (World.alloc (World.alloc w _) _) = W2 at *
  obtain ⟨c0, c1, c2, c3, c4, c5, c6, c7, c8, c9, c10, c11, c12, c13, c14⟩ := id HE1.out
  rw [HEn.out] at c7
  go_upto_region 4 with fail
  have hls : (W2.alloc (.cells #[.int .u8 75, .string (mkS e.link), .int .u8 76, .string (mkS ST)] 216)).heap[W2.heap.size]? = some (.cells #[.int .u8 75, .string (mkS e.link), .int .u8 76, .string (mkS ST)] 216 (0, 0)) := heap_alloc_new W2 _
  have hbl := below_alloc1 W2 (.cells #[.int .u8 75, .string (mkS e.link), .int .u8 76, .string (mkS ST)] 216)
  have HG := Lib.hid (show GnS w e (.slice ad n cap) _ W2.heap.size _ (W2.alloc (.cells #[.int .u8 75, .string (mkS e.link), .int .u8 76, .string (mkS ST)] 216)) from ⟨HB1.out.trans (hbl.mono HB1.out.size), (hbl.block _ (Array.getElem?_eq_some_iff.1 HR1.out).1).trans HR1.out, HE1.out.below hbl HE1.out.lt, hls⟩)
  clear hls hbl HB1 HE1 HR1
  go_wp2_with fail
  generalize (W2.alloc _) = W3 at *
  generalize W2.heap.size = B at *
  clear c0 c1 c2 c3 c4 c5 c6 c7 c8 c9 c10 c11 c12 c13 c14
  go_loopg [32, 8] 2 (fun g s32 s8 wr => ∃ i : Nat, i ≤ 2 ∧ 2 - i ≤ g ∧ s32 = .int .i64 (i : Int) ∧ s8 = .string (mkS (twoT P1 P2 i)) ∧ Aside (GnS w e (.slice ad n cap) #[.string (mkS (rawE e).name), .string (mkS (rawE e).link), .string (mkS (rawE e).user), .string (mkS (rawE e).group), .string (mkS (rawE e).front), .int .u8 ((rawE e).kind.toNat : Int), .int .i64 (rawE e).mode, .int .i64 (rawE e).uid, .int .i64 (rawE e).gid, .int .i64 (rawE e).size, .int .i64 (rawE e).time, .int .i64 (rawE e).major, .int .i64 (rawE e).minor] B #[.int .u8 75, .string (mkS e.link), .int .u8 76, .string (mkS ST)] wr))
  case atStart => exact ⟨0, by omega, by omega, rfl, rfl, HG.out⟩
  case round =>
    obtain ⟨i, hi, hg, rfl, rfl, A⟩ := hrel
    obtain rfl | rfl | rfl : i = 0 ∨ i = 1 ∨ i = 2 := by omega
    · -- round 0
      have l0 := row_cell A.out.lst 0 _ rfl
      have l1 := row_cell A.out.lst 1 _ rfl
      have hix := fun W => idx_kv W B 0 2 2 0 (by omega)
      simp only [Nat.zero_mul, Nat.one_mul, Nat.zero_add, Int.natCast_zero, Int.natCast_one, Int.ofNat_zero, Int.ofNat_one] at hix
      have hkx := mkS_size e.link
      have HW := Lib.hid (A.out.next (below_alloc1 wr (.cells #[.int .u8 75, .string (mkS e.link)] 216)))
      by_cases hlt : (100 : Int) < (e.link.length : Int)
      · have CK := Lib.hid (CK1.out hlt)
        have k0 : ∀ W, (Op.stringOp .add (mkS e.link) (⟨#[0]⟩ : ByteArray)).run Tryz.prog W = .ok (.string (mkS (e.link ++ [0]))) W := fun W => mkS_cat e.link [0] (by rw [List.length_singleton]; omega) W
        have k1 := fun W => mkS_cat (twoT P1 P2 0) P1 (by have := HLP.out; show ([] : List UInt8).length + _ ≤ _; (try simp only [List.length_append, List.length_nil]); omega) W
        go_wp2_with (first
          | (go_at_call 89; (with_reducible refine (CK.out _).mono ?_); rintro r w3 ⟨rfl, h3⟩; have HX := Lib.hid (HW.out.next h3); clear h3)
          | fail)
        go_roundg 1
        case measure => omega
        case rel => exact ⟨1, by omega, by omega, by first | rfl | simp, by first | rfl | simp [twoT], HX.out⟩
      · have hP : P1 = [] := CN1.out (by omega)
        go_wp2_with fail
        go_roundg 1
        case measure => omega
        case rel => exact ⟨1, by omega, by omega, by first | rfl | simp, by first | (simp [twoT, hP]) | (rw [hP]; rfl), HW.out⟩
    · -- round 1
      have l0 := row_cell A.out.lst 2 _ rfl
      have l1 := row_cell A.out.lst 3 _ rfl
      have hix := fun W => idx_kv W B 0 2 2 1 (by omega)
      simp only [Nat.zero_mul, Nat.one_mul, Nat.zero_add, Int.natCast_zero, Int.natCast_one, Int.ofNat_zero, Int.ofNat_one] at hix
      have hkx := mkS_size ST
      have HW := Lib.hid (A.out.next (below_alloc1 wr (.cells #[.int .u8 76, .string (mkS ST)] 216)))
      by_cases hlt : (100 : Int) < (ST.length : Int)
      · have CK := Lib.hid (CK2.out hlt)
        have k0 : ∀ W, (Op.stringOp .add (mkS ST) (⟨#[0]⟩ : ByteArray)).run Tryz.prog W = .ok (.string (mkS (ST ++ [0]))) W := fun W => mkS_cat ST [0] (by rw [List.length_singleton]; omega) W
        have k1 := fun W => mkS_cat (twoT P1 P2 1) P2 (by have := HLP.out; show (P1 : List UInt8).length + _ ≤ _; (try simp only [List.length_append, List.length_nil]); omega) W
        go_wp2_with (first
          | (go_at_call 89; (with_reducible refine (CK.out _).mono ?_); rintro r w3 ⟨rfl, h3⟩; have HX := Lib.hid (HW.out.next h3); clear h3)
          | fail)
        go_roundg 0
        case measure => omega
        case rel => exact ⟨2, by omega, by omega, by first | rfl | simp, by first | rfl | simp [twoT], HX.out⟩
      · have hP : P2 = [] := CN2.out (by omega)
        go_wp2_with fail
        go_roundg 0
        case measure => omega
        case rel => exact ⟨2, by omega, by omega, by first | rfl | simp, by first | (simp [twoT, hP]) | (rw [hP]; rfl), HW.out⟩
    · -- behind the long texts
      have HG3 := Lib.hid A.out
      clear A HG CK1 CK2 CN1 CN2
      obtain ⟨c0, c1, c2, c3, c4, c5, c6, c7, c8, c9, c10, c11, c12, c13, c14⟩ := id HG3.out.ent
      have k5 := row_cell HG3.out.raw 5 _ rfl
      have f5 := row_free HG3.out.raw 5
      go_upto_region 14 with (first
        | (go_at_call 88; (with_reducible refine (CP.out _).mono ?_); rintro r w4 ⟨rfl, h3⟩; have HG4 := Lib.hid (HG3.out.next h3); clear h3 c0 c1 c2 c3 c4 c5 c6 c7 c8 c9 c10 c11 c12 c13 c14 k5 f5; have k5 := row_cell HG4.out.raw 5 _ rfl; have f5 := row_free HG4.out.raw 5)
        | fail)
      have HG5 := Lib.hid (HG4.out.store 5 (.int .u8 83))
      clear k5 f5
      generalize (w4.setCell ⟨w.heap.size, 5, none⟩ (.int .u8 83)) = w5 at *
      obtain ⟨c0, c1, c2, c3, c4, c5, c6, c7, c8, c9, c10, c11, c12, c13, c14⟩ := id HG5.out.ent
      obtain ⟨r0, r1, r2, r3, r4, r5, r6, r7, r8, r9, r10, r11, r12⟩ := id (show RawAt w5 w.heap.size { rawE e with kind := 83 } from RawAt.of_row HG5.out.raw)
      change _ = some (Value.int .u8 83) at r5
      have v8 := fun d os => cell_regrown c8 d os
      have v13 := fun d os => cell_regrown c13 d os
      have x0 := fun d os => cell_regrown r0 d os
      have x1 := fun d os => cell_regrown r1 d os
      have x2 := fun d os => cell_regrown r2 d os
      have x3 := fun d os => cell_regrown r3 d os
      have x4 := fun d os => cell_regrown r4 d os
      have x5 := fun d os => cell_regrown r5 d os
      have x6 := fun d os => cell_regrown r6 d os
      have x7 := fun d os => cell_regrown r7 d os
      have x8 := fun d os => cell_regrown r8 d os
      have x9 := fun d os => cell_regrown r9 d os
      have x10 := fun d os => cell_regrown r10 d os
      have x11 := fun d os => cell_regrown r11 d os
      have x12 := fun d os => cell_regrown r12 d os
      clear c0 c1 c2 c3 c4 c5 c6 c7 c8 c9 c10 c11 c12 c13 c14 r0 r1 r2 r3 r4 r5 r6 r7 r8 r9 r10 r11 r12
      refine wp_region_quiet_below (by kernel_rfl) (by kernel_rfl) ?_
      repeat (go_big_quiet_step (first
        | (go_at_call 158; with_reducible exact Calls.regrown_of (CC1.out _))
        | (go_at_call 158; with_reducible exact Calls.regrown_of (CC2.out _))
        | (go_at_call 89; with_reducible exact Calls.regrown_of (CW.out _))))
      refine wpQuiet_nil ?_
      intro _ hw'
      obtain ⟨⟨dq, osq⟩, hw''⟩ := hw'
      subst hw''
      have HG6 := Lib.hid (HG5.out.next (below_regrown _ dq osq))
      clear v8 v13 x0 x1 x2 x3 x4 x5 x6 x7 x8 x9 x10 x11 x12
      dsimp only at *
      generalize Sort.grow (redrawn _ dq) osq = w6 at *
      go_wp2_with fail
      try go_ret2
      exact ⟨rfl, HG6.out.below⟩
end Go.Proofs.YthnonmniponahaaGreatDoor
end
