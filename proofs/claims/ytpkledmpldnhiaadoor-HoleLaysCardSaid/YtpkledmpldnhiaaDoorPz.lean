/- Lists of pieces that come in as arguments; Right, Size and the reference's. -/
import Derived.Test.YtpkledmpldnhiaaDoorRun
import Derived.SizedLaws
import Derived.Deep.SlicePairs
import Derived.Carry
import Derived.ChangeMaps5
import Derived.Deep.LoopGhost
import Derived.OpenShut
namespace Go.Proofs.YtpkledmpldnhiaaDoor
open Go.RowKit Go.Joins
set_option linter.unusedVariables false

/-- A list of pieces lies behind the address. -/
def PiecesAt (W : World) (ad : Option Addr) (l : List Pc) : Prop :=
  ∀ (i : Nat) (p : Pc), l[i]? = some p → ∃ b off, ad = some ⟨b, off, none⟩ ∧ b < W.heap.size ∧ W.cell? ⟨b, off + i * 2, none⟩ = some (.int .i64 p.1) ∧ W.cell? ⟨b, off + i * 2 + 1, none⟩ = some (.int .i64 p.2)
theorem PiecesAt.below {W W' : World} {ad : Option Addr} {l : List Pc} (h : PiecesAt W ad l) (hb : Below W.heap.size W W') : PiecesAt W' ad l := fun i p hi => by
  obtain ⟨b, off, h1, h2, h3, h4⟩ := h i p hi
  exact ⟨b, off, h1, Nat.lt_of_lt_of_le h2 hb.size, (hb.cell (p := ⟨b, off + i * 2, none⟩) h2).trans h3, (hb.cell (p := ⟨b, off + i * 2 + 1, none⟩) h2).trans h4⟩
/-- The pieces in one block. -/
def RowAt (W : World) (b off : Nat) (l : List Pc) : Prop :=
  ∀ (i : Nat) (p : Pc), l[i]? = some p → W.cell? ⟨b, off + i * 2, none⟩ = some (.int .i64 p.1) ∧ W.cell? ⟨b, off + i * 2 + 1, none⟩ = some (.int .i64 p.2)
theorem RowAt.below {W W' : World} {b off : Nat} {l : List Pc} (hlt : b < W.heap.size) (h : RowAt W b off l) (hb : Below W.heap.size W W') : RowAt W' b off l := fun i p hi => by
  obtain ⟨h3, h4⟩ := h i p hi
  exact ⟨(hb.cell (p := ⟨b, off + i * 2, none⟩) hlt).trans h3, (hb.cell (p := ⟨b, off + i * 2 + 1, none⟩) hlt).trans h4⟩
theorem PiecesAt.cases {W : World} {ad : Option Addr} {l : List Pc} (h : PiecesAt W ad l) : l = [] ∨ ∃ b off, ad = some ⟨b, off, none⟩ ∧ b < W.heap.size ∧ RowAt W b off l := by
  cases l with
  | nil => exact Or.inl rfl
  | cons q l =>
    right
    obtain ⟨b, off, h1, h2, _⟩ := h 0 q rfl
    refine ⟨b, off, h1, h2, fun i p hi => ?_⟩
    obtain ⟨b', off', h1', _, h3, h4⟩ := h i p hi
    rw [h1] at h1'
    cases h1'
    exact ⟨h3, h4⟩
/-- Numbers of 64 bits. -/
def Fits (l : List Pc) : Prop := ∀ p ∈ l, (-9223372036854775808 ≤ p.1 ∧ p.1 ≤ 9223372036854775807) ∧ (-9223372036854775808 ≤ p.2 ∧ p.2 ≤ 9223372036854775807)
/-- A piece, as a datum. -/
abbrev pcD {H : Type} (p : Pc) : DataW H := .agg [.lit (.int .i64 p.1), .lit (.int .i64 p.2)]

theorem spot_of_cell {w : World} {a : Addr} {v : Value} (h : w.cell? a = some v) : a.spot = none := by
  unfold World.cell? at h
  split at h
  · cases hs : a.spot with
    | none => rfl
    | some x => rw [hs] at h; simp at h
  · cases h
theorem open_pieces {H : Type} {enc : TypeId × Value → H} {P : Program} {t e : TypeId} {f0 f1 : Field} {W : World} {r : Reach} {b0 : Nat} {v : Value} {d : DataW H} {ps : List MemPlace} (ht : P.underlying t = some (.slice e)) (he : P.underlying e = some (.struct #[f0, f1]))
    (ce : P.cellsOf e = 2) (o0 : f0.offset = 0) (o1 : f1.offset = 1) (c0 : P.cellsOf f0.type = 1) (c1 : P.cellsOf f1.type = 1) (u0 : P.underlying f0.type = some (.int .i64)) (u1 : P.underlying f1.type = some (.int .i64))
    (hval : Value.okWide P W r b0 t v) (hd : DataW.Trod enc P W 0 (fun _ => true) true t v d ps) :
    ∃ ad cap l, v = .slice ad l.length cap ∧ l.length ≤ maxLen ∧ PiecesAt W ad l ∧ Fits l := by
  obtain ⟨a, n, c, rfl⟩ := Go.WideShapes.okWide_slice ht hval
  obtain ⟨fuel, hf⟩ := hd
  have hcells : (Value.slice a n c).cells = #[.slice a n c] := by simp [Value.cells]
  rw [hcells] at hf
  rcases Go.Deep.open_slice_pairs ht he ce o0 o1 c0 c1 hf with ⟨h0, h00⟩ | ⟨a', len, cap, m, nn, V0, V1, D0, D1, P0, P1, h1, _, h3, h4, h5, h6, h7⟩
  · have : Value.slice a n c = .slice none 0 0 := by simpa using h0
    injection this with e1 e2 e3
    subst e1 e2 e3
    exact ⟨none, 0, [], rfl, by unfold maxLen; simp, fun i p hi => by simp at hi, fun p hp => by simp at hp⟩
  · have : Value.slice a n c = .slice (some a') len cap := by simpa using h1
    injection this with e1 e2 e3
    subst e1 e2 e3
    have hm : n ≤ m := by rw [h5]; split <;> omega
    have each : ∀ i, i < n → ∃ q : Int × Int, V0 i = .int .i64 q.1 ∧ V1 i = .int .i64 q.2 ∧ (Lit.int .i64 q.1).wf = true ∧ (Lit.int .i64 q.2).wf = true := fun i hi => by
      obtain ⟨_, _, g0, g1⟩ := h7 i (by omega)
      obtain ⟨s0, x1, x2, x3⟩ := DataW.trod_int u0 g0
      obtain ⟨s1, y1, y2, y3⟩ := DataW.trod_int u1 g1
      exact ⟨(s0, s1), by simpa using x1, by simpa using y1, x3, y3⟩
    obtain ⟨q, hq⟩ := Go.Deep.choose_lt each
    have hl : ((List.range n).map fun i => ((q i).1, (q i).2)).length = n := by simp
    refine ⟨some a', c, (List.range n).map fun i => ((q i).1, (q i).2), by rw [hl], by rw [hl]; omega, fun i p hi => ?_, fun p hp => ?_⟩
    · obtain ⟨hi1, hi2⟩ := List.getElem?_eq_some_iff.1 hi
      rw [hl] at hi1
      rw [List.getElem_map, List.getElem_range] at hi2
      subst hi2
      obtain ⟨g0, g1, _, _⟩ := h7 i (by omega)
      obtain ⟨q1, q2, _⟩ := hq i hi1
      have g00 := (h7 0 (by omega)).1
      rw [Nat.zero_mul, show a'.add 0 = a' from by unfold Addr.add; rw [if_pos rfl]] at g00
      have hsp := spot_of_cell g00
      rw [q1] at g0
      rw [q2] at g1
      obtain ⟨b, off, sp⟩ := a'
      subst hsp
      rw [Go.WideShapes.add_plain] at g0 g1
      exact ⟨b, off, rfl, World.block_lt_of_cell? _ _ g0, g0, g1⟩
    · obtain ⟨i, hi, rfl⟩ := List.mem_map.1 hp
      rw [List.mem_range] at hi
      obtain ⟨_, _, k1, k2⟩ := hq i hi
      have w1 := bounds_i64 k1
      have w2 := bounds_i64 k2
      exact ⟨w1, w2⟩

set_option maxHeartbeats 2000000 in
theorem sizeA_any (ad : Option Addr) (cap : Nat) (l : List Pc) (hl : l.length ≤ maxLen) (hF : Fits l) (w : World) (hM : PiecesAt w ad l) :
    Calls Tryd.prog 19 #[.slice ad l.length cap] w fun e w' => e = .returned (.int .i64 (sizeF 0 l)) ∧ Below w.heap.size w w' := by
  unfold maxLen at hl
  rcases hM.cases with rfl | ⟨b, off, rfl, hlt, hR⟩
  · clear hM hF
    go_enter Tryd.func19, Tryd.ntmps19
    go_wp2
    refine wp_loop_rounds 1 ?_
    rw [rounds_succ]
    go_wp2
    go_ret
    exact ⟨rfl, Below.refl _ _⟩
  · clear hM
    have HR := Lib.hid (fun w' hb => RowAt.below (W' := w') hlt hR hb)
    have HF := Lib.hid hF
    clear hR hF hlt
    go_enter Tryd.func19, Tryd.ntmps19
    go_wp2
    go_loopg [3, 8] l.length (fun g s2 s8 wr => ∃ i : Nat, i ≤ l.length ∧ l.length - i ≤ g ∧ s2 = .int .i64 (sizeF 0 (l.take i)) ∧ s8 = .int .i64 i ∧ Aside (Below w.heap.size w wr))
    case atStart => exact ⟨0, by omega, by omega, rfl, rfl, (show Aside _ from Below.refl _ _)⟩
    case round =>
      obtain ⟨i, hi, hg, rfl, rfl, A⟩ := hrel
      by_cases hil : i < l.length
      · obtain ⟨p, hp⟩ : ∃ p, l[i]? = some p := ⟨_, List.getElem?_eq_getElem hil⟩
        obtain ⟨c1, c2⟩ := HR.out wr A.out i p hp
        have hF := HF.out p (List.mem_of_getElem? hp)
        have HS := Lib.hid (sizeF_take hp 0)
        clear hp
        go_wp2
        go_roundg (l.length - (i + 1))
        case measure => omega
        case rel => exact ⟨i + 1, by omega, by omega, by rw [HS.out], by first | rfl | simp, (show Aside _ from A.out.alloc A.out.size _)⟩
      · go_wp2
        go_ret
        rw [List.take_of_length_le (by omega)]
        exact ⟨rfl, A.out⟩
set_option maxHeartbeats 2000000 in
theorem sizeB_any (ad : Option Addr) (cap : Nat) (l : List Pc) (hl : l.length ≤ maxLen) (hF : Fits l) (w : World) (hM : PiecesAt w ad l) :
    Calls Tryd.prog 25 #[.slice ad l.length cap] w fun e w' => e = .returned (.int .i64 (sizeF 0 l)) ∧ Below w.heap.size w w' := by
  unfold maxLen at hl
  rcases hM.cases with rfl | ⟨b, off, rfl, hlt, hR⟩
  · clear hM hF
    go_enter Tryd.func25, Tryd.ntmps25
    go_wp2
    refine wp_loop_rounds 1 ?_
    rw [rounds_succ]
    go_wp2
    go_ret
    exact ⟨rfl, Below.refl _ _⟩
  · clear hM
    have HR := Lib.hid (fun w' hb => RowAt.below (W' := w') hlt hR hb)
    have HF := Lib.hid hF
    clear hR hF hlt
    go_enter Tryd.func25, Tryd.ntmps25
    go_wp2
    go_loopg [3, 8] l.length (fun g s2 s8 wr => ∃ i : Nat, i ≤ l.length ∧ l.length - i ≤ g ∧ s2 = .int .i64 (sizeF 0 (l.take i)) ∧ s8 = .int .i64 i ∧ Aside (Below w.heap.size w wr))
    case atStart => exact ⟨0, by omega, by omega, rfl, rfl, (show Aside _ from Below.refl _ _)⟩
    case round =>
      obtain ⟨i, hi, hg, rfl, rfl, A⟩ := hrel
      by_cases hil : i < l.length
      · obtain ⟨p, hp⟩ : ∃ p, l[i]? = some p := ⟨_, List.getElem?_eq_getElem hil⟩
        obtain ⟨c1, c2⟩ := HR.out wr A.out i p hp
        have hF := HF.out p (List.mem_of_getElem? hp)
        have HS := Lib.hid (sizeF_take hp 0)
        clear hp
        go_wp2
        go_roundg (l.length - (i + 1))
        case measure => omega
        case rel => exact ⟨i + 1, by omega, by omega, by rw [HS.out], by first | rfl | simp, (show Aside _ from A.out.alloc A.out.size _)⟩
      · go_wp2
        go_ret
        rw [List.take_of_length_le (by omega)]
        exact ⟨rfl, A.out⟩

theorem mapRight_false_size {l : List Pc} {size : Int} (h : size < 0) : mapRight l size = false := by
  unfold mapRight; rw [decide_eq_false (by omega), Bool.false_and]
theorem mapRight_false_long {l : List Pc} {size : Int} (h : 20 < l.length) : mapRight l size = false := by
  unfold mapRight; rw [decide_eq_false (by omega : ¬ l.length ≤ 20), Bool.false_and, Bool.and_false]
theorem mapRight_false_at {l : List Pc} {size : Int} {i : Nat} {p : Pc} (hp : l[i]? = some p) (h : p.1 ≤ endE (-1) (l.take i) ∨ p.2 < 1 ∨ size - p.1 < p.2) : mapRight l size = false := by
  unfold mapRight
  have : rightF size (-1) l = false := rightF_false (i := i + 1) (by
    cases hh : rightF size (-1) (l.take (i + 1)) with
    | false => rfl
    | true => have := (rightF_take hp).1 hh; omega)
  rw [this, Bool.and_false, Bool.and_false]
theorem mapRight_true {l : List Pc} {size : Int} (h0 : 0 ≤ size) (h1 : l.length ≤ 20) (h2 : rightF size (-1) l = true) : mapRight l size = true := by
  unfold mapRight; rw [decide_eq_true h0, decide_eq_true h1, h2]; rfl
theorem mapRight_inv {l : List Pc} {size : Int} (h : mapRight l size = true) : 0 ≤ size ∧ l.length ≤ 20 ∧ rightF size (-1) l = true := by
  unfold mapRight at h
  rw [Bool.and_eq_true, Bool.and_eq_true, decide_eq_true_iff, decide_eq_true_iff] at h
  exact h
theorem mapRight_nil {size : Int} (h : 0 ≤ size) : mapRight [] size = true := mapRight_true h (by simp) rfl

set_option maxHeartbeats 2000000 in
theorem rightA_any (ad : Option Addr) (cap : Nat) (l : List Pc) (size : Int) (hs : -9223372036854775808 ≤ size ∧ size ≤ 9223372036854775807) (hl : l.length ≤ maxLen) (hF : Fits l) (w : World) (hM : PiecesAt w ad l) :
    Calls Tryd.prog 18 #[.slice ad l.length cap, .int .i64 size] w fun e w' => e = .returned (.bool (mapRight l size)) ∧ Below w.heap.size w w' := by
  unfold maxLen at hl
  by_cases h0 : size < 0
  · rw [mapRight_false_size h0]
    clear hM hF
    go_enter Tryd.func18, Tryd.ntmps18
    go_wp2
    go_ret
    exact ⟨rfl, Below.refl _ _⟩
  by_cases h20 : (20 : Int) < (l.length : Int)
  · rw [mapRight_false_long (by omega)]
    clear hM hF
    go_enter Tryd.func18, Tryd.ntmps18
    go_wp2
    go_ret
    exact ⟨rfl, Below.refl _ _⟩
  rcases hM.cases with rfl | ⟨b, off, rfl, hlt, hR⟩
  · rw [mapRight_nil (by omega)]
    clear hM hF
    go_enter Tryd.func18, Tryd.ntmps18
    go_wp2
    refine wp_loop_rounds 1 ?_
    rw [rounds_succ]
    go_wp2
    go_ret
    exact ⟨rfl, Below.refl _ _⟩
  · clear hM
    have HR := Lib.hid (fun w' hb => RowAt.below (W' := w') hlt hR hb)
    have HF := Lib.hid hF
    clear hR hF hlt
    go_enter Tryd.func18, Tryd.ntmps18
    go_wp2
    go_loopg [5, 17] l.length (fun g s2 s8 wr => ∃ i : Nat, i ≤ l.length ∧ l.length - i ≤ g ∧ s2 = .int .i64 (endE (-1) (l.take i)) ∧ s8 = .int .i64 i ∧ Aside (Below w.heap.size w wr ∧ rightF size (-1) (l.take i) = true))
    case atStart => exact ⟨0, by omega, by omega, rfl, rfl, (show Aside _ from ⟨Below.refl _ _, rfl⟩)⟩
    case round =>
      obtain ⟨i, hi, hg, rfl, rfl, A⟩ := hrel
      by_cases hil : i < l.length
      · obtain ⟨p, hp⟩ : ∃ p, l[i]? = some p := ⟨_, List.getElem?_eq_getElem hil⟩
        obtain ⟨c1, c2⟩ := HR.out wr A.out.1 i p hp
        have hF := HF.out p (List.mem_of_getElem? hp)
        have hlow := (rightF_end _ _ A.out.2).1
        generalize hE : endE (-1) (l.take i) = E at hlow
        by_cases hbad : p.1 ≤ E ∨ p.2 < 1 ∨ size - p.1 < p.2
        · have HX := Lib.hid (mapRight_false_at (size := size) hp (by rw [hE]; exact hbad))
          clear hE hp
          by_cases h1 : p.1 ≤ E
          · go_wp2
            go_ret
            exact ⟨by rw [HX.out]; rfl, A.out.1.alloc A.out.1.size _⟩
          by_cases h2 : p.2 < 1
          · go_wp2
            go_ret
            exact ⟨by rw [HX.out]; rfl, A.out.1.alloc A.out.1.size _⟩
          have h3 : size - p.1 < p.2 := by omega
          go_wp2
          go_ret
          exact ⟨by rw [HX.out]; rfl, A.out.1.alloc A.out.1.size _⟩
        · have h1 : E < p.1 := by omega
          have h2 : 1 ≤ p.2 := by omega
          have h3 : p.2 ≤ size - p.1 := by omega
          have HS := Lib.hid (endE_take hp (-1))
          have HT := Lib.hid ((rightF_take hp).2 ⟨A.out.2, by rw [hE]; exact h1, h2, h3⟩)
          clear hbad hE hp
          go_wp2
          go_roundg (l.length - (i + 1))
          case measure => omega
          case rel => exact ⟨i + 1, by omega, by omega, by rw [HS.out], by first | rfl | simp, (show Aside _ from ⟨A.out.1.alloc A.out.1.size _, HT.out⟩)⟩
      · go_wp2
        go_ret
        have hr := A.out.2
        rw [List.take_of_length_le (by omega)] at hr
        rw [mapRight_true (by omega) (by omega) hr]
        exact ⟨rfl, A.out.1⟩
end Go.Proofs.YtpkledmpldnhiaaDoor
