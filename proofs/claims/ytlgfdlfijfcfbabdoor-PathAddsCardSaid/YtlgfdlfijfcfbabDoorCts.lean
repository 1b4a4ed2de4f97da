/- slices.Grow from nothing, slices.Concat at a few lists of texts; slices.Equal. -/
import Derived.Test.YtlgfdlfijfcfbabDoorPtn
import Derived.Test.YtlgfdlfijfcfbabDoorSl
import Derived.Laws.AppendOwnNone
import Derived.Lib.AppendZeros
import Derived.OwnWalk
import Derived.Deep.LoopGhost
namespace Go.Proofs.YtlgfdlfijfcfbabDoor
open Go.RowKit Go.Joins
set_option linter.unusedVariables false

theorem below_grown {w W w1 : World} {v : Value} {base : Nat} {e : TypeId} {size n : Nat} {xs : List Value} (hB : Below w.heap.size w W) (hrow : W.ownsRow base e size v n xs) (hb : w.heap.size ≤ base) (hg : W.grownBy w1 v.ownBlock) : Below w.heap.size w w1 :=
  hB.grown hg hB.size fun j ej => by
    rcases hrow.2 with ⟨rfl, _⟩ | ⟨g, cap, cur, rfl, hbg, _, _⟩
    · simp [Value.ownBlock] at ej
    · obtain rfl : g = j := by simpa [Value.ownBlock] using ej
      omega
theorem slIs_none {w : World} {n cap : Nat} {L : List (List UInt8)} (h : SlIs w (.slice none n cap) L) : L = [] ∧ cap = 0 := by
  obtain ⟨ad', cap', e, _, ⟨b, off, e2, _⟩ | ⟨_, e2, e3⟩⟩ := h
  · injection e with e1 _ _; rw [← e1] at e2; cases e2
  · injection e with _ _ e4; exact ⟨e3, by omega⟩
/-- The cells of a slice of texts, from an address on. -/
theorem SlIs.cells {w : World} {a : Addr} {n cap : Nat} {L : List (List UInt8)} (h : SlIs w (.slice (some a) n cap) L) : ∀ j u, (L.map encS)[j]? = some u → w.cell? (a.add j) = some u := by
  intro j u hj
  rw [List.getElem?_map] at hj
  obtain ⟨x, h1, h2⟩ := Option.map_eq_some_iff.1 hj
  obtain ⟨b, o, e, hc, _⟩ := h.at j x h1
  injection e with e
  subst e
  rw [Go.WideShapes.add_plain, ← h2]
  exact hc
theorem encS_one (L : List (List UInt8)) : ∀ u ∈ L.map encS, u.oneCell' = true := by
  intro u hu
  obtain ⟨x, _, rfl⟩ := List.mem_map.1 hu
  rfl

set_option maxHeartbeats 1000000 in
theorem grow_nil (w : World) :
    Calls Tryd.prog 19 #[.slice none 0 0, .int .i64 0] w fun e w' => (∃ v, e = .returned v ∧ w'.ownsRow w.heap.size 9 1 v 0 []) ∧ Below w.heap.size w w' := by
  go_enter Tryd.func19, Tryd.ntmps19
  go_wp2
  go_ret
  exact ⟨⟨_, rfl, World.ownsRow_nil _ _ _ _⟩, Below.refl _ _⟩

set_option maxHeartbeats 1000000 in
theorem grow_some (n : Nat) (h0 : 0 < n) (hn : n ≤ 100000) (w : World) :
    Calls Tryd.prog 19 #[.slice none 0 0, .int .i64 (n : Int)] w fun e w' => (∃ v, e = .returned v ∧ w'.ownsRow w.heap.size 9 1 v 0 []) ∧ Below w.heap.size w w' := by
  obtain ⟨i0, hi, hz0, hz1, hz2⟩ := info_parts Tryd.infoStr
  have hrz := Lib.run_append_nil_zeros w 27 3 27 9 i0 (.string ByteArray.empty) .i64 .i64 Tryd.underlying27 Tryd.underlying3 hi hz0 n h0 (by rw [hz1]; decide) (by omega) (by rw [hz2]; omega)
  have hG := grownCap_ge w n 0 9
  have hGm := grownCap_le_maxLen w n 0 9 (by unfold maxLen; omega)
  generalize grownCap w n 0 9 = G at *
  have hcs : (Builtin.zeroCells (Value.string ByteArray.empty).cells n ++ Builtin.zeroCells (Value.string ByteArray.empty).cells (G - n)).size = G * 1 := by
    rw [Array.size_append, size_zeroCells, size_zeroCells, show (Value.string ByteArray.empty).cells.size = 1 from rfl]; omega
  generalize Builtin.zeroCells (Value.string ByteArray.empty).cells n ++ Builtin.zeroCells (Value.string ByteArray.empty).cells (G - n) = cs at *
  have hn0 : (0 : Int) < (n : Int) := by omega
  have hn1 : ¬ (n : Int) < 0 := by omega
  have hGi : (0 : Int) ≤ (G : Int) := by omega
  have HR := Lib.hid (show (w.drew.alloc (.cells cs 9)).ownsRow w.heap.size 9 1 (.slice (some ⟨w.heap.size, 0, none⟩) 0 G) 0 [] from ⟨rfl, Or.inr ⟨w.heap.size, G, cs, rfl, Nat.le_refl _, World.alloc_heap_new w.drew _, Nat.zero_le _, hGm, hcs, rfl⟩⟩)
  have hB : Below w.heap.size w (w.drew.alloc (.cells cs 9)) := ((Below.refl _ w).drew).alloc (Nat.le_refl _) _
  clear hcs hi hz0 hz1 hz2
  unfold maxLen at hGm
  go_enter Tryd.func19, Tryd.ntmps19
  go_wp2_with (at_builtin; refine Lib.wpList_append_run _ rfl _ _ 27 3 rfl _ _ rfl rfl _ _ hrz ?_)
  go_ret
  exact ⟨⟨_, rfl, HR.out⟩, hB⟩
theorem grow_any (n : Nat) (hn : n ≤ 100000) (w : World) :
    Calls Tryd.prog 19 #[.slice none 0 0, .int .i64 (n : Int)] w fun e w' => (∃ v, e = .returned v ∧ w'.ownsRow w.heap.size 9 1 v 0 []) ∧ Below w.heap.size w w' := by
  rcases Nat.eq_zero_or_pos n with rfl | h
  · exact grow_nil w
  · exact grow_some n h hn w

/-- The first i lists, one behind the other. -/
def catTo (Ls : List (Value × List (List UInt8))) (i : Nat) : List (List UInt8) := (Ls.take i).flatMap fun y => y.2
theorem catTo_succ (Ls : List (Value × List (List UInt8))) (i : Nat) (x : Value × List (List UInt8)) (h : Ls[i]? = some x) : catTo Ls (i + 1) = catTo Ls i ++ x.2 := by
  unfold catTo; rw [List.take_add_one, h, List.flatMap_append]; simp
theorem flat_bound : ∀ (Ls : List (Value × List (List UInt8))), (∀ x ∈ Ls, x.2.length ≤ 1000) → (Ls.flatMap fun y => y.2).length ≤ 1000 * Ls.length
  | [], _ => by simp
  | x :: Ls, h => by
    have := flat_bound Ls fun y hy => h y (List.mem_cons_of_mem _ hy)
    have h1 := h x (List.mem_cons_self ..)
    rw [List.flatMap_cons, List.length_append, List.length_cons]; omega

set_option maxHeartbeats 4000000 in
theorem concat_any (gb : Nat) (cp : Nat) (Ls : List (Value × List (List UInt8))) (hk : Ls.length ≤ 3) (hl : ∀ x ∈ Ls, x.2.length ≤ 1000) (w : World) (hgb : gb < w.heap.size) (hc : ∀ (i : Nat) x, Ls[i]? = some x → w.cell? ⟨gb, i, none⟩ = some x.1 ∧ SlIs w x.1 x.2) :
    Calls Tryd.prog 11 #[.slice (some ⟨gb, 0, none⟩) Ls.length cp] w fun e w' => (∃ v, e = .returned v ∧ SlIs w' v (Ls.flatMap fun y => y.2)) ∧ Below w.heap.size w w' := by
  have htb : ∀ i, (catTo Ls i).length ≤ 3000 := fun i => by
    have := flat_bound (Ls.take i) fun x hx => hl x (List.mem_of_mem_take hx)
    have h2 : (Ls.take i).length ≤ Ls.length := by simp; omega
    unfold catTo
    omega
  have HC := Lib.hid (show ∀ (i : Nat) x W, Below w.heap.size w W → Ls[i]? = some x → W.cell? ⟨gb, i, none⟩ = some x.1 ∧ SlIs W x.1 x.2 from fun i x W hW hx => ⟨(hW.cell (p := ⟨gb, i, none⟩) hgb).trans (hc i x hx).1, (hc i x hx).2.below hW⟩)
  have HL := Lib.hid hl
  have HT := Lib.hid htb
  have HG := Lib.hid (fun n hn W => grow_any n hn W)
  obtain ⟨i0, hi, hz0, hz1, hz2⟩ := info_parts Tryd.infoStr
  have HI := Lib.hid (And.intro hi (And.intro hz0 (And.intro hz1 hz2)))
  clear hc hl htb hi hz0 hz1 hz2
  go_enter Tryd.func11, Tryd.ntmps11
  go_wp2
  go_loopg [11, 3] Ls.length (fun g s11 s3 wr => ∃ i : Nat, i ≤ Ls.length ∧ Ls.length - i ≤ g ∧ s11 = .int .i64 i ∧ s3 = .int .i64 ((catTo Ls i).length : Nat) ∧ Aside (Below w.heap.size w wr))
  case atStart => exact ⟨0, by omega, by omega, rfl, rfl, Below.refl _ _⟩
  case round =>
    obtain ⟨i, hi1, hg, rfl, rfl, A⟩ := hrel
    by_cases hil : i < Ls.length
    · obtain ⟨x, hx⟩ : ∃ x, Ls[i]? = some x := ⟨_, List.getElem?_eq_getElem hil⟩
      obtain ⟨c1, hP⟩ := HC.out i x wr A.out hx
      obtain ⟨ad, cap, hv, hn⟩ := hP.len
      rw [hv] at c1
      have hq := HT.out i
      have hxl := HL.out x (List.mem_of_getElem? hx)
      have HS := Lib.hid (catTo_succ Ls i x hx)
      clear hv hn hP hx
      obtain ⟨S0, hS0⟩ : ∃ S0, (catTo Ls i).length = S0 := ⟨_, rfl⟩
      obtain ⟨m, hm⟩ : ∃ m, x.2.length = m := ⟨_, rfl⟩
      have HM := Lib.hid (And.intro hS0 hm)
      rw [hS0] at hq ⊢
      rw [hm] at c1 hxl
      clear hS0 hm
      go_wp2
      go_roundg (Ls.length - (i + 1))
      case measure => omega
      case rel => exact ⟨i + 1, by omega, by omega, by first | rfl | simp, by rw [HS.out, List.length_append, HM.out.1, HM.out.2]; first | rfl | simp, A⟩
    · obtain rfl : i = Ls.length := by omega
      have hq := HT.out Ls.length
      obtain ⟨S0, hS0⟩ : ∃ S0, (catTo Ls Ls.length).length = S0 := ⟨_, rfl⟩
      rw [hS0] at hq ⊢
      clear hS0
      have HG2 := Lib.hid (show ∀ W, _ from fun W => HG.out S0 (by omega) W)
      go_wp2_with (go_at_call 19; refine (HG2.out _).mono ?_; rintro e w2 ⟨⟨v, rfl, hrow⟩, h2⟩)
      have A2 := Lib.hid (show Below w.heap.size w w2 ∧ w2.ownsRow w.heap.size 9 1 v (catTo Ls 0).length ((catTo Ls 0).map encS) from ⟨A.out.trans (h2.mono A.out.size), by
        obtain ⟨q1, q2⟩ := hrow
        refine ⟨q1, ?_⟩
        rcases q2 with q2 | ⟨g, cap, cur, e1, e2, e3⟩
        · exact Or.inl q2
        · exact Or.inr ⟨g, cap, cur, e1, Nat.le_trans A.out.size e2, e3⟩⟩)
      clear A hrow h2 hg hi1
      go_loopg [27, 6] Ls.length (fun g s27 s6 wr => ∃ i : Nat, i ≤ Ls.length ∧ Ls.length - i ≤ g ∧ s27 = .int .i64 i ∧ Aside (Below w.heap.size w wr ∧ wr.ownsRow w.heap.size 9 1 s6 (catTo Ls i).length ((catTo Ls i).map encS)))
      case atStart => exact ⟨0, by omega, by omega, rfl, A2.out⟩
      case round =>
        obtain ⟨i, hi1, hg, rfl, A⟩ := hrel
        by_cases hil2 : i < Ls.length
        · obtain ⟨x, hx⟩ : ∃ x, Ls[i]? = some x := ⟨_, List.getElem?_eq_getElem hil2⟩
          obtain ⟨c1, hP⟩ := HC.out i x wr A.out.1 hx
          obtain ⟨ad, cap, hv, hn⟩ := hP.len
          rw [hv] at hP
          rw [hv] at c1
          have hxl := HL.out x (List.mem_of_getElem? hx)
          have hq := HT.out i
          have HS := Lib.hid (catTo_succ Ls i x hx)
          have hz := A.out.1.size
          have HA := Lib.hid A.out
          cases ad with
          | none =>
            obtain ⟨hx0, hcap0⟩ := slIs_none hP
            rw [hx0, hcap0] at c1
            replace c1 : wr.cell? ⟨gb, i, none⟩ = some (.slice none 0 0) := c1
            have hcs : catTo Ls (i + 1) = catTo Ls i := by rw [HS.out, hx0, List.append_nil]
            have HCS := Lib.hid hcs
            clear hv hn hP hx hx0 hcs A HS hxl hcap0
            obtain ⟨hi, hz0, hz1, hz2⟩ := HI.out
            go_wp2_with (at_builtin; refine wpList_append_own_none rfl _ _ 27 rfl w.heap.size 9 i0 1 Tryd.underlying27 hi _ _ _ rfl HA.out.2 rfl ?_)
            go_roundg (Ls.length - (i + 1))
            case measure => omega
            case rel => exact ⟨i + 1, by omega, by omega, by first | rfl | simp, by rw [HCS.out]; exact HA.out⟩
          | some a =>
            have HP := Lib.hid hP
            obtain ⟨m, hm⟩ : ∃ m, x.2.length = m := ⟨_, rfl⟩
            obtain ⟨S0, hS0⟩ : ∃ S0, (catTo Ls i).length = S0 := ⟨_, rfl⟩
            rw [hm] at c1 hxl
            rw [hS0] at hq
            have HM := Lib.hid (And.intro hS0 hm)
            clear hv hn hP hx A hS0 hm
            obtain ⟨hi, hz0, hz1, hz2⟩ := HI.out
            go_wp2_with (at_builtin; refine wpList_append_own _ rfl _ _ 27 rfl w.heap.size 9 i0 (.string ByteArray.empty) 1 16 Tryd.underlying27 hi hz0 hz1 hz2 rfl (by decide) _ _ _ rfl HA.out.2 a m cap (x.2.map encS) rfl (by rw [List.length_map, HM.out.2, Nat.mul_one]) HP.out.cells (encS_one _) (by rw [HM.out.1]; unfold maxLen; omega) (by rw [HM.out.1]; omega) hz ?_; intro v' w1 hown' hgrow _)
            have HO := Lib.hid (show Below w.heap.size w w1 ∧ w1.ownsRow w.heap.size 9 1 v' (catTo Ls (i + 1)).length ((catTo Ls (i + 1)).map encS) from ⟨below_grown HA.out.1 HA.out.2 (Nat.le_refl _) hgrow, by rw [HS.out, List.map_append, List.length_append, HM.out.2]; exact hown'⟩)
            clear hown' hgrow
            go_roundg (Ls.length - (i + 1))
            case measure => omega
            case rel => exact ⟨i + 1, by omega, by omega, by first | rfl | simp, HO.out⟩
        · obtain rfl : i = Ls.length := by omega
          have HA := Lib.hid A.out
          clear A
          go_wp2
          go_ret
          exact ⟨⟨_, rfl, by
            have h := slIs_of_own HA.out.2
            unfold catTo at h
            rwa [List.take_length] at h⟩, HA.out.1⟩
end Go.Proofs.YtlgfdlfijfcfbabDoor
