/- The reference's globAll: what one call of it does. -/
import Derived.Test.YtcdoiadmnckccaaDoorMem
import Derived.Test.YtcdoiadmnckccaaDoorRsn
import Derived.Test.YtcdoiadmnckccaaDoorGis
namespace Go.Proofs.YtcdoiadmnckccaaDoor
set_option linter.unusedVariables false
set_option linter.unusedSimpArgs false
open Go.RowKit Go.Joins Go.Maps
set_option maxRecDepth 100000

/-- What globAll tells: x; the memo bears no new key of a sum k or more. -/
abbrev CallIs (b : Nat) (M : Nat → Nat → Bool) (x : Bool) (k : Nat) (w : World) (H : Nat → Nat → Bool) (e : Ending) (w' : World) : Prop :=
  e = .returned (.bool x) ∧ ∃ H', Memo w' b M H' ∧ (∀ i j, k ≤ i + j → H' i j = H i j) ∧ But w.heap.size b w w'
abbrev Tells (b : Nat) (M : Nat → Nat → Bool) (x : Bool) (k : Nat) (R T : ByteArray) : Prop :=
  ∀ (W : World) (H : Nat → Nat → Bool), Memo W b M H → Calls Tryd.prog 8 #[.string R, .string T, .map (some b)] W (CallIs b M x k W H)

/-- Where a call stands: the key lies in block c. -/
structure Amid (b : Nat) (M : Nat → Nat → Bool) (w : World) (H : Nat → Nat → Bool) (i j c : Nat) (W : World) (H2 : Nat → Nat → Bool) : Prop where
  memo : Memo W b M H2
  same : ∀ x y, i + j ≤ x + y → H2 x y = H x y
  but : But w.heap.size b w W
  key : Kept W c i j
  own : c < W.heap.size
  apart : c ≠ b
theorem Amid.first {b : Nat} {M : Nat → Nat → Bool} {w : World} {H : Nat → Nat → Bool} (h : Memo w b M H) (i j : Nat) : Amid b M w H i j w.heap.size (w.alloc (.cells #[.int .i64 (i : Int), .int .i64 (j : Int)] 51)) H := by
  have hb := below_alloc1 w (.cells #[.int .i64 (i : Int), .int .i64 (j : Int)] 51)
  have hl := h.lt
  refine ⟨h.below hb, fun _ _ _ => rfl, But.of_below hb, ⟨?_, ?_⟩, by simp, by omega⟩
  · rw [World.cell?_alloc_new]; rfl
  · rw [World.cell?_alloc_new]; rfl
theorem Amid.call {b : Nat} {M : Nat → Nat → Bool} {w : World} {H : Nat → Nat → Bool} {i j c : Nat} {W W2 : World} {H2 H3 : Nat → Nat → Bool} (h : Amid b M w H i j c W H2) (hm : Memo W2 b M H3) (hs : ∀ x y, i + j ≤ x + y → H3 x y = H2 x y) (hb : But W.heap.size b W W2) : Amid b M w H i j c W2 H3 :=
  ⟨hm, fun x y hxy => (hs x y hxy).trans (h.same x y hxy), h.but.trans (hb.mono h.but.size), h.key.but hb h.own h.apart, Nat.lt_of_lt_of_le h.own hb.size, h.apart⟩
theorem Amid.below {b : Nat} {M : Nat → Nat → Bool} {w : World} {H : Nat → Nat → Bool} {i j c : Nat} {W W2 : World} {H2 : Nat → Nat → Bool} (h : Amid b M w H i j c W H2) (hb : Below W.heap.size W W2) : Amid b M w H i j c W2 H2 :=
  h.call (h.memo.below hb) (fun _ _ _ => rfl) (But.of_below hb)
theorem Amid.done {b : Nat} {M : Nat → Nat → Bool} {w : World} {H : Nat → Nat → Bool} {i j c : Nat} {W W3 : World} {H2 : Nat → Nat → Bool} (h : Amid b M w H i j c W H2) (hm : Memo W3 b M (told H2 i j)) (hg : W.grownBy W3 (some b)) {x : Bool} : CallIs b M x (i + j + 1) w H (.returned (.bool x)) W3 := by
  refine ⟨rfl, _, hm, fun x y hxy => ?_, h.but.grown hg h.but.size⟩
  have hne : ¬ (x = i ∧ y = j) := by omega
  rw [← h.same x y (by omega)]
  simp [told, hne]

set_option maxHeartbeats 2000000 in
theorem all_hit (b : Nat) (M H : Nat → Nat → Bool) (S T : ByteArray) (i j : Nat) (sp : S.size = i) (sn : T.size = j) (hi : i ≤ 120) (hj : j ≤ 120) (w : World) (hme : Memo w b M H) (hh : H i j = true) :
    Calls Tryd.prog 8 #[.string S, .string T, .map (some b)] w (CallIs b M (M i j) (i + j + 1) w H) := by
  have A := Lib.hid (Amid.first hme i j)
  obtain ⟨v, lk, hv⟩ := A.out.memo.look hi hj
  rw [hh] at lk
  have hv := hv hh
  subst hv
  clear hme
  go_enter Tryd.func8, Tryd.ntmps8
  go_wp2_with fail
  go_ret
  exact ⟨rfl, H, A.out.memo, fun _ _ _ => rfl, A.out.but⟩

end Go.Proofs.YtcdoiadmnckccaaDoor
