/- A memo: a map of bools, keyed by two numbers; a world that keeps all but a block. -/
import Derived.Test.YtcdoiadmnckccaaDoorLet
import Derived.DeepKeys4
import Derived.WideKeyPair
namespace Go.Proofs.YtcdoiadmnckccaaDoor
set_option linter.unusedVariables false
set_option linter.unusedSimpArgs false
open Go.RowKit Go.Joins Go.Maps
set_option maxRecDepth 100000

theorem pair_arr : WideMaps.ArrKey Tryd.prog 51 3 2 := ⟨Tryd.underlying51, by kernel_rfl, by kernel_rfl, by kernel_rfl⟩
theorem pair_laid : laidOutB Tryd.prog = true := by kernel_rfl
theorem pair_row : (51 : TypeId) < Tryd.prog.types.size := of_decide_eq_true (by kernel_rfl)
theorem pair_law : WideMaps.KeyLaw Tryd.prog 51 := deep_law_laid pair_laid (m := 2) (by omega) pair_row (by kernel_rfl) (by rw [Tryd.underlying51])
theorem pair_keyed : Keyed Tryd.prog 51 := Keyed.of_law pair_law
def kl (i j : Nat) : Lit := .string (keyBytes [.int .i64 (i : Int), .int .i64 (j : Int)])
theorem i64_wf {i : Nat} (h : i ≤ 1000) : (Lit.int .i64 (i : Int)).wf = true := by
  have h1 : IntKind.i64.min = -9223372036854775808 := by decide
  have h2 : IntKind.i64.max = 9223372036854775807 := by decide
  simp [Lit.wf, h1, h2]; omega
theorem kl_key {i j : Nat} (hi : i ≤ 1000) (hj : j ≤ 1000) : keyOf Tryd.prog 51 (.agg #[.int .i64 (i : Int), .int .i64 (j : Int)]) = some (kl i j) :=
  WideMaps.keyOf_pair pair_arr Tryd.underlying3 ⟨Tryd.prog.types.size - 1, (Nat.sub_add_cancel (Nat.lt_of_le_of_lt (Nat.zero_le _) pair_row)).symm⟩ (i64_wf hi) (i64_wf hj)
theorem kl_inj {i j i2 j2 : Nat} (hi : i ≤ 1000) (hj : j ≤ 1000) (hi2 : i2 ≤ 1000) (hj2 : j2 ≤ 1000) (h : kl i j = kl i2 j2) : i = i2 ∧ j = j2 := by
  have h1 := kl_key hi hj
  rw [h] at h1
  have h2 := pair_keyed.inj h1 (kl_key hi2 hj2)
  simp only [Value.agg.injEq, Array.mk.injEq, List.cons.injEq, Value.int.injEq, true_and, and_true] at h2
  omega
theorem kl_isKey (i j : Nat) : WideAt.IsKeyLit (kl i j) := by unfold kl; trivial

/-! ### How many are told -/
def spots : List (Nat × Nat) := (List.range 121).flatMap fun i => (List.range 121).map fun j => (i, j)
theorem spots_len : spots.length = 14641 := by decide +kernel
theorem spots_mem {i j : Nat} (hi : i ≤ 120) (hj : j ≤ 120) : (i, j) ∈ spots := by
  unfold spots
  rw [List.mem_flatMap]
  exact ⟨i, List.mem_range.2 (by omega), List.mem_map.2 ⟨j, List.mem_range.2 (by omega), rfl⟩⟩
def tally (H : Nat → Nat → Bool) : Nat := spots.countP fun x => H x.1 x.2
theorem tally_le (H : Nat → Nat → Bool) : tally H ≤ 14641 := by
  have := List.countP_le_length (p := fun x : Nat × Nat => H x.1 x.2) (l := spots)
  rw [spots_len] at this
  exact this
def told (H : Nat → Nat → Bool) (a b : Nat) : Nat → Nat → Bool := fun i j => if i = a ∧ j = b then true else H i j
theorem count_told (H : Nat → Nat → Bool) (a b : Nat) (h : H a b = false) : ∀ l : List (Nat × Nat), (a, b) ∈ l → (l.countP fun x => H x.1 x.2) + 1 ≤ l.countP fun x => told H a b x.1 x.2
  | [], h => by cases h
  | (i, j) :: l, hm => by
    have le : ∀ l : List (Nat × Nat), (l.countP fun x => H x.1 x.2) ≤ l.countP fun x => told H a b x.1 x.2 := by
      intro l
      refine List.countP_mono_left fun x _ hx => ?_
      unfold told; split
      · rfl
      · exact hx
    rw [List.countP_cons, List.countP_cons]
    by_cases e : i = a ∧ j = b
    · obtain ⟨rfl, rfl⟩ := e
      have h1 : told H i j i j = true := by simp [told]
      have := le l
      simp only [h, h1, if_true]
      simp
      omega
    · have hm2 : (a, b) ∈ l := by
        rcases List.mem_cons.1 hm with h2 | h2
        · exfalso; apply e; cases h2; exact ⟨rfl, rfl⟩
        · exact h2
      have := count_told H a b h l hm2
      have h1 : told H a b i j = H i j := by simp [told, e]
      simp only [h1]
      omega
theorem tally_told {H : Nat → Nat → Bool} {a b : Nat} (h : H a b = false) (ha : a ≤ 120) (hb : b ≤ 120) : tally H + 1 ≤ tally (told H a b) := count_told H a b h _ (spots_mem ha hb)

/-! ### All but a block -/
/-- The blocks below n but b stand as they stood. -/
structure But (n b : Nat) (w w' : World) : Prop where
  os : w'.os = w.os
  tape : w'.tape = w.tape
  output : w'.output = w.output
  size : w.heap.size ≤ w'.heap.size
  block : ∀ k, k < n → k ≠ b → w'.heap[k]? = w.heap[k]?
theorem But.of_below {n b : Nat} {w w' : World} (h : Below n w w') : But n b w w' := ⟨h.os, h.tape, h.output, h.size, fun k hk _ => h.block k hk⟩
theorem But.below {n b : Nat} {w w' : World} (h : But n b w w') (hn : n ≤ b) : Below n w w' := ⟨h.os, h.tape, h.output, h.size, fun k hk => h.block k hk (by omega)⟩
theorem But.trans {n b : Nat} {w w' w'' : World} (h : But n b w w') (k : But n b w' w'') : But n b w w'' := ⟨k.os.trans h.os, k.tape.trans h.tape, k.output.trans h.output, Nat.le_trans h.size k.size, fun i hi hb => (k.block i hi hb).trans (h.block i hi hb)⟩
theorem But.mono {n m b : Nat} {w w' : World} (h : But n b w w') (hm : m ≤ n) : But m b w w' := ⟨h.os, h.tape, h.output, h.size, fun k hk hb => h.block k (by omega) hb⟩
theorem But.grown {n b : Nat} {a w w' : World} (h : But n b a w) (hg : w.grownBy w' (some b)) (hn : n ≤ w.heap.size) : But n b a w' :=
  ⟨hg.os.trans h.os, hg.tape.trans h.tape, hg.output.trans h.output, Nat.le_trans h.size hg.size, fun k hk hb => (hg.block k (by omega) (fun e => hb (by injection e))).trans (h.block k hk hb)⟩
/-- Block c holds the two numbers of a key. -/
def Kept (w : World) (c i j : Nat) : Prop := w.cell? ⟨c, 0, none⟩ = some (.int .i64 (i : Int)) ∧ w.cell? ⟨c, 1, none⟩ = some (.int .i64 (j : Int))
theorem Kept.but {w w' : World} {n b c i j : Nat} (h : Kept w c i j) (hb : But n b w w') (h1 : c < n) (h2 : c ≠ b) : Kept w' c i j := by
  have e := hb.block c h1 h2
  obtain ⟨k1, k2⟩ := h
  exact ⟨by rw [← k1]; unfold World.cell?; simp only [e], by rw [← k2]; unfold World.cell?; simp only [e]⟩

/-! ### The memo -/
/-- Block b tells of the keys H what M says. -/
def Memo (w : World) (b : Nat) (M H : Nat → Nat → Bool) : Prop := ∃ (D : DataW Unit) (N : Nat), w.ownsMap Tryd.prog 51 (plainElem Tryd.prog 4) b N D ∧ IsMap D ∧ N ≤ tally H ∧
  ∀ i j, i ≤ 120 → j ≤ 120 → has D (kl i j) = H i j ∧ (H i j = true → D.atKey (kl i j) (boolAt false) = boolAt (M i j))
theorem Memo.new (w : World) (M : Nat → Nat → Bool) : Memo (w.alloc (.map #[] 0)) w.heap.size M (fun _ _ => false) :=
  ⟨_, _, World.ownsMap_made _ _ _ _, ⟨_, rfl⟩, Nat.zero_le _, fun i j _ _ => ⟨rfl, fun h => by cases h⟩⟩
theorem Memo.lt {w : World} {b : Nat} {M H : Nat → Nat → Bool} (h : Memo w b M H) : b < w.heap.size := by
  obtain ⟨D, N, hD, _⟩ := h
  exact hD.lt
theorem Memo.below {w w' : World} {b : Nat} {M H : Nat → Nat → Bool} (h : Memo w b M H) (hb : Below w.heap.size w w') : Memo w' b M H := by
  obtain ⟨D, N, hD, r⟩ := h
  exact ⟨D, N, hD.kept (row := none) ⟨hb.os, hb.tape, hb.output, hb.size, fun i hi _ => hb.block i hi⟩ (by simp), r⟩
theorem Memo.look {w : World} {b : Nat} {M H : Nat → Nat → Bool} (h : Memo w b M H) {i j : Nat} (hi : i ≤ 120) (hj : j ≤ 120) :
    ∃ v, (Instr.lookup 33 (.map (some b)) (.agg #[.int .i64 (i : Int), .int .i64 (j : Int)]) true).run Tryd.prog w = .ok (.tuple #[v, .bool (H i j)]) w ∧ (H i j = true → v = .bool (M i j)) := by
  obtain ⟨D, N, hD, hm, _, hH⟩ := h
  obtain ⟨h1, h2⟩ := hH i j hi hj
  obtain ⟨v, ps, hr, hv⟩ := hD.look_ok pair_keyed Tryd.underlying33 (zeroBool w) (plainElem_bool Tryd.underlying4 false) (kl_key (i := i) (j := j) (by omega) (by omega))
  rw [h1] at hr
  refine ⟨v, hr, fun hh => ?_⟩
  rw [show D.atKey (kl i j) (.lit (.bool false)) = boolAt (M i j) from h2 hh] at hv
  exact bool_inv hv
theorem Memo.put {w' : World} {b N : Nat} {M H : Nat → Nat → Bool} {D : DataW Unit} (hm : IsMap D) (hN : N ≤ tally H)
    (hH : ∀ i j, i ≤ 120 → j ≤ 120 → has D (kl i j) = H i j ∧ (H i j = true → D.atKey (kl i j) (boolAt false) = boolAt (M i j))) {x y : Nat} (hx : x ≤ 120) (hy : y ≤ 120) (hn : H x y = false)
    (hD : w'.ownsMap Tryd.prog 51 (plainElem Tryd.prog 4) b (N + 1) (D.put (kl x y) (.lit (.bool (M x y))))) : Memo w' b M (told H x y) := by
  refine ⟨_, _, hD, hm.put _ _, Nat.le_trans (Nat.add_le_add_right hN 1) (tally_told hn hx hy), fun i j hi hj => ?_⟩
  by_cases e : i = x ∧ j = y
  · obtain ⟨rfl, rfl⟩ := e
    refine ⟨by rw [has_put_same hm (kl_isKey _ _)]; simp [told], fun _ => ?_⟩
    exact atKey_put_same hm (kl_isKey _ _) _ _
  · have hne : kl i j ≠ kl x y := fun h => e (kl_inj (by omega) (by omega) (by omega) (by omega) h)
    have ht : told H x y i j = H i j := by simp [told, e]
    rw [has_put_other hne, atKey_put_other hne, ht]
    exact hH i j hi hj
section
variable {ops : Array Oper} {rest : List Oper} {o : Oper} {a : Act} {w : World} {Q : Exit → Act → World → Prop}
theorem wpList_memo_put (hg : o.guard = none) (m x v : Operand) (hop : o.op = Op.mapUpdate 33 m x v) (b : Nat) (M H : Nat → Nat → Bool) (i j : Nat) (hm : a.eval m = .map (some b)) (hs : Memo w b M H) (hi : i ≤ 120) (hj : j ≤ 120) (hn : H i j = false)
    (hx : a.eval x = .agg #[.int .i64 (i : Int), .int .i64 (j : Int)]) (u : Bool) (hv : a.eval v = .bool u) (hu : u = M i j)
    (hK : ∀ w', Memo w' b M (told H i j) → w.grownBy w' (some b) → wpList Tryd.prog ops Q rest (a.put o.dst undef) w') : wpList Tryd.prog ops Q (o :: rest) a w := by
  subst hu
  obtain ⟨D, N, hD, hM, hN, hH⟩ := hs
  have hmax : N < maxLen := by have := tally_le H; unfold maxLen; omega
  refine wpList_mapUpdate_own _ hg m x v 33 hop 51 4 pair_keyed Tryd.underlying33 (plainElem Tryd.prog 4) b N D hm hD hmax _ _ (kl i j) hx hv (kl_key (by omega) (by omega)) (.lit (.bool (M i j))) [] (plainElem_bool Tryd.underlying4 _) ?_
  intro w' h1 h2
  exact hK w' (Memo.put hM hN hH hi hj hn h1) h2
end
end Go.Proofs.YtcdoiadmnckccaaDoor
