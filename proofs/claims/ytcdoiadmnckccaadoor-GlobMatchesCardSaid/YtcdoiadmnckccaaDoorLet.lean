/- The reference's globLetter; a map of bools, keyed by bytes. -/
import Derived.Test.YtcdoiadmnckccaaDoorEle
import Derived.Maps.OwnSet
import Derived.Maps.Views
namespace Go.Proofs.YtcdoiadmnckccaaDoor
set_option linter.unusedVariables false
set_option linter.unusedSimpArgs false
open Go.RowKit Go.Joins Go.Maps
set_option maxRecDepth 100000

theorem mkS_drop2 (c d : UInt8) (r : List UInt8) (w : World) : (Instr.slice 9 (.string (mkS (c :: d :: r))) (some (.int .i64 2)) none none).run Tryd.prog w = .ok (.string (mkS r)) w := by
  have := mkS_onward (c :: d :: r) 2 (by simp) w
  simpa using this
theorem mkS_toList (l : List UInt8) : (mkS l).toList = l := by rw [ByteArray.toList_eq, mkS_list]
theorem letter_none {s : List UInt8} (h : elemL s = none) (w : World) : Calls Tryd.prog 13 #[.string (mkS s)] w fun e w' => e = .returned (.tuple #[.int .u8 0, .string (mkS []), .bool false]) ∧ Below w.heap.size w w' := by
  match s, h with
  | [], _ =>
    have e0 := mkS_emp_nil
    go_enter Tryd.func13, Tryd.ntmps13
    go_wp2
    go_ret3
    exact ⟨rfl, Below.refl _ _⟩
  | [c], h =>
    have hc : c = 92 := by
      by_cases hc : c = 92
      · exact hc
      · simp [elemL, trimB, hc] at h
    subst hc
    have e0 := mkS_emp [92] (by simp)
    have e1 : ((mkS [92]).toList == [92]) = true := by rw [mkS_toList]; rfl
    clear h
    go_enter Tryd.func13, Tryd.ntmps13
    go_wp2
    go_ret3
    exact ⟨rfl, Below.refl _ _⟩
  | c :: d :: r, h =>
    exfalso
    by_cases hc : c = 92 <;> simp [elemL, trimB, hc] at h
theorem letter_some {s r : List UInt8} {c : UInt8} (h : elemL s = some (c, r)) (w : World) : Calls Tryd.prog 13 #[.string (mkS s)] w fun e w' => e = .returned (.tuple #[.int .u8 (c.toNat : Int), .string (mkS r), .bool true]) ∧ Below w.heap.size w w' := by
  match s, h with
  | d :: s, h =>
    by_cases hd : d = 92
    · subst hd
      obtain rfl : s = c :: r := by
        cases s with
        | nil => simp [elemL, trimB] at h
        | cons x y => simp [elemL, trimB] at h; rw [h.1, h.2]
      have e0 := mkS_emp (92 :: c :: r) (by simp)
      have e1 : ((mkS (92 :: c :: r)).toList == [92]) = false := by rw [mkS_toList]; simp
      have i0 := mkS_head 92 (c :: r)
      rw [show ((92 : UInt8).toNat : Int) = 92 from rfl] at i0
      have i1 := mkS_second 92 c r
      have s2 := mkS_drop2 92 c r
      clear h
      generalize mkS (92 :: c :: r) = S at *
      go_enter Tryd.func13, Tryd.ntmps13
      go_wp2
      go_quiet (fail)
      go_wp2
      go_ret3
      exact ⟨rfl, below_draws _ _ _⟩
    · obtain ⟨rfl, rfl⟩ : d = c ∧ s = r := by
        simp [elemL, trimB, hd] at h
        exact h
      have e0 := mkS_emp (d :: s) (by simp)
      have e1 : ((mkS (d :: s)).toList == [92]) = false := by rw [mkS_toList]; simp [hd]
      have i0 := mkS_head d s
      have s1 := mkS_tail d s
      have hn : ¬ (d.toNat : Int) = 92 := fun e => hd ((u8_eq d 92).1 e)
      clear h hd
      generalize mkS (d :: s) = S at *
      go_enter Tryd.func13, Tryd.ntmps13
      go_wp2
      go_quiet (fail)
      go_wp2
      go_ret3
      exact ⟨rfl, below_draws _ _ _⟩

/-! ### Maps of bools, keyed by bytes -/
def boolAt (b : Bool) : DataW Unit := .lit (.bool b)
/-- Block b is a map of at most N entries that tells E of each byte. -/
def Says (w : World) (b : Nat) (N : Nat) (E : Nat → Bool) : Prop := ∃ D : DataW Unit, w.ownsMap Tryd.prog 5 (plainElem Tryd.prog 4) b N D ∧ IsMap D ∧ ∀ i : Nat, i < 256 → D.atKey (.int .u8 (i : Int)) (boolAt false) = boolAt (E i)
theorem u8_keyed : Keyed Tryd.prog 5 := int_keyed Tryd.underlying5
theorem zeroBool (w : World) : (zeroValue 4).run Tryd.prog w = .ok (.bool false) w := by kernel_rfl
theorem u8_wf {i : Nat} (h : i < 256) : (Lit.int .u8 (i : Int)).wf = true := by
  have h1 : IntKind.u8.min = 0 := by decide
  have h2 : IntKind.u8.max = 255 := by decide
  simp [Lit.wf, h1, h2]; omega
theorem bool_inv {v : Value} {b : Bool} {ps : List MemPlace} (h : plainElem (H := Unit) Tryd.prog 4 v = some (boolAt b, ps)) : v = .bool b := by
  unfold plainElem at h
  rw [Tryd.underlying4] at h
  cases v <;> simp [boolAt] at h
  rw [h.1]
theorem Says.look {w : World} {b N : Nat} {E : Nat → Bool} (h : Says w b N E) {i : Nat} (hi : i < 256) : (Instr.lookup 46 (.map (some b)) (.int .u8 (i : Int)) false).run Tryd.prog w = .ok (.bool (E i)) w := by
  obtain ⟨D, hD, _, hE⟩ := h
  obtain ⟨v, ps, hr, hv⟩ := hD.lookup u8_keyed Tryd.underlying46 (zeroBool w) (plainElem_bool Tryd.underlying4 false) (keyOf_int_mk Tryd.underlying5 (u8_wf hi))
  rw [show D.atKey (.int .u8 (i : Int)) (.lit (.bool false)) = boolAt (E i) from hE i hi] at hv
  rw [hr, bool_inv hv]
theorem Says.new (w : World) : Says (w.alloc (.map #[] 0)) w.heap.size 0 (fun _ => false) := ⟨_, World.ownsMap_made _ _ _ _, ⟨_, rfl⟩, fun i _ => rfl⟩
theorem Says.kept {w w' : World} {b N : Nat} {E : Nat → Bool} {row : Option Nat} (h : Says w b N E) (hg : w.grownBy w' row) (hne : some b ≠ row) : Says w' b N E := by
  obtain ⟨D, hD, hm, hE⟩ := h
  exact ⟨D, hD.kept hg hne, hm, hE⟩
theorem Says.lt {w : World} {b N : Nat} {E : Nat → Bool} (h : Says w b N E) : b < w.heap.size := by
  obtain ⟨D, hD, _⟩ := h
  exact hD.lt
theorem Says.below {w w' : World} {b N : Nat} {E : Nat → Bool} (h : Says w b N E) (hb : Below w.heap.size w w') : Says w' b N E :=
  h.kept (row := none) ⟨hb.os, hb.tape, hb.output, hb.size, fun i hi _ => hb.block i hi⟩ (by simp)
theorem Says.congr {w : World} {b N : Nat} {E F : Nat → Bool} (h : Says w b N E) (e : ∀ i, i < 256 → E i = F i) : Says w b N F := by
  obtain ⟨D, hD, hm, hE⟩ := h
  exact ⟨D, hD, hm, fun i hi => by rw [hE i hi, e i hi]⟩
theorem Says.put {w' : World} {b N : Nat} {E : Nat → Bool} {D : DataW Unit} (hm : IsMap D) (hE : ∀ i : Nat, i < 256 → D.atKey (.int .u8 (i : Int)) (boolAt false) = boolAt (E i)) {i : Nat} (hi : i < 256)
    (hD : w'.ownsMap Tryd.prog 5 (plainElem Tryd.prog 4) b N (D.put (.int .u8 (i : Int)) (.lit (.bool true)))) : Says w' b N (fun j => if j = i then true else E j) := by
  refine ⟨_, hD, hm.put _ _, fun j hj => ?_⟩
  show (D.put _ _).atKey _ _ = boolAt (if j = i then true else E j)
  by_cases h : j = i
  · subst h
    rw [if_pos rfl]
    exact atKey_put_same hm (k := .int .u8 (j : Int)) (by trivial) _ _
  · rw [if_neg h, atKey_put_other (fun e => h (by injection e with _ e; omega))]
    exact hE j hj
section
variable {ops : Array Oper} {rest : List Oper} {o : Oper} {a : Act} {w : World} {Q : Exit → Act → World → Prop}
theorem wpList_says_put (hg : o.guard = none) (m x v : Operand) (hop : o.op = Op.mapUpdate 46 m x v) (b N : Nat) (E : Nat → Bool) (i : Nat) (hm : a.eval m = .map (some b)) (hs : Says w b N E) (hN : N < maxLen) (hi : i < 256)
    (hx : a.eval x = .int .u8 (i : Int)) (hv : a.eval v = .bool true)
    (hK : ∀ w', Says w' b (N + 1) (fun j => if j = i then true else E j) → w.grownBy w' (some b) → wpList Tryd.prog ops Q rest (a.put o.dst undef) w') : wpList Tryd.prog ops Q (o :: rest) a w := by
  obtain ⟨D, hD, hM, hE⟩ := hs
  refine wpList_mapUpdate_own _ hg m x v 46 hop 5 4 u8_keyed Tryd.underlying46 (plainElem Tryd.prog 4) b N D hm hD hN _ _ (.int .u8 (i : Int)) hx hv (keyOf_int_mk Tryd.underlying5 (u8_wf hi)) (.lit (.bool true)) [] (plainElem_bool Tryd.underlying4 true) ?_
  intro w' h1 h2
  exact hK w' (Says.put hM hE hi h1) h2
end
theorem below_put {n₀ : Nat} {w wr w1 : World} {b : Nat} (hB : Below n₀ w wr) (hb : n₀ ≤ b) (hn : n₀ ≤ wr.heap.size) (hg : wr.grownBy w1 (some b)) : Below n₀ w w1 := hB.grown hg hn (fun k hk => by cases hk; exact hb)
end Go.Proofs.YtcdoiadmnckccaaDoor
