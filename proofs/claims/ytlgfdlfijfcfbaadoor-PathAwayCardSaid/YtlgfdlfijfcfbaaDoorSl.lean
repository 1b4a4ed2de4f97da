/- Parts of a slice of texts, as values. -/
import Derived.Test.YtlgfdlfijfcfbaaDoorTx
import Derived.Laws.Slices
import Derived.WideShapes
namespace Go.Proofs.YtlgfdlfijfcfbaaDoor
open Go.RowKit Go.Joins
set_option linter.unusedVariables false

theorem txAt_drop {w : World} {b off : Nat} {L : List (List UInt8)} (i : Nat) (h : TxAt w b off L) : TxAt w b (off + i) (L.drop i) :=
  ⟨h.1, fun j x hj => by rw [List.getElem?_drop] at hj; have := h.2 (i + j) x hj; rwa [← Nat.add_assoc] at this⟩
theorem txAt_take {w : World} {b off : Nat} {L : List (List UInt8)} (i : Nat) (h : TxAt w b off L) : TxAt w b off (L.take i) :=
  ⟨h.1, fun j x hj => by
    rw [List.getElem?_take] at hj
    split at hj
    · exact h.2 j x hj
    · cases hj⟩
/-- l[i:]. -/
theorem sl_onward (ad : Option Addr) (n cap i : Nat) (L : List (List UInt8)) (w : World) (h : SlIs w (.slice ad n cap) L) (hi : i ≤ n) :
    ∃ ad2 c2, (∀ W, (Instr.slice 23 (.slice ad n cap) (some (.int .i64 (i : Int))) none none).run Tryd.prog W = .ok (.slice ad2 (n - i) c2) W) ∧ ∀ W, SlIs W (.slice ad n cap) L → SlIs W (.slice ad2 (n - i) c2) (L.drop i) := by
  have ht : Tryd.prog.underlying 23 = some (.slice (Tryd.prog.elem 23)) := by kernel_rfl
  have hsz : ∀ W, (Go.sizeOf (Tryd.prog.elem 23)).run Tryd.prog W = .ok 1 W := fun W => by kernel_rfl
  obtain ⟨ad', cap', e0, hc, _⟩ := h
  injection e0 with e1 e2 e3
  subst e1; subst e3
  by_cases hcc : cap = i
  · refine ⟨ad, cap - i, fun W => ?_, fun W h => ?_⟩
    · rw [run_slice_l W 23 ad n cap ht .i64 i (by omega) (by omega), hsz]
      simp [Result.andThen, sliced, hcc]
    · have hn : n - i = (L.drop i).length := by rw [List.length_drop]; omega
      rw [hn, List.drop_eq_nil_of_le (by omega)]
      obtain ⟨ad', cap', e0, _, ⟨b, off, e5, ht⟩ | ⟨e5, _, _⟩⟩ := h
      · injection e0 with e1 _ _
        subst e1
        exact ⟨ad, cap - i, rfl, Nat.zero_le _, .inl ⟨b, off, e5, ht.1, fun j x hj => by simp at hj⟩⟩
      · injection e0 with e1 _ e3
        subst e1
        exact ⟨ad, cap - i, rfl, Nat.zero_le _, .inr ⟨e5, by omega, rfl⟩⟩
  · cases ad with
    | none =>
      refine ⟨none, cap - i, fun W => ?_, fun W h => ?_⟩
      · rw [run_slice_l W 23 none n cap ht .i64 i (by omega) (by omega), hsz]
        simp [Result.andThen, sliced]
      · obtain ⟨ad', cap', e0, _, ⟨b, off, e5, ht⟩ | ⟨e5, e6, e7⟩⟩ := h
        · injection e0 with e1 _ _
          rw [← e1] at e5; cases e5
        · injection e0 with e1 _ e3
          exfalso
          rw [e7] at e2
          simp at e2
          omega
    | some a =>
      obtain ⟨b, o, r⟩ := a
      refine ⟨some ((⟨b, o, r⟩ : Addr).add (i * 1)), cap - i, fun W => ?_, fun W h => ?_⟩
      · rw [run_slice_l W 23 _ n cap ht .i64 i (by omega) (by omega), hsz]
        simp [Result.andThen, sliced, hcc]
      · obtain ⟨ad', cap', e0, _, ⟨b', off, e5, ht⟩ | ⟨e5, _, _⟩⟩ := h
        · injection e0 with e1 _ e3
          rw [← e1] at e5
          cases e5
          have hn : n - i = (L.drop i).length := by rw [List.length_drop]; omega
          rw [hn]
          refine ⟨_, cap - i, rfl, by rw [List.length_drop]; omega, .inl ⟨b, o + i, ?_, txAt_drop i ht⟩⟩
          rw [Nat.mul_one]; exact congrArg some (Go.WideShapes.add_plain b o i)
        · injection e0 with e1 _ _
          rw [← e1] at e5; cases e5
theorem sl_onward_some (b off n cap i : Nat) (L : List (List UInt8)) (w : World) (h : SlIs w (.slice (some ⟨b, off, none⟩) n cap) L) (hi : i ≤ n) :
    ∃ off2 c2, (∀ W, (Instr.slice 23 (.slice (some ⟨b, off, none⟩) n cap) (some (.int .i64 (i : Int))) none none).run Tryd.prog W = .ok (.slice (some ⟨b, off2, none⟩) (n - i) c2) W) ∧ ∀ W, SlIs W (.slice (some ⟨b, off, none⟩) n cap) L → SlIs W (.slice (some ⟨b, off2, none⟩) (n - i) c2) (L.drop i) := by
  have ht : Tryd.prog.underlying 23 = some (.slice (Tryd.prog.elem 23)) := by kernel_rfl
  have hsz : ∀ W, (Go.sizeOf (Tryd.prog.elem 23)).run Tryd.prog W = .ok 1 W := fun W => by kernel_rfl
  obtain ⟨ad', cap', e0, hc, _⟩ := h
  injection e0 with e1 e2 e3
  subst e3
  have hn : n - i = (L.drop i).length := by rw [List.length_drop]; omega
  by_cases hcc : cap = i
  · refine ⟨off, cap - i, fun W => ?_, fun W h => ?_⟩
    · rw [run_slice_l W 23 _ n cap ht .i64 i (by omega) (by omega), hsz]
      simp [Result.andThen, sliced, hcc]
    · rw [hn, List.drop_eq_nil_of_le (by omega)]
      obtain ⟨ad', cap', e0, _, ⟨b', off', e5, ht⟩ | ⟨e5, _, _⟩⟩ := h
      · injection e0 with e1 _ _
        rw [← e1] at e5; cases e5
        exact ⟨_, cap - i, rfl, Nat.zero_le _, .inl ⟨b, off, rfl, ht.1, fun j x hj => by simp at hj⟩⟩
      · injection e0 with e1 _ _
        rw [← e1] at e5; cases e5
  · refine ⟨off + i, cap - i, fun W => ?_, fun W h => ?_⟩
    · rw [run_slice_l W 23 _ n cap ht .i64 i (by omega) (by omega), hsz]
      have := Go.WideShapes.add_plain b off i
      simp [Result.andThen, sliced, hcc, this]
    · obtain ⟨ad', cap', e0, _, ⟨b', off', e5, ht⟩ | ⟨e5, _, _⟩⟩ := h
      · injection e0 with e1 _ e3
        rw [← e1] at e5
        cases e5
        rw [hn]
        exact ⟨_, cap - i, rfl, by rw [List.length_drop]; omega, .inl ⟨b, off + i, rfl, txAt_drop i ht⟩⟩
      · injection e0 with e1 _ _
        rw [← e1] at e5; cases e5
/-- l[:i]. -/
theorem sl_upto (ad : Option Addr) (n cap i : Nat) (L : List (List UInt8)) (w : World) (h : SlIs w (.slice ad n cap) L) (hi : i ≤ n) (hi0 : 0 < cap) :
    (∀ W, (Instr.slice 23 (.slice ad n cap) none (some (.int .i64 (i : Int))) none).run Tryd.prog W = .ok (.slice ad i cap) W) ∧ ∀ W, SlIs W (.slice ad n cap) L → SlIs W (.slice ad i cap) (L.take i) := by
  have ht : Tryd.prog.underlying 23 = some (.slice (Tryd.prog.elem 23)) := by kernel_rfl
  have hsz : ∀ W, (Go.sizeOf (Tryd.prog.elem 23)).run Tryd.prog W = .ok 1 W := fun W => by kernel_rfl
  obtain ⟨ad', cap', e0, hc, hw⟩ := h
  injection e0 with e1 e2 e3
  subst e1; subst e3
  have hl : i = (L.take i).length := by rw [List.length_take]; omega
  refine ⟨fun W => ?_, fun W h => ?_⟩
  · rw [run_slice_h W 23 ad n cap ht .i64 i (by omega) (by omega), hsz]
    rcases hw with ⟨b, off, rfl, _⟩ | ⟨_, h0, _⟩
    · have := Go.WideShapes.add_plain b off 0
      simp [Result.andThen, sliced, this]
    · omega
  · obtain ⟨ad', cap', e0, _, ⟨b, off, e5, ht⟩ | ⟨e5, e6, _⟩⟩ := h
    · injection e0 with e1 _ e3
      subst e1; subst e3
      exact ⟨ad, cap, by rw [← hl], by rw [List.length_take]; omega, .inl ⟨b, off, e5, txAt_take i ht⟩⟩
    · injection e0 with e1 _ e3
      omega
end Go.Proofs.YtlgfdlfijfcfbaaDoor
