/- Pairs of texts (api.Pair): pax.Right and the reference's PairRight. -/
import Derived.Test.YtheiamidochooaaCon
import Derived.Laws.Cells
namespace Go.Proofs.Ytheiamidochooaa
open Go.RowKit Go.Joins

theorem run_loadPair (W : World) (b o : Nat) {x y : Value} (h0 : W.cell? ⟨b, o, none⟩ = some x) (h1 : W.cell? ⟨b, o + 1, none⟩ = some y) :
    Sem.run Try.prog (loadCellsFrom ⟨b, o, none⟩ 0 2 #[]) W = .ok #[x, y] W := by
  have := run_loadCells_list (P := Try.prog) (w := W) ⟨b, o, none⟩ [x, y] (fun j v hj => by
    rcases j with _ | _ | j
    · cases hj; simpa [Addr.add] using h0
    · cases hj; simpa [Addr.add] using h1
    · simp at hj)
  simpa [loadCells] using this

/-- A pair, as a value. -/
abbrev prV (k v : List UInt8) : Value := .agg #[.string (mkS k), .string (mkS v)]
/-- Whether a record may be. -/
def rightP (k v : List UInt8) : Bool := !k.isEmpty && (!hasBad k && decide (k.length + v.length ≤ 200))

theorem rightP_true (k v : List UInt8) (h : rightP k v = true) : k ≠ [] ∧ hasBad k = false ∧ k.length + v.length ≤ 200 := by
  simpa [rightP, Bool.and_eq_true] using h

set_option maxHeartbeats 1000000 in
theorem right_any (k v : List UInt8) (hk : k.length ≤ 100000) (hv : v.length ≤ 100000) (w : World) :
    Calls Try.prog 6 #[prV k v] w fun e w' => e = .returned (.bool (rightP k v)) ∧ Below w.heap.size w w' := by
  have s1 := mkS_size k
  have s2 := mkS_size v
  unfold rightP
  cases k with
  | nil =>
    have e1 := mkS_emp_nil
    go_enter Try.func6, Try.ntmps6
    go_wp2
    go_ret
    exact ⟨rfl, below_alloc1 _ _⟩
  | cons c l =>
    have C := Lib.hid (fun w => containsAny_any (c :: l) (by omega) w)
    have e1 := mkS_emp (c :: l) (by simp)
    rw [show (c :: l).isEmpty = false from rfl]
    generalize c :: l = k at *
    cases hb : hasBad k
    · have hb1 := below_alloc1 w (.cells #[.string (mkS k), .string (mkS v)] 23)
      have hc1 : (w.alloc (.cells #[.string (mkS k), .string (mkS v)] 23)).cell? ⟨w.heap.size, 0, none⟩ = some (.string (mkS k)) := by simp
      have hc2 : (w.alloc (.cells #[.string (mkS k), .string (mkS v)] 23)).cell? ⟨w.heap.size, 1, none⟩ = some (.string (mkS v)) := by simp
      have hz : w.heap.size < (w.alloc (.cells #[.string (mkS k), .string (mkS v)] 23)).heap.size := by simp
      rw [hb] at C
      clear hb
      have Z := Lib.hid (show ∀ w', Below (w.alloc (.cells #[.string (mkS k), .string (mkS v)] 23)).heap.size (w.alloc (.cells #[.string (mkS k), .string (mkS v)] 23)) w' → w'.cell? ⟨w.heap.size, 0, none⟩ = some (.string (mkS k)) ∧ w'.cell? ⟨w.heap.size, 1, none⟩ = some (.string (mkS v)) ∧ Below w.heap.size w w' from fun w' h => ⟨(h.cell (p := ⟨w.heap.size, 0, none⟩) hz).trans hc1, (h.cell (p := ⟨w.heap.size, 1, none⟩) hz).trans hc2, hb1.trans (h.mono hb1.size)⟩)
      clear hc1 hc2 hz hb1
      go_enter Try.func6, Try.ntmps6
      go_wp2_with (go_at_call 14; refine (C.out _).mono ?_; rintro e w' ⟨rfl, hb⟩; obtain ⟨z1, z2, z3⟩ := Z.out _ hb)
      go_ret
      refine ⟨?_, z3⟩
      rw [show decide (k.length + v.length ≤ 200) = decide ((k.length : Int) + (v.length : Int) ≤ 200) from by rw [decide_eq_decide]; omega]
      rfl
    · rw [hb] at C
      clear hb
      go_enter Try.func6, Try.ntmps6
      go_wp2_with (go_at_call 14; refine (C.out _).mono ?_; rintro e w' ⟨rfl, hb⟩)
      go_ret
      exact ⟨rfl, (below_alloc1 w _).trans (hb.mono (below_alloc1 w _).size)⟩

theorem hasBad_eq : ∀ k : List UInt8, hasBad k = (k.contains 61 || k.contains 10)
  | [] => rfl
  | c :: k => by
    rw [hasBad_cons, hasBad_eq k, List.contains_cons, List.contains_cons, show (61 == c) = (c == 61) from Bool.beq_comm, show (10 == c) = (c == 10) from Bool.beq_comm]
    cases c == 61 <;> cases c == 10 <;> cases k.contains 61 <;> rfl
theorem idx_neg (k : List UInt8) (c : UInt8) : decide (Lib.indexByte k c < 0) = !k.contains c := by
  rw [Lib.contains_iff_indexByte]
  by_cases h : 0 ≤ Lib.indexByte k c
  · rw [decide_eq_true h, decide_eq_false (by omega)]; rfl
  · rw [decide_eq_false h, decide_eq_true (by omega)]; rfl
theorem index61 (k : List UInt8) (w : World) : Calls Try.prog 15 #[.string (mkS k), .int .u8 61] w fun e w' => e = .returned (.int .i64 (Lib.indexByte k 61)) ∧ w' = w := by
  have h := Try.strings_IndexByte (mkS k) 61 w
  rwa [mkS_list] at h
theorem index10 (k : List UInt8) (w : World) : Calls Try.prog 15 #[.string (mkS k), .int .u8 10] w fun e w' => e = .returned (.int .i64 (Lib.indexByte k 10)) ∧ w' = w := by
  have h := Try.strings_IndexByte (mkS k) 10 w
  rwa [mkS_list] at h
theorem rightP_eq (k v : List UInt8) : (decide (0 < (k.length : Int)) && decide ((k.length : Int) + (v.length : Int) ≤ 200) && decide (Lib.indexByte k 61 < 0) && decide (Lib.indexByte k 10 < 0)) = rightP k v := by
  unfold rightP
  rw [idx_neg, idx_neg, hasBad_eq, show decide (k.length + v.length ≤ 200) = decide ((k.length : Int) + (v.length : Int) ≤ 200) from by rw [decide_eq_decide]; omega]
  cases k with
  | nil => rfl
  | cons c l =>
    rw [show decide (0 < (((c :: l).length : Nat) : Int)) = true from decide_eq_true (by simp)]
    generalize decide ((((c :: l).length : Nat) : Int) + (v.length : Int) ≤ 200) = x
    generalize (c :: l).contains 61 = y
    generalize (c :: l).contains 10 = z
    cases x <;> cases y <;> cases z <;> rfl

set_option maxHeartbeats 1000000 in
theorem pairRight_any (k v : List UInt8) (hk : k.length ≤ 100000) (hv : v.length ≤ 100000) (w : World) :
    Calls Try.prog 7 #[prV k v] w fun e w' => e = .returned (.bool (rightP k v)) ∧ Below w.heap.size w w' := by
  have s1 := mkS_size k
  have s2 := mkS_size v
  have I1 := Lib.hid (fun w => index61 k w)
  have I2 := Lib.hid (fun w => index10 k w)
  rw [← rightP_eq]
  by_cases h1 : 0 < (k.length : Int)
  · by_cases h2 : (k.length : Int) + (v.length : Int) ≤ 200
    · rw [decide_eq_true h1, decide_eq_true h2]
      by_cases h3 : Lib.indexByte k 61 < 0
      · rw [decide_eq_true h3]
        go_enter Try.func7, Try.ntmps7
        go_wp2_with (first
          | (go_at_call 15; with_reducible refine (I1.out _).mono ?_; rintro e w' ⟨rfl, hw⟩; replace hw := hw.symm; subst hw)
          | (go_at_call 15; with_reducible refine (I2.out _).mono ?_; rintro e w' ⟨rfl, hw⟩; replace hw := hw.symm; subst hw))
        go_ret
        exact ⟨rfl, below_alloc1 _ _⟩
      · rw [decide_eq_false h3]
        go_enter Try.func7, Try.ntmps7
        go_wp2_with (first
          | (go_at_call 15; with_reducible refine (I1.out _).mono ?_; rintro e w' ⟨rfl, hw⟩; replace hw := hw.symm; subst hw))
        go_ret
        exact ⟨rfl, below_alloc1 _ _⟩
    · rw [decide_eq_true h1, decide_eq_false h2]
      go_enter Try.func7, Try.ntmps7
      go_wp2
      go_ret
      exact ⟨rfl, below_alloc1 _ _⟩
  · rw [decide_eq_false h1]
    go_enter Try.func7, Try.ntmps7
    go_wp2
    go_ret
    exact ⟨rfl, below_alloc1 _ _⟩
end Go.Proofs.Ytheiamidochooaa
