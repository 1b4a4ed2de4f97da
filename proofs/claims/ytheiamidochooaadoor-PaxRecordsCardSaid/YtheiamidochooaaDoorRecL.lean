/- The law PaxRecords' walk: any record, the program's answer and the document's. -/
import Derived.Test.YtheiamidochooaaDoorRef
import Derived.Test.YtheiamidochooaaDoorTell
import Derived.SizedLaws
namespace Go.Proofs.YtheiamidochooaaDoor
open Go.RowKit Go.Joins

set_option maxHeartbeats 1000000 in
theorem paxRecords_walk (a : ByteArray) (wa : a.size ≤ reachBytes) (b : ByteArray) (wb : b.size ≤ reachBytes) (w : World) (hg : ErrLaid w) (hp : PowLaid w) :
    Calls Tryd.prog 4 #[.agg #[.string a, .string b]] w fun e w' => e = .returned (.bool true) ∧ Below w.heap.size w w' := by
  obtain ⟨k, rfl⟩ : ∃ k, a = mkS k := ⟨_, (mkS_self a).symm⟩
  obtain ⟨v, rfl⟩ : ∃ v, b = mkS v := ⟨_, (mkS_self b).symm⟩
  have s1 := mkS_size k
  have s2 := mkS_size v
  rw [s1] at wa
  rw [s2] at wb
  have hr := reachBytes_lt
  have hb0 := below_alloc1 w (.cells #[.string (mkS k), .string (mkS v)] 36)
  by_cases h : (500 : Int) < (k.length : Int) + (v.length : Int)
  · go_enter Tryd.func4, Tryd.ntmps4
    go_wp2
    go_ret
    exact ⟨rfl, hb0⟩
  · have hz : w.heap.size < (w.alloc (.cells #[.string (mkS k), .string (mkS v)] 36)).heap.size := by simp
    have hc1 : (w.alloc (.cells #[.string (mkS k), .string (mkS v)] 36)).cell? ⟨w.heap.size, 0, none⟩ = some (.string (mkS k)) := by simp
    have hc2 : (w.alloc (.cells #[.string (mkS k), .string (mkS v)] 36)).cell? ⟨w.heap.size, 1, none⟩ = some (.string (mkS v)) := by simp
    have Z := Lib.hid (show ∀ w', Below (w.alloc (.cells #[.string (mkS k), .string (mkS v)] 36)).heap.size (w.alloc (.cells #[.string (mkS k), .string (mkS v)] 36)) w' → w'.cell? ⟨w.heap.size, 0, none⟩ = some (.string (mkS k)) ∧ w'.cell? ⟨w.heap.size, 1, none⟩ = some (.string (mkS v)) ∧ Below w.heap.size w w' from fun w' h => ⟨(h.cell (p := ⟨w.heap.size, 0, none⟩) hz).trans hc1, (h.cell (p := ⟨w.heap.size, 1, none⟩) hz).trans hc2, hb0.trans (h.mono hb0.size)⟩)
    have HE := Lib.hid (show ∀ w1, Below w.heap.size w w1 → ErrLaid w1 from fun w1 h1 => hg.below h1)
    have BN := Lib.hid bare_nil
    have BE := Lib.hid bare_err
    have hd : ¬ (500 : Int) < (k.length : Int) + (v.length : Int) := h
    cases hR : rightP k v
    · have A1 := Lib.hid (fun w => refRecord_bad k v (by omega) (by omega) hR w)
      have A2 := Lib.hid (fun w => record_bad k v (by omega) (by omega) hR w)
      clear hc1 hc2 hz hR hg hp wa wb hr h
      go_enter Tryd.func4, Tryd.ntmps4
      go_wp2_with (first
        | (go_at_call 15; with_reducible refine (A1.out _).mono ?_; rintro e w1 ⟨rfl, h1⟩; obtain ⟨z1, z0, z2⟩ := Z.out _ h1)
        | (go_at_call 16; with_reducible refine (A2.out _).mono ?_; rintro e w2 ⟨rfl, h2⟩)
        | (go_at_call 17; with_reducible refine (BE.out _ _ (HE.out _ (z2.trans (h2.mono z2.size)))).mono ?_; rintro e w3 ⟨rfl, h3⟩))
      go_ret
      have z3 := z2.trans (h2.mono z2.size)
      exact ⟨by simp, z3.trans (h3.mono z3.size)⟩
    · have HP := Lib.hid (show ∀ w1, Below w.heap.size w w1 → PowLaid w1 from fun w1 h1 => hp.below h1)
      have A1 := Lib.hid (fun w hp => refRecord_ok k v hR w hp)
      have A2 := Lib.hid (fun w hp => record_ok k v hR w hp)
      clear hc1 hc2 hz hR hg hp wa wb hr h
      go_enter Tryd.func4, Tryd.ntmps4
      go_wp2_with (first
        | (go_at_call 15; with_reducible refine (A1.out _ (HP.out _ hb0)).mono ?_; rintro e w1 ⟨rfl, h1⟩; obtain ⟨z1, z0, z2⟩ := Z.out _ h1)
        | (go_at_call 16; with_reducible refine (A2.out _ (HP.out _ z2)).mono ?_; rintro e w2 ⟨rfl, h2⟩)
        | (go_at_call 17; with_reducible refine (BN.out _).mono ?_; rintro e w3 ⟨rfl, hw⟩; replace hw := hw.symm; subst hw))
      go_ret
      exact ⟨by simp, z2.trans (h2.mono z2.size)⟩
end Go.Proofs.YtheiamidochooaaDoor
