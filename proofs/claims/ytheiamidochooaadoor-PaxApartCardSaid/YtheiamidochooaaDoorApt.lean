/- PaxApart's closures. -/
import Derived.Test.YtheiamidochooaaDoorCtn
namespace Go.Proofs.YtheiamidochooaaDoor
open Go.RowKit Go.Joins
set_option linter.unusedVariables false

theorem mkS_beq (a b : List UInt8) : ((mkS a).toList == (mkS b).toList) = (a == b) := by
  rw [ByteArray.toList_eq, ByteArray.toList_eq, mkS_list, mkS_list]

set_option maxHeartbeats 1000000 in
theorem same_key (pb : Nat) (K : List UInt8) (q : Pr) (w : World) (hlt : pb < w.heap.size) (hc : w.cell? ⟨pb, 0, none⟩ = some (.string (mkS K))) :
    Calls Tryd.prog 36 #[.agg #[.string (mkS q.1), .string (mkS q.2)], .pointer (some ⟨pb, 0, none⟩)] w fun e w' => e = .returned (.bool (K == q.1)) ∧ Below w.heap.size w w' := by
  have hb := below_alloc1 w (.cells #[.string (mkS q.1), .string (mkS q.2)] 36)
  have hc2 := (hb.cell (p := ⟨pb, 0, none⟩) hlt).trans hc
  have E := mkS_beq K q.1
  go_enter Tryd.func36, Tryd.ntmps36
  go_wp2
  go_ret
  exact ⟨by first | rfl | simp [mkS_beq], hb⟩

set_option maxHeartbeats 1000000 in
theorem has_key (bb : Nat) (bd : Option Addr) (cb : Nat) (B : List Pr) (hl : B.length ≤ 100000) (p : Pr) (w : World) (hlt : bb < w.heap.size) (hc : w.cell? ⟨bb, 0, none⟩ = some (.slice bd B.length cb)) (hB : PairsAt w bd B) :
    Calls Tryd.prog 35 #[.agg #[.string (mkS p.1), .string (mkS p.2)], .pointer (some ⟨bb, 0, none⟩)] w fun e w' => e = .returned (.bool (B.any fun q => p.1 == q.1)) ∧ Below w.heap.size w w' := by
  have hb := below_alloc1 w (.cells #[.string (mkS p.1), .string (mkS p.2)] 36)
  have hc2 := (hb.cell (p := ⟨bb, 0, none⟩) hlt).trans hc
  have C := Lib.hid (containsFn_any (fun q => p.1 == q.1) 36 #[.pointer (some ⟨w.heap.size, 0, none⟩)] (enters_of Tryd.func36 (by kernel_rfl) rfl) bd cb B hl (w.alloc (.cells #[.string (mkS p.1), .string (mkS p.2)] 36)) (hB.below hb) (fun q _ W hW => same_key w.heap.size p.1 q W (Nat.lt_of_lt_of_le (by simp) hW.size) ((hW.cell (p := ⟨w.heap.size, 0, none⟩) (by simp)).trans (by simp))))
  have HB := Lib.hid hb
  clear hB hc hb
  go_enter Tryd.func35, Tryd.ntmps35
  go_wp2_with (go_at_call 34; refine C.out.mono ?_; rintro e w1 ⟨rfl, h1⟩)
  go_ret
  exact ⟨rfl, HB.out.trans (h1.mono (by simp))⟩
end Go.Proofs.YtheiamidochooaaDoor
