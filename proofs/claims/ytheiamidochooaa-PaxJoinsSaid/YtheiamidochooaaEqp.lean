/- Pairs compared; the law's samePairs. -/
import Derived.Test.YtheiamidochooaaHvy
import Derived.Laws.StructEq
namespace Go.Proofs.Ytheiamidochooaa
open Go.RowKit Go.Joins
set_option linter.unusedVariables false

theorem pair_eql (k v k' v' : List UInt8) (w : World) : (binOp .eql 23 (prV k v) (prV k' v')).run Try.prog w = .ok (.bool (decide (k = k' ∧ v = v'))) w := by
  have u3 := Try.underlying9
  have a3 := Try.isAgg9
  have z3 := Try.sizeOf9
  have hS : Try.prog.underlying 23 = some (.struct (Try.prog.fieldsOf 23)) := by kernel_rfl
  have hp : Try.prog.stoodInHeld 23 = false := by kernel_rfl
  have e : ∀ x y : List UInt8, ((mkS x).toList == (mkS y).toList) = decide (x = y) := fun x y => by
    rw [ByteArray.toList_eq, ByteArray.toList_eq, mkS_list, mkS_list]
    by_cases h : x = y <;> simp [h]
  rw [run_eql_struct, show (10000 : Nat) = 9999 + 1 from rfl, run_equalIn_agg w 9999 23 _ _ hS hp]
  simp only [Program.fieldsOf, Try.underlying23]
  go_simp
  by_cases h1 : k = k' <;> by_cases h2 : v = v' <;> simp [h1, h2]
theorem pair_neq (k v k' v' : List UInt8) (w : World) : (binOp .neq 23 (prV k v) (prV k' v')).run Try.prog w = .ok (.bool (!decide (k = k' ∧ v = v'))) w := by
  have u3 := Try.underlying9
  have a3 := Try.isAgg9
  have z3 := Try.sizeOf9
  have hS : Try.prog.underlying 23 = some (.struct (Try.prog.fieldsOf 23)) := by kernel_rfl
  have hp : Try.prog.stoodInHeld 23 = false := by kernel_rfl
  have e : ∀ x y : List UInt8, ((mkS x).toList == (mkS y).toList) = decide (x = y) := fun x y => by
    rw [ByteArray.toList_eq, ByteArray.toList_eq, mkS_list, mkS_list]
    by_cases h : x = y <;> simp [h]
  rw [run_neq_struct, show (10000 : Nat) = 9999 + 1 from rfl, run_equalIn_agg w 9999 23 _ _ hS hp]
  simp only [Program.fieldsOf, Try.underlying23]
  go_simp
  by_cases h1 : k = k' <;> by_cases h2 : v = v' <;> simp [h1, h2]
theorem pair_guard (op : BinOp) (a b : Operand) (k v k' v' : List UInt8) (w : World) : (eqGuard op 23 a b (prV k v) (prV k' v')).run Try.prog w = .ok () w :=
  run_eqGuard_agg w op 23 a b _ _ (by kernel_rfl)

set_option maxHeartbeats 2000000 in
theorem samePairs_same (a1 a2 : Option Addr) (c1 c2 : Nat) (M : List (List UInt8 × List UInt8)) (hl : M.length ≤ 1000000) (w : World) (h1 : PairsAt w a1 M) (h2 : PairsAt w a2 M) :
    Calls Try.prog 9 #[.slice a1 M.length c1, .slice a2 M.length c2] w fun e w' => e = .returned (.bool true) ∧ Below w.heap.size w w' := by
  rcases h1.cases with rfl | ⟨b1, o1, rfl, hlt1, hR1⟩
  · go_enter Try.func9, Try.ntmps9
    go_wp2
    refine wp_loop_rounds 1 ?_
    rw [rounds_succ]
    go_wp2
    go_ret
    exact ⟨rfl, Below.refl _ _⟩
  rcases h2.cases with rfl | ⟨b2, o2, rfl, hlt2, hR2⟩
  · go_enter Try.func9, Try.ntmps9
    go_wp2
    refine wp_loop_rounds 1 ?_
    rw [rounds_succ]
    go_wp2
    go_ret
    exact ⟨rfl, Below.refl _ _⟩
  have H1 := Lib.hid (show ∀ w', Below w.heap.size w w' → RowAt w' b1 o1 M from fun w' hb => RowAt.below hlt1 hR1 hb)
  have H2 := Lib.hid (show ∀ w', Below w.heap.size w w' → RowAt w' b2 o2 M from fun w' hb => RowAt.below hlt2 hR2 hb)
  clear h1 h2 hR1 hR2 hlt1 hlt2
  go_enter Try.func9, Try.ntmps9
  go_wp2
  go_loopg [5] M.length (fun g s5 wr => ∃ i : Nat, i ≤ M.length ∧ M.length - i ≤ g ∧ s5 = .int .i64 i ∧ Aside (Below w.heap.size w wr))
  case atStart => exact ⟨0, by omega, by omega, rfl, Below.refl _ _⟩
  case round =>
    obtain ⟨i, hi, hg, rfl, A⟩ := hrel
    by_cases hil : i < M.length
    · obtain ⟨p, hp⟩ : ∃ p, M[i]? = some p := ⟨_, List.getElem?_eq_getElem hil⟩
      obtain ⟨x1, x2⟩ := H1.out wr A.out i p hp
      obtain ⟨y1, y2⟩ := H2.out wr A.out i p hp
      have N1 : ∀ W, (binOp .neq 23 (prV p.1 p.2) (prV p.1 p.2)).run Try.prog W = .ok (.bool false) W := fun W => by
        have := pair_neq p.1 p.2 p.1 p.2 W
        simpa using this
      have N2 := fun op a b W => pair_guard op a b p.1 p.2 p.1 p.2 W
      have AB := Lib.hid A.out
      clear hp A
      go_wp2
      go_quiet (fail)
      go_wp2
      go_roundg (M.length - (i + 1))
      case measure => omega
      case rel => exact ⟨i + 1, by omega, by omega, by first | rfl | simp, AB.out.trans (below_draws _ _ _)⟩
    · go_wp2
      go_ret
      exact ⟨rfl, A.out⟩
end Go.Proofs.Ytheiamidochooaa
