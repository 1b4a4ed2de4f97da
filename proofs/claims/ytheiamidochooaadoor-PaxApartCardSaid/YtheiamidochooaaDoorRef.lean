/- The reference's Record: numbers are tried. -/
import Derived.Test.YtheiamidochooaaDoorRec
import Derived.Deep.LoopGhost
namespace Go.Proofs.YtheiamidochooaaDoor
open Go.RowKit Go.Joins

theorem refRecord_bad (k v : List UInt8) (hk : k.length ≤ 100000) (hv : v.length ≤ 100000) (h : rightP k v = false) (w : World) :
    Calls Tryd.prog 15 #[prV k v] w fun e w' => e = .returned (.tuple #[.string (mkS []), .int .i64 1]) ∧ Below w.heap.size w w' := by
  have R := Lib.hid (fun w => pairRight_any k v hk hv w)
  rw [h] at R
  clear h
  have hb0 := below_alloc1 w (.cells #[.string (mkS k), .string (mkS v)] 36)
  go_enter Tryd.func15, Tryd.ntmps15
  go_wp2_with (go_at_call 43; with_reducible refine (R.out _).mono ?_; rintro e w1 ⟨rfl, hb1⟩)
  go_ret2
  exact ⟨rfl, hb0.trans (hb1.mono hb0.size)⟩

set_option maxHeartbeats 2000000 in
theorem refRecord_ok (k v : List UInt8) (h : rightP k v = true) (w : World) (hp : PowLaid w) :
    Calls Tryd.prog 15 #[prV k v] w fun e w' => e = .returned (.tuple #[.string (mkS (recL k v)), .int .i64 0]) ∧ Below w.heap.size w w' := by
  obtain ⟨_, _, hl⟩ := rightP_true k v h
  have R := Lib.hid (fun w => pairRight_any k v (by omega) (by omega) w)
  rw [h] at R
  have hb0 := below_alloc1 w (.cells #[.string (mkS k), .string (mkS v)] 36)
  have hz : w.heap.size < (w.alloc (.cells #[.string (mkS k), .string (mkS v)] 36)).heap.size := by simp
  have hc1 : (w.alloc (.cells #[.string (mkS k), .string (mkS v)] 36)).cell? ⟨w.heap.size, 0, none⟩ = some (.string (mkS k)) := by simp
  have hc2 : (w.alloc (.cells #[.string (mkS k), .string (mkS v)] 36)).cell? ⟨w.heap.size, 1, none⟩ = some (.string (mkS v)) := by simp
  have Z := Lib.hid (show ∀ w', Below (w.alloc (.cells #[.string (mkS k), .string (mkS v)] 36)).heap.size (w.alloc (.cells #[.string (mkS k), .string (mkS v)] 36)) w' → w'.cell? ⟨w.heap.size, 0, none⟩ = some (.string (mkS k)) ∧ w'.cell? ⟨w.heap.size, 1, none⟩ = some (.string (mkS v)) ∧ Below w.heap.size w w' from fun w' h => ⟨(h.cell (p := ⟨w.heap.size, 0, none⟩) hz).trans hc1, (h.cell (p := ⟨w.heap.size, 1, none⟩) hz).trans hc2, hb0.trans (h.mono hb0.size)⟩)
  have HI := Lib.hid (show ∀ (n : Nat) w1, n ≤ 1000 → Below w.heap.size w w1 → Calls Tryd.prog 44 #[.int .i64 (n : Int)] w1 fun e w' => e = .returned (.string (mkS (Lib.decDigits n))) ∧ Below w1.heap.size w1 w' from fun n w1 hn h1 => itoa_dec n (by omega) w1 (hp.below h1))
  have hr := restL_length k v
  have hrec : recL k v = Lib.decDigits (lenOf (restL k v).length) ++ restL k v := by rw [hr]; rfl
  have hX : ∀ n : Nat, n ≤ 1000 → (∀ w, (Op.stringOp .add (mkS (Lib.decDigits n)) { data := #[32] }).run Tryd.prog w = .ok (.string (mkS (Lib.decDigits n ++ [32]))) w)
      ∧ (∀ w, (Op.stringOp .add (mkS (Lib.decDigits n ++ [32])) (mkS k)).run Tryd.prog w = .ok (.string (mkS (Lib.decDigits n ++ [32] ++ k))) w)
      ∧ (∀ w, (Op.stringOp .add (mkS (Lib.decDigits n ++ [32] ++ k)) { data := #[61] }).run Tryd.prog w = .ok (.string (mkS (Lib.decDigits n ++ [32] ++ k ++ [61]))) w)
      ∧ (∀ w, (Op.stringOp .add (mkS (Lib.decDigits n ++ [32] ++ k ++ [61])) (mkS v)).run Tryd.prog w = .ok (.string (mkS (Lib.decDigits n ++ [32] ++ k ++ [61] ++ v))) w)
      ∧ (∀ w, (Op.stringOp .add (mkS (Lib.decDigits n ++ [32] ++ k ++ [61] ++ v)) { data := #[10] }).run Tryd.prog w = .ok (.string (mkS (Lib.decDigits n ++ restL k v))) w)
      ∧ (mkS (Lib.decDigits n ++ restL k v)).size = (Lib.decDigits n).length + (restL k v).length := fun n hn => by
    have hd := (digs_pad 19 n (by omega)).1
    refine ⟨fun w => mkS_cat _ [32] (by simp; omega) w, fun w => mkS_cat _ k (by simp; omega) w, fun w => mkS_cat _ [61] (by simp; omega) w, fun w => mkS_cat _ v (by simp; omega) w, fun w => ?_, by rw [mkS_size, List.length_append]⟩
    have h := mkS_cat (Lib.decDigits n ++ [32] ++ k ++ [61] ++ v) [10] (by simp; omega) w
    rwa [show Lib.decDigits n ++ [32] ++ k ++ [61] ++ v ++ [10] = Lib.decDigits n ++ restL k v by simp [restL]] at h
  have hf := lenOf_fits (restL k v).length (by omega)
  have hlt := fun n => lenOf_least (restL k v).length n (by omega)
  have hN := lenOf_bound (restL k v).length
  rw [hrec]
  clear hc1 hc2 hz h hp hrec
  generalize restL k v = B at *
  have hb : B.length ≤ 203 := by omega
  clear hr hl
  have HX := Lib.hid hX
  have HL := Lib.hid hlt
  have HF := Lib.hid hf
  clear hX hlt hf
  go_enter Tryd.func15, Tryd.ntmps15
  go_wp2_with (go_at_call 43; with_reducible refine (R.out _).mono ?_; rintro e w1 ⟨rfl, hb1⟩)
  go_loopg [4] (lenOf B.length) (fun g s4 wr => ∃ n : Nat, n ≤ lenOf B.length ∧ lenOf B.length - n ≤ g ∧ s4 = .int .i64 n ∧ Aside (Below (w.alloc (.cells #[.string (mkS k), .string (mkS v)] 36)).heap.size (w.alloc (.cells #[.string (mkS k), .string (mkS v)] 36)) wr))
  case atStart => exact ⟨1, by omega, by omega, rfl, hb1⟩
  case round =>
    obtain ⟨n, hn, hg, rfl, A⟩ := hrel
    obtain ⟨z1, z2, z3⟩ := Z.out _ A.out
    obtain ⟨x1, x2, x3, x4, x5, x6⟩ := HX.out n (by omega)
    have c1 := fun d os => cell_regrown z1 d os
    have c2 := fun d os => cell_regrown z2 d os
    have HI2 := Lib.hid (fun d os => HI.out n (Sort.grow (redrawn wr d) os) (by omega) (z3.trans ((below_regrown wr d os).mono z3.size)))
    have hlen : ((Lib.decDigits n).length + B.length = n) ↔ n = lenOf B.length := ⟨fun h => Classical.byContradiction fun hne => HL.out n (by omega) h, fun h => by rw [h]; exact HF.out⟩
    have hn3 : lenOf B.length ≤ 206 := by omega
    have K1 := Lib.hid hlen
    clear hlen z1 z2
    have Z3 := Lib.hid z3
    clear z3
    obtain ⟨D, hD⟩ : ∃ D, Lib.decDigits n = D := ⟨_, rfl⟩
    rw [hD] at x1 x2 x3 x4 x5 x6 HI2 K1
    have HD := Lib.hid hD
    clear hD
    generalize D ++ [32] ++ k ++ [61] ++ v = X4 at *
    generalize D ++ [32] ++ k ++ [61] = X3 at *
    generalize D ++ [32] ++ k = X2 at *
    generalize D ++ [32] = X1 at *
    go_wp2
    refine wp_region_quiet_below (by kernel_rfl) (by kernel_rfl) ?_
    repeat (go_big_quiet_step ((go_at_call 44; with_reducible exact Calls.regrown_of (HI2.out _ _))))
    refine wpQuiet_nil ?_
    intro _ hw'
    obtain ⟨⟨dq, osq⟩, hw''⟩ := hw'
    subst hw''
    have hbel := Z3.out.trans ((below_regrown wr dq osq).mono Z3.out.size)
    have hbel2 := A.out.trans ((below_regrown wr dq osq).mono A.out.size)
    clear c1 c2 x1 x2 x3 x4 x5
    generalize Sort.grow (redrawn wr dq) osq = W at *
    by_cases he : n = lenOf B.length
    · have e1 : (D.length : Int) + (B.length : Int) = (n : Int) := by have := K1.out.2 he; omega
      have HE := Lib.hid he
      clear he
      go_wp2
      go_ret2
      refine ⟨?_, hbel⟩
      rw [← HE.out, HD.out]
      rfl
    · have e1 : ¬ (D.length : Int) + (B.length : Int) = (n : Int) := by
        intro h
        exact he (K1.out.1 (by omega))
      have HE := Lib.hid he
      clear he
      go_wp2
      go_roundg (lenOf B.length - (n + 1))
      case measure => have := HE.out; omega
      case rel => exact ⟨n + 1, by have := HE.out; omega, by omega, by first | rfl | simp, hbel2⟩
end Go.Proofs.YtheiamidochooaaDoor
