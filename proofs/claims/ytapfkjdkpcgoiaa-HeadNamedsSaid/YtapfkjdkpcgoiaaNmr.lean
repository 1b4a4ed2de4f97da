/- The reference's Raw.Named and Raw.Full. -/
import Derived.Test.YtapfkjdkpcgoiaaNmf
import Derived.Test.YtapfkjdkpcgoiaaHalfR
namespace Go.Proofs.Ytapfkjdkpcgoiaa
open Go.RowKit Go.Joins
set_option linter.unusedVariables false
set_option linter.unusedSimpArgs false

theorem refFull_any (r : RawL) (hz : sumT r ≤ 1000000) (w : World) :
    Calls Try.prog 10 #[rawV r] w fun e w' => e = .returned (.string (mkS (fullL r))) ∧ Below w.heap.size w w' := by
  obtain ⟨a0, a1, a2, a3, a4, a5, a6, a7, a8, a9, a10, a11, a12⟩ := r
  simp only [sumT] at hz
  unfold rawV
  unfold fullL
  simp only
  have c1 : ∀ w, (Op.stringOp .add (mkS a4) (⟨#[47]⟩ : ByteArray)).run Try.prog w = .ok (.string (mkS (a4 ++ [47]))) w := fun w => mkS_cat2 a4 [47] (by simp; omega) w
  have c2 : ∀ w, (Op.stringOp .add (mkS (a4 ++ [47])) (mkS a0)).run Try.prog w = .ok (.string (mkS (a4 ++ 47 :: a0))) w := fun w => by
    rw [mkS_cat2 _ _ (by simp; omega) w, List.append_assoc]; rfl
  by_cases h : a4 = []
  · subst h
    have e1 := mkS_emp_nil
    rw [if_pos rfl]
    go_enter Try.func10, Try.ntmps10
    go_wp2
    go_ret
    exact ⟨rfl, below_alloc1 _ _⟩
  · have e1 := mkS_emp a4 h
    rw [if_neg h]
    go_enter Try.func10, Try.ntmps10
    go_wp2
    go_ret
    exact ⟨rfl, below_alloc1 _ _⟩
set_option maxHeartbeats 4000000 in
theorem refNamed_any (d : Int) (r : RawL) (n : List UInt8) (hn : n.length ≤ 1000000) (w : World) :
    Calls Try.prog 6 #[rawV r, .int .i64 d, .string (mkS n)] w (NamedPost d r n w) := by
  obtain ⟨a0, a1, a2, a3, a4, a5, a6, a7, a8, a9, a10, a11, a12⟩ := r
  have s1 := mkS_size n
  have C1 := Lib.hid (fun w => refSplit_any n hn w)
  unfold rawV
  simp only
  by_cases h : d = 2 ∨ d = 4
  · rcases h with rfl | rfl
    all_goals
      go_enter Try.func6, Try.ntmps6
      go_wp2_with fail
      go_at_call 11
      refine (C1.out _).mono ?_
      rintro e w1 ⟨x, y, k, hI, rfl, h1⟩
      have HI := Lib.hid hI
      clear hI
      rcases h1 with rfl | rfl
      all_goals
        go_wp2
        refine bodyPost_ret (v := .tuple #[rawV ⟨y, a1, a2, a3, x, a5, a6, a7, a8, a9, a10, a11, a12⟩, .bool k]) (by simp [results, Try.results6, go_sem]) rfl ?_
        refine ⟨_, k, .parted _ _ n x y k (by decide) HI.out, rfl, ?_⟩
        first | exact below_alloc1 _ _ | exact below_alloc2 _ _ _ | exact (below_alloc1 _ _).drew | exact (below_alloc2 _ _ _).drew
  · have h2 : ¬ d = 2 := fun e => h (Or.inl e)
    have h4 : ¬ d = 4 := fun e => h (Or.inr e)
    have hd := Lib.hid h
    have b2 : (d == 2) = false := beq_eq_false_iff_ne.2 h2
    have b4 : (d == 4) = false := beq_eq_false_iff_ne.2 h4
    clear h
    go_enter Try.func6, Try.ntmps6
    go_wp2
    refine bodyPost_ret (v := .tuple #[rawV ⟨n, a1, a2, a3, [], a5, a6, a7, a8, a9, a10, a11, a12⟩, .bool (decide (n.length ≤ 100))]) ?_ rfl ?_
    · have hk : decide ((n.length : Int) < 101) = decide (n.length ≤ 100) := by congr 1; exact propext (by omega)
      simp [results, Try.results6, go_sem, ← hk, mkS_nil', rawV]
    refine ⟨_, _, .whole d _ n hd.out, rfl, ?_⟩
    first | exact below_alloc1 _ _ | exact below_alloc2 _ _ _ | exact (below_alloc1 _ _).drew | exact (below_alloc2 _ _ _).drew
end Go.Proofs.Ytapfkjdkpcgoiaa
