/- Raw.Named and Raw.Full; rawOf, thick. -/
import Derived.Test.YtapfkjdkpcgoiaaDoorRat
import Derived.Test.YtapfkjdkpcgoiaaDoorHalf
namespace Go.Proofs.YtapfkjdkpcgoiaaDoor
open Go.RowKit Go.Joins
set_option linter.unusedVariables false
set_option linter.unusedSimpArgs false

def sumT (r : RawL) : Nat := r.name.length + r.link.length + r.user.length + r.group.length + r.front.length
def fullL (r : RawL) : List UInt8 := if r.front = [] then r.name else r.front ++ (47 :: r.name)

theorem thick_any (r : RawL) (hz : textsL r) (w : World) :
    Calls Tryd.prog 8 #[rawV r] w fun e w' => e = .returned (.bool (decide ((900 : Int) < ((sumT r : Nat) : Int)))) ∧ Below w.heap.size w w' := by
  obtain ⟨a0, a1, a2, a3, a4, a5, a6, a7, a8, a9, a10, a11, a12⟩ := r
  obtain ⟨z0, z1, z2, z3, z4⟩ := hz
  have hr := reachBytes_lt
  have s0 := mkS_size a0
  have s1 := mkS_size a1
  have s2 := mkS_size a2
  have s3 := mkS_size a3
  have s4 := mkS_size a4
  simp only at z0 z1 z2 z3 z4
  have e : ((sumT ⟨a0, a1, a2, a3, a4, a5, a6, a7, a8, a9, a10, a11, a12⟩ : Nat) : Int) = (a0.length : Int) + a1.length + a2.length + a3.length + a4.length := by simp only [sumT]; omega
  rw [e]
  clear e
  unfold rawV
  simp only
  go_enter Tryd.func8, Tryd.ntmps8
  go_wp2
  go_ret
  exact ⟨rfl, below_alloc1 _ _⟩
theorem rawOf_any (r : RawL) (w : World) :
    Calls Tryd.prog 11 #[rawV r] w fun e w' => e = .returned (rawV r) ∧ Below w.heap.size w w' := by
  obtain ⟨a0, a1, a2, a3, a4, a5, a6, a7, a8, a9, a10, a11, a12⟩ := r
  unfold rawV
  simp only
  go_enter Tryd.func11, Tryd.ntmps11
  go_wp2
  refine bodyPost_ret (v := rawV ⟨a0, a1, a2, a3, a4, a5, a6, a7, a8, a9, a10, a11, a12⟩) (by simp [results, Tryd.results11, go_sem]) rfl ?_
  exact ⟨rfl, below_alloc2 _ _ _⟩
theorem full_any (r : RawL) (hz : sumT r ≤ 1000000) (w : World) :
    Calls Tryd.prog 19 #[rawV r] w fun e w' => e = .returned (.string (mkS (fullL r))) ∧ Below w.heap.size w w' := by
  obtain ⟨a0, a1, a2, a3, a4, a5, a6, a7, a8, a9, a10, a11, a12⟩ := r
  simp only [sumT] at hz
  unfold rawV
  unfold fullL
  simp only
  have c1 : ∀ w, (Op.stringOp .add (mkS a4) (⟨#[47]⟩ : ByteArray)).run Tryd.prog w = .ok (.string (mkS (a4 ++ [47]))) w := fun w => mkS_cat2 a4 [47] (by simp; omega) w
  have c2 : ∀ w, (Op.stringOp .add (mkS (a4 ++ [47])) (mkS a0)).run Tryd.prog w = .ok (.string (mkS (a4 ++ 47 :: a0))) w := fun w => by
    rw [mkS_cat2 _ _ (by simp; omega) w, List.append_assoc]; rfl
  by_cases h : a4 = []
  · subst h
    have e1 := mkS_emp_nil
    rw [if_pos rfl]
    go_enter Tryd.func19, Tryd.ntmps19
    go_wp2
    go_ret
    exact ⟨rfl, below_alloc1 _ _⟩
  · have e1 := mkS_emp a4 h
    rw [if_neg h]
    go_enter Tryd.func19, Tryd.ntmps19
    go_wp2
    go_ret
    exact ⟨rfl, below_alloc1 _ _⟩
/-- What a header with another name is. -/
inductive NamedIs : Int → RawL → List UInt8 → RawL → Bool → Prop
  | parted (d : Int) (r : RawL) (n a b : List UInt8) (k : Bool) : d = 2 ∨ d = 4 → HalfIs n a b k → NamedIs d r n { r with front := a, name := b } k
  | whole (d : Int) (r : RawL) (n : List UInt8) : ¬ (d = 2 ∨ d = 4) → NamedIs d r n { r with front := [], name := n } (decide (n.length ≤ 100))
theorem NamedIs.unique {d : Int} {r : RawL} {n : List UInt8} {q q' : RawL} {k k' : Bool} (h : NamedIs d r n q k) (h' : NamedIs d r n q' k') : q = q' ∧ k = k' := by
  cases h with
  | parted a b k hd hI =>
    cases h' with
    | parted a' b' k' hd' hI' => obtain ⟨rfl, rfl, rfl⟩ := hI.unique hI'; exact ⟨rfl, rfl⟩
    | whole hd' => exact absurd hd hd'
  | whole hd =>
    cases h' with
    | parted a' b' k' hd' hI' => exact absurd hd' hd
    | whole hd' => exact ⟨rfl, rfl⟩
def NamedPost (d : Int) (r : RawL) (n : List UInt8) (w : World) (e : Ending) (w' : World) : Prop :=
  ∃ q k, NamedIs d r n q k ∧ e = .returned (.tuple #[rawV q, .bool k]) ∧ Below w.heap.size w w'
theorem mkS_nil' : mkS [] = ⟨#[]⟩ := rfl
set_option maxHeartbeats 4000000 in
theorem named_any (d : Int) (r : RawL) (n : List UInt8) (hn : n.length ≤ 1000000) (w : World) :
    Calls Tryd.prog 18 #[rawV r, .int .i64 d, .string (mkS n)] w (NamedPost d r n w) := by
  obtain ⟨a0, a1, a2, a3, a4, a5, a6, a7, a8, a9, a10, a11, a12⟩ := r
  have s1 := mkS_size n
  have C1 := Lib.hid (fun w => split_any n hn w)
  unfold rawV
  simp only
  by_cases h : d = 2 ∨ d = 4
  · rcases h with rfl | rfl
    all_goals
      go_enter Tryd.func18, Tryd.ntmps18
      go_wp2_with fail
      go_at_call 41
      refine (C1.out _).mono ?_
      rintro e w1 ⟨x, y, k, hI, rfl, h1⟩
      have HI := Lib.hid hI
      clear hI
      rcases h1 with rfl | rfl
      all_goals
        go_wp2
        refine bodyPost_ret (v := .tuple #[rawV ⟨y, a1, a2, a3, x, a5, a6, a7, a8, a9, a10, a11, a12⟩, .bool k]) (by simp [results, Tryd.results18, go_sem]) rfl ?_
        refine ⟨_, k, .parted _ _ n x y k (by decide) HI.out, rfl, ?_⟩
        first | exact below_alloc1 _ _ | exact below_alloc2 _ _ _ | exact (below_alloc1 _ _).drew | exact (below_alloc2 _ _ _).drew
  · have h2 : ¬ d = 2 := fun e => h (Or.inl e)
    have h4 : ¬ d = 4 := fun e => h (Or.inr e)
    have hd := Lib.hid h
    have b2 : (d == 2) = false := beq_eq_false_iff_ne.2 h2
    have b4 : (d == 4) = false := beq_eq_false_iff_ne.2 h4
    clear h
    go_enter Tryd.func18, Tryd.ntmps18
    go_wp2
    refine bodyPost_ret (v := .tuple #[rawV ⟨n, a1, a2, a3, [], a5, a6, a7, a8, a9, a10, a11, a12⟩, .bool (decide (n.length ≤ 100))]) ?_ rfl ?_
    · have hk : decide ((n.length : Int) ≤ 100) = decide (n.length ≤ 100) := by congr 1; exact propext (by omega)
      simp [results, Tryd.results18, go_sem, ← hk, mkS_nil', rawV]
    refine ⟨_, _, .whole d _ n hd.out, rfl, ?_⟩
    first | exact below_alloc1 _ _ | exact below_alloc2 _ _ _ | exact (below_alloc1 _ _).drew | exact (below_alloc2 _ _ _).drew
end Go.Proofs.YtapfkjdkpcgoiaaDoor
