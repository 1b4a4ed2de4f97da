/- PaxJoins: what Merge makes of any three lists of records is the document's (no conditions). -/
import Derived.Test.YtheiamidochooaaRows
import Derived.WalkKit
import Derived.ProofKit
import Derived.OpenShut
import Derived.Lib.SmallJoins
import Derived.SizedLaws
import Derived.Test.YtheiamidochooaaJns
import Derived.Test.YtheiamidochooaaArg
namespace Go.Proofs.Ytheiamidochooaa.paxJoins
open Go.ChangeShapes Go.WideShapes Go.ChangeAt Go.RowKit
set_option linter.unusedVariables false

theorem own : ownKnob Try.prog.godebug = none := by kernel_rfl

set_option maxRecDepth 100000 in
theorem lifted (os : Os) (started : os.Started) (H : Type) (enc : TypeId × Value → H) :
    ReturnsInHanded {} Try.checked os 4 .any (Rows.paxJoinsSpec.pre6 enc Try.prog Try.f4 Rows.paxJoinsRow.domain false) (Rows.paxJoinsSpec.post enc Try.prog Try.f4 false true false false) := by
  refine returnsInHanded_of_change_sized (C := Try.checked) own started (by kernel_rfl) Try.func4
    (ChangeSpec.witness6 (enc := enc) (C := Try.checked) false ⟨#[], #[.slice none 0 0, .slice none 0 0, .slice none 0 0], []⟩ 8 (by kernel_rfl) (by kernel_rfl) (by kernel_rfl) (by kernel_rfl)) ?_
  intro W base args ds gs before hval0 hW hcnd hwt _
  have hval : ∀ (j : Nat) t v, Try.f4.params[j]? = some t → args[j]? = some v → Value.okWide Try.prog W .any base t v := hval0
  have hW' := hW
  obtain ⟨p, q, hA0, hV, rfl, hfz, hnd⟩ := hW
  have hA : DataW.TrodAll enc Try.prog W 0 (fun _ => true) true Try.f4.params.toList args.toList ds p := hA0
  rw [Try.params4] at hA hval
  obtain ⟨v0, vs0, d0, ds0, p0, q0, hargs, rfl, rfl, h0, r0⟩ := trodAll_cons hA
  obtain ⟨v1, vs1, d1, ds1, p1, q1, rfl, rfl, rfl, h1, r1⟩ := trodAll_cons r0
  obtain ⟨v2, vs2, d2, ds2, p2, q2, rfl, rfl, rfl, h2, r2⟩ := trodAll_cons r1
  obtain ⟨rfl, rfl, rfl⟩ := trodAll_nil r2
  obtain rfl : args = #[v0, v1, v2] := by cases args; simp_all
  obtain ⟨rfl, rfl⟩ := trodVars_none hV
  obtain ⟨ad0, c0, l0, sp0, rfl, z0, hM0, _, hd0⟩ := open_pairs Try.underlying25 Try.underlying23 (by kernel_rfl) rfl rfl (by kernel_rfl) (by kernel_rfl) Try.underlying9 Try.underlying9 (hval 0 25 v0 rfl rfl) h0
  obtain ⟨ad1, c1, l1, sp1, rfl, z1, hM1, _, hd1⟩ := open_pairs Try.underlying25 Try.underlying23 (by kernel_rfl) rfl rfl (by kernel_rfl) (by kernel_rfl) Try.underlying9 Try.underlying9 (hval 1 25 v1 rfl rfl) h1
  obtain ⟨ad2, c2, l2, sp2, rfl, z2, hM2, _, hd2⟩ := open_pairs Try.underlying25 Try.underlying23 (by kernel_rfl) rfl rfl (by kernel_rfl) (by kernel_rfl) Try.underlying9 Try.underlying9 (hval 2 25 v2 rfl rfl) h2
  clear hA0 hval0
  simp only [List.append_nil] at hW'
  have u0 : ∀ p ∈ l0, p.1.length ≤ reachBytes ∧ p.2.length ≤ reachBytes := by
    rcases hd0 with hd | ⟨_, hd⟩
    · exact sized_pairs hwt (j := 0) (t := 25) rfl (congrArg some hd) Try.underlying25 Try.underlying23
    · rw [hd]; intro p hp; cases hp
  have x0 := caps_pairs Try.underlying25 Try.underlying23 (by kernel_rfl) rfl rfl (by kernel_rfl) (by kernel_rfl) h0
  have u1 : ∀ p ∈ l1, p.1.length ≤ reachBytes ∧ p.2.length ≤ reachBytes := by
    rcases hd1 with hd | ⟨_, hd⟩
    · exact sized_pairs hwt (j := 1) (t := 25) rfl (congrArg some hd) Try.underlying25 Try.underlying23
    · rw [hd]; intro p hp; cases hp
  have x1 := caps_pairs Try.underlying25 Try.underlying23 (by kernel_rfl) rfl rfl (by kernel_rfl) (by kernel_rfl) h1
  have u2 : ∀ p ∈ l2, p.1.length ≤ reachBytes ∧ p.2.length ≤ reachBytes := by
    rcases hd2 with hd | ⟨_, hd⟩
    · exact sized_pairs hwt (j := 2) (t := 25) rfl (congrArg some hd) Try.underlying25 Try.underlying23
    · rw [hd]; intro p hp; cases hp
  have x2 := caps_pairs Try.underlying25 Try.underlying23 (by kernel_rfl) rfl rfl (by kernel_rfl) (by kernel_rfl) h2
  refine (paxJoins_walk ad0 c0 l0 z0 u0 x0 ad1 c1 l1 z1 u1 x1 ad2 c2 l2 z2 u2 x2 W hM0 hM1 hM2).mono fun e W' ⟨he, hb⟩ => ?_
  subst he
  have hlt := fun x hx => hW'.lt x hx
  exact ⟨_, rfl, _, _, _, [], _, [], hW', (trodAll_cons_mk (shut_bool Try.underlying4 _) trodAll_mk0), (trodAll_cons_mk (Below.trod (by kernel_rfl) (by kernel_rfl) (of_decide_eq_true (by kernel_rfl)) h0 hb (fun x hx => hlt x (by simp [hx]))) (trodAll_cons_mk (Below.trod (by kernel_rfl) (by kernel_rfl) (of_decide_eq_true (by kernel_rfl)) h1 hb (fun x hx => hlt x (by simp [hx]))) (trodAll_cons_mk (Below.trod (by kernel_rfl) (by kernel_rfl) (of_decide_eq_true (by kernel_rfl)) h2 hb (fun x hx => hlt x (by simp [hx]))) trodAll_mk0))), rfl, hb.frame _, fun h => by cases h⟩

/-- The statement. -/
theorem proved : Rows.PaxJoinsSaid :=
  OpenClaim.holds_of_wide 4 Try.f4 rfl rfl rfl rfl rfl rfl rfl ⟨rfl, rfl, rfl, rfl, rfl⟩ rfl rfl rfl rfl rfl (by kernel_rfl) Try.func4 (by kernel_rfl)
    (of_decide_eq_true (by kernel_rfl)) (by unfold Func.isWrapper; first | (rw [if_pos (by decide +kernel)]; kernel_rfl) | (rw [if_neg (by decide +kernel)]; exact ⟨rfl, rfl⟩))
    (fun os started H enc _ => lifted os started H enc)
#print axioms proved
end Go.Proofs.Ytheiamidochooaa.paxJoins
