/- A region that draws its order, within a round of a range over a function: one walk, in the order of the text, serves. -/
import Derived.Sort.QuietIn
import Derived.RangeFuncCalls
namespace Go.Proofs.YtalafhfpmkacgaaDoor
set_option linter.unusedVariables false

def noDefer (ops : Array Oper) : Bool := ops.all fun o => match o.op with
  | .defer _ => false
  | _ => true
theorem noDefer_spec {ops : Array Oper} (h : noDefer ops = true) (i : Nat) (o : Oper) (hi : ops[i]? = some o) : ∀ c, o.op ≠ .defer c := fun c e => by
  have hl := (Array.getElem?_eq_some_iff.1 hi)
  obtain ⟨h1, h2⟩ := hl
  have := Array.all_eq_true.1 h i h1
  rw [h2, e] at this
  cases this
theorem wpOpsIn_round {F : Fence} {n : Nat} {P : Program} {ops : Array Oper} {Q : Exit → Act → World → Prop} (lp : Nat) (hro : F.round = none) (hd : noDefer ops = true) :
    ∀ (is : List Nat) (a : Act) (w : World), wpOpsIn F n P ops Q is a w → wpOpsIn (F.inRound lp) n P ops Q is a w
  | [], _, _, h => h
  | i :: is, a, w, h => by
    rw [wpOpsIn_cons] at h ⊢
    unfold wpOpIn at h ⊢
    cases ho : ops[i]? with
    | none =>
      rw [ho] at h
      exact wpOpsIn_round lp hro hd is a w h
    | some o =>
      rw [ho] at h
      simp only [] at h ⊢
      split at h
      · next hw =>
        rw [if_pos hw]
        have h2 := Oper.wpIn_mono (fun a w => wpOpsIn_round lp hro hd is a w) h
        refine ⟨h2.1, ?_⟩
        have h3 := h2.2
        rw [Oper.semAt_eq _ _ _ (noDefer_spec hd i o ho)] at h3 ⊢
        exact h3
      · next hw =>
        rw [if_neg hw]
        exact ⟨h.1, wpOpsIn_round lp hro hd is _ w h.2⟩

theorem wpIn_region_quiet_round {F : Fence} {n : Nat} {P : Program} {id lp : Nat} {Q : Exit → Act → World → Prop} {a : Act} {w : World} {l : List Oper} (hro : F.round = none) (hm : P.follows .mixedOrders = true) (hB : Region.lexB .any l.toArray = true) (hd : noDefer l.toArray = true)
    (h : wpQuietIn F n P l.toArray (fun w' => ∃ k, w' = w.drewN k) (fun a' => ∀ w', (∃ k, w' = w.drewN k) → Q .normal a' w') l a) : (Code.region id l.toArray true).wpIn (F.inRound lp) n P Q a w := by
  simp only [Region.lexB, Bool.and_eq_true] at hB
  refine wpIn_region_draw fun t => ?_
  simp only [Region.schedule, hm, Bool.true_or, if_true]
  refine wpOpsIn_round lp hro hd _ _ _ (wpAnyIn_sound _ t _ a _ ?_)
  refine wpAnyIn_of_quiet (C := fun w' => ∃ k, w' = w.drewN k) (Q := fun a' => ∀ w', (∃ k, w' = w.drewN k) → Q .normal a' w') hro (fun _ w' hw' h => h w' hw') _ _ _ _ ⟨1, rfl⟩ ?_
  have := wpAnyQIn_lex (F := F) (n := n) (C := fun w' => ∃ k, w' = w.drewN k) (md := .any) hB.1 l 0 (Array.replicate l.toArray.size false) a (by simp) (by simpa using hB.2) h
  simpa using this
end Go.Proofs.YtalafhfpmkacgaaDoor
