/- slices.ContainsFunc at pieces, at whatever predicate. -/
import Derived.Test.YtpkledmpldnhiaaPeq
import Derived.Shelf.Abstract
namespace Go.Proofs.Ytpkledmpldnhiaa
open Go.RowKit Go.Joins
set_option linter.unusedVariables false

/-- Where the first hit is. -/
def HitAt (f : Pc → Bool) (M : List Pc) (r : Int) : Prop := (r = -1 ∧ ∀ (j : Nat) p, M[j]? = some p → f p = false) ∨ ∃ k : Nat, r = (k : Int) ∧ k < M.length ∧ ∃ p, M[k]? = some p ∧ f p = true
set_option maxHeartbeats 2000000 in
theorem indexFn_any (f : Pc → Bool) (g : Nat) (lb : Array Value) (eg : ∀ args w, (callFunc g args).run Try.prog w = .ok (.enter g args) w) (ad : Option Addr) (c : Nat) (M : List Pc) (hl : M.length ≤ 100000) (w : World) (hM : PiecesAt w ad M)
    (hf : ∀ p ∈ M, ∀ W, Below w.heap.size w W → Calls Try.prog g (#[pcV p] ++ lb) W fun e w' => e = .returned (.bool (f p)) ∧ Below W.heap.size W w') :
    Calls Try.prog 20 #[.slice ad M.length c, .func (.func g) #[] lb] w fun e w' => (∃ r, e = .returned (.int .i64 r) ∧ HitAt f M r) ∧ Below w.heap.size w w' := by
  have HR := Lib.hid (show ∀ w', Below w.heap.size w w' → PiecesAt w' ad M from fun w' hb => hM.below hb)
  have HS := Lib.hid hf
  clear hM hf
  go_enter Try.func20, Try.ntmps20
  go_wp2
  go_loopg [8] M.length (fun g s8 wr => ∃ i : Nat, i ≤ M.length ∧ M.length - i ≤ g ∧ s8 = .int .i64 i ∧ Aside (Below w.heap.size w wr ∧ ∀ (j : Nat) p, j < i → M[j]? = some p → f p = false))
  case atStart => exact ⟨0, by omega, by omega, rfl, Below.refl _ _, fun j p hj => by omega⟩
  case round =>
    obtain ⟨i, hi, hg, rfl, A⟩ := hrel
    by_cases hil : i < M.length
    · obtain ⟨p, hp⟩ : ∃ p, M[i]? = some p := ⟨_, List.getElem?_eq_getElem hil⟩
      obtain ⟨b, off, had, _, x1, x2⟩ := HR.out wr A.out.1 i p hp
      subst had
      have S := Lib.hid (HS.out p (List.mem_of_getElem? hp) wr A.out.1)
      have HA := Lib.hid A.out
      have HP := Lib.hid hp
      clear A hp
      cases hf : f p with
      | false =>
        have HF := Lib.hid hf
        clear hf
        go_wp2_with (go_at_fn g; refine S.out.mono ?_; rintro e w1 ⟨rfl, h1⟩; rw [HF.out])
        go_roundg (M.length - (i + 1))
        case measure => omega
        case rel => exact ⟨i + 1, by omega, by omega, by first | rfl | simp, HA.out.1.trans (h1.mono HA.out.1.size), fun j q hj hq => by
          rcases Nat.lt_or_ge j i with h | h
          · exact HA.out.2 j q h hq
          · obtain rfl : j = i := by omega
            rw [HP.out] at hq
            cases hq
            exact HF.out⟩
      | true =>
        have HF := Lib.hid hf
        clear hf
        go_wp2_with (go_at_fn g; refine S.out.mono ?_; rintro e w1 ⟨rfl, h1⟩; rw [HF.out])
        go_ret
        exact ⟨⟨_, rfl, Or.inr ⟨i, rfl, hil, p, HP.out, HF.out⟩⟩, HA.out.1.trans (h1.mono HA.out.1.size)⟩
    · go_wp2
      go_ret
      exact ⟨⟨_, rfl, Or.inl ⟨rfl, fun j p hp => A.out.2 j p (by have := (List.getElem?_eq_some_iff.1 hp).1; omega) hp⟩⟩, A.out.1⟩
theorem HitAt.any {f : Pc → Bool} {M : List Pc} {r : Int} (h : HitAt f M r) : (r = -1 ∧ M.any f = false) ∨ ∃ k : Nat, r = (k : Int) ∧ M.any f = true := by
  rcases h with ⟨h1, h2⟩ | ⟨k, h1, _, p, hp, hf⟩
  · refine Or.inl ⟨h1, List.any_eq_false.2 fun p hp => ?_⟩
    obtain ⟨j, hj, e⟩ := List.getElem_of_mem hp
    rw [h2 j p (by rw [← e]; exact List.getElem?_eq_getElem hj)]
    simp
  · exact Or.inr ⟨k, h1, List.any_eq_true.2 ⟨p, List.mem_of_getElem? hp, hf⟩⟩
set_option maxHeartbeats 1000000 in
theorem containsFn_any (f : Pc → Bool) (g : Nat) (lb : Array Value) (eg : ∀ args w, (callFunc g args).run Try.prog w = .ok (.enter g args) w) (ad : Option Addr) (c : Nat) (M : List Pc) (hl : M.length ≤ 100000) (w : World) (hM : PiecesAt w ad M)
    (hf : ∀ p ∈ M, ∀ W, Below w.heap.size w W → Calls Try.prog g (#[pcV p] ++ lb) W fun e w' => e = .returned (.bool (f p)) ∧ Below W.heap.size W w') :
    Calls Try.prog 14 #[.slice ad M.length c, .func (.func g) #[] lb] w fun e w' => e = .returned (.bool (M.any f)) ∧ Below w.heap.size w w' := by
  have HI := Lib.hid (indexFn_any f g lb eg ad c M hl w hM hf)
  clear hM hf
  go_enter Try.func14, Try.ntmps14
  go_wp2_with (go_at_call 20; refine HI.out.mono ?_; rintro e w1 ⟨⟨r, rfl, hr⟩, h1⟩; have H1 := Lib.hid h1; clear h1; rcases hr.any with ⟨rfl, ha⟩ | ⟨k, rfl, ha⟩)
  · go_ret
    exact ⟨by rw [ha]; first | rfl | simp, H1.out⟩
  · go_ret
    exact ⟨by rw [ha]; first | rfl | simp, H1.out⟩
end Go.Proofs.Ytpkledmpldnhiaa
