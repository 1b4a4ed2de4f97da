/- The reference's Up. -/
import Derived.Test.YtlgfdlfijfcfbaaDoorUp
namespace Go.Proofs.YtlgfdlfijfcfbaaDoor
open Go.RowKit Go.Joins
set_option linter.unusedVariables false

set_option maxHeartbeats 1000000 in
theorem refUp_any (l : List UInt8) (hl : l.length ≤ 1000000) (w : World) :
    Calls Tryd.prog 38 #[.string (mkS l)] w fun e w' => e = .returned (twoV (upL l).1 (upL l).2) ∧ Below w.heap.size w w' := by
  have s1 := mkS_size l
  go_enter Tryd.func38, Tryd.ntmps38
  go_wp2
  go_loop [4] (fun s => ∃ k : Nat, k ≤ l.length ∧ s = .int .i64 ((k : Int) - 1) ∧ (47 : UInt8) ∉ l.drop k) (fun s => (intOf s + 1).toNat)
  case atStart => exact ⟨l.length, by omega, rfl, by simp⟩
  case round =>
    obtain ⟨k, hk, rfl, hfree⟩ := hrel
    cases k with
    | zero =>
      have hu := Lib.hid (upL_none l (by simpa using hfree))
      clear hfree
      go_wp2
      go_ret2
      refine ⟨?_, Below.refl _ _⟩
      rw [hu.out]; rfl
    | succ i =>
      obtain ⟨c, hc⟩ : ∃ c, l[i]? = some c := ⟨_, List.getElem?_eq_getElem (by omega)⟩
      have hidx := fun w => mkS_index l (i : Int) c (by omega) (by simpa using hc) w
      have he : (((i + 1 : Nat) : Int) - 1) = (i : Int) := by omega
      rw [he]
      have h1 := fun w => mkS_upto l i (by omega) w
      have h2 := fun w => mkS_onward l (i + 1) (by omega) w
      by_cases h47 : c = 47
      · subst h47
        have hu : upL l = (l.take i, l.drop (i + 1)) := by
          have := upL_slash (l.take i) (l.drop (i + 1)) hfree
          rwa [take_slash l i hc] at this
        have HU := Lib.hid hu
        have HE := Lib.hid (show (mkS l).extract (i + 1) l.length = mkS (l.drop (i + 1)) by rw [mkS_ext, List.take_length])
        clear hu hfree hc he
        go_wp2
        go_region
        go_wp2
        go_ret2
        rw [HU.out]
        exact ⟨two_ret rfl HE.out, (Below.refl _ _).drew⟩
      · have hne : ((c.toNat : Int) == 47) = false := by
          rw [beq_eq_false_iff_ne]
          intro e
          exact h47 (UInt8.toNat_inj.1 (by show c.toNat = 47; omega))
        have HF : Hid ((47 : UInt8) ∉ l.drop i) := by
          refine Lib.hid fun hm => ?_
          obtain ⟨h3, h4⟩ := List.getElem?_eq_some_iff.1 hc
          rw [List.drop_eq_getElem_cons h3, h4] at hm
          rcases List.mem_cons.1 hm with e | hm
          · exact h47 e.symm
          · exact hfree hm
        clear hfree hc he
        go_wp2
        go_round
        case rel => exact ⟨i, by omega, rfl, HF.out⟩
        case measure => simp [intOf]
end Go.Proofs.YtlgfdlfijfcfbaaDoor
