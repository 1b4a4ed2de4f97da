/- The reference's Split; the law PathHalves' walk. -/
import Derived.Test.YtapfkjdkpcgoiaaHalf
import Derived.SizedLaws
namespace Go.Proofs.Ytapfkjdkpcgoiaa
open Go.RowKit Go.Joins
set_option linter.unusedVariables false

theorem within_any (n a b : Int) (w : World) : Calls Try.prog 13 #[.int .i64 n, .int .i64 a, .int .i64 b] w fun e w' => e = .returned (.bool (decide (a ≤ n ∧ n ≤ b))) ∧ w = w' := by
  by_cases h1 : a ≤ n <;> by_cases h2 : n ≤ b
  all_goals
    go_enter Try.func13, Try.ntmps13
    go_wp2
    go_ret
    exact ⟨by simp [h1, h2], rfl⟩

set_option maxHeartbeats 2000000 in
theorem refSplit_any (l : List UInt8) (hl : l.length ≤ 1000000) (w : World) :
    Calls Try.prog 11 #[.string (mkS l)] w (HalfPost l w) := by
  have s1 := mkS_size l
  by_cases h100 : l.length ≤ 100
  · have H := Lib.hid (show HalfIs l [] l true from .inl ⟨h100, rfl, rfl, rfl⟩)
    go_enter Try.func11, Try.ntmps11
    go_wp2
    go_ret3
    exact half_ret _ _ H.out rfl rfl (Or.inl rfl)
  · go_enter Try.func11, Try.ntmps11
    go_wp2
    go_loop [5] (fun s => ∃ k : Nat, 1 ≤ k ∧ k ≤ 156 ∧ s = .int .i64 (k : Int) ∧ ∀ j, j < k → ¬ halfAt l j) (fun s => 156 - (intOf s).toNat)
    case atStart => exact ⟨1, by omega, by omega, rfl, fun j hj h => by unfold halfAt at h; omega⟩
    case round =>
      obtain ⟨k, hk, hk2, rfl, hno⟩ := hrel
      by_cases hkT : k ≤ 155 ∧ k < l.length
      · obtain ⟨hkT, hkl⟩ := hkT
        obtain ⟨c, hc⟩ : ∃ c, l[k]? = some c := ⟨_, List.getElem?_eq_getElem (by omega)⟩
        have hidx := fun w => mkS_index l (k : Int) c (by omega) (by simpa using hc) w
        have h1 := fun w => mkS_upto l k (by omega) w
        have HE := Lib.hid (ext_onward l (k + 1))
        have C := Lib.hid (fun w => within_any ((l.length - (k + 1) : Nat) : Int) 1 100 w)
        have HC := Lib.hid hc
        have HN := Lib.hid hno
        clear hno hc
        by_cases h47 : c = 47
        · subst h47
          by_cases hw : 1 ≤ l.length - (k + 1) ∧ l.length - (k + 1) ≤ 100
          · have hdec : decide ((1 : Int) ≤ ((l.length - (k + 1) : Nat) : Int) ∧ ((l.length - (k + 1) : Nat) : Int) ≤ 100) = true := by simp; omega
            rw [hdec] at C
            clear hdec
            go_wp2_with (go_at_call 13; with_reducible refine (C.out _).mono ?_; rintro e w' ⟨rfl, rfl⟩)
            go_ret3
            refine half_ret (l.take k) (l.drop (k + 1)) ?_ rfl HE.out (Or.inl rfl)
            exact .inr ⟨by omega, .inl ⟨k, ⟨hk, hkT, HC.out, by omega, by omega⟩, HN.out, rfl, rfl, rfl⟩⟩
          · have hdec : decide ((1 : Int) ≤ ((l.length - (k + 1) : Nat) : Int) ∧ ((l.length - (k + 1) : Nat) : Int) ≤ 100) = false := by simp; omega
            rw [hdec] at C
            have HF : Hid (∀ j, j < k + 1 → ¬ halfAt l j) := Lib.hid fun j hj h => by
              by_cases e : j = k
              · subst e
                obtain ⟨_, _, _, h4, h5⟩ := h
                exact hw ⟨by omega, by omega⟩
              · exact HN.out j (by omega) h
            clear hdec
            go_wp2_with (go_at_call 13; with_reducible refine (C.out _).mono ?_; rintro e w' ⟨rfl, rfl⟩)
            go_round
            case rel => exact ⟨k + 1, by omega, by omega, by go_num, HF.out⟩
            case measure => simp [intOf]; omega
        · have hne : ((c.toNat : Int) == 47) = false := by
            rw [beq_eq_false_iff_ne]
            intro e
            exact h47 (UInt8.toNat_inj.1 (by show c.toNat = 47; omega))
          have HF : Hid (∀ j, j < k + 1 → ¬ halfAt l j) := Lib.hid fun j hj h => by
            by_cases e : j = k
            · subst e
              have := h.2.2.1
              rw [HC.out] at this
              exact h47 (Option.some.inj this)
            · exact HN.out j (by omega) h
          go_wp2
          go_round
          case rel => exact ⟨k + 1, by omega, by omega, by go_num, HF.out⟩
          case measure => simp [intOf]; omega
      · have H := Lib.hid (show HalfIs l [] [] false from .inr ⟨by omega, .inr ⟨fun i h => by
          by_cases e : i < k
          · exact hno i e h
          · unfold halfAt at h; omega, rfl, rfl, rfl⟩⟩)
        clear hno
        by_cases hk3 : k ≤ 155
        · have hk4 : ¬ k < l.length := by omega
          go_wp2
          go_ret3
          exact half_ret _ _ H.out rfl rfl (Or.inl rfl)
        · go_wp2
          go_ret3
          exact half_ret _ _ H.out rfl rfl (Or.inl rfl)

end Go.Proofs.Ytapfkjdkpcgoiaa
