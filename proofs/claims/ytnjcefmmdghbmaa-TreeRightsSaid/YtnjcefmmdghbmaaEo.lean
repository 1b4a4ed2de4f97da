/- Eo: what the texts of the name hold, joined. -/
import Derived.Test.YtnjcefmmdghbmaaEn
set_option linter.unusedSimpArgs false
set_option linter.unusedVariables false
section
/- member.rightData, member.Right: what each returns of any member. -/
namespace Go.Proofs.Ytnjcefmmdghbmaa
open Go.RowKit Go.Joins
set_option linter.unusedVariables false
set_option linter.unusedSimpArgs false

/-- A member's numbers and pieces fit; it is no longer than a machine. -/
structure EntOk (e : EntL) : Prop where
  ints : intsE e
  texts : textsE e
  map : e.map.length ≤ maxLen
  fits : Fits e.map
theorem reach_fits {n : Nat} (h : n ≤ reachBytes) : n ≤ 9223372036854775807 := by have := reachBytes_lt; omega
theorem ite_u8 {α : Type} {c : UInt8} {n : Nat} (hn : n < 256) {x y : α} : (if c = UInt8.ofNat n then x else y) = if ((c.toNat : Int) == (n : Int)) = true then x else y := by
  rw [u8_at c n hn]
  by_cases h : c = UInt8.ofNat n
  · rw [if_pos h, if_pos (by simpa using h)]
  · rw [if_neg h, if_neg (by simpa using h)]
theorem kind_cases (c : UInt8) : c = 48 ∨ c = 49 ∨ c = 50 ∨ c = 51 ∨ c = 52 ∨ c = 53 ∨ c = 54 ∨ (¬ (c.toNat : Int) = 48 ∧ ¬ (c.toNat : Int) = 49 ∧ ¬ (c.toNat : Int) = 50 ∧ ¬ (c.toNat : Int) = 51 ∧ ¬ (c.toNat : Int) = 52 ∧ ¬ (c.toNat : Int) = 53 ∧ ¬ (c.toNat : Int) = 54 ∧ ¬ c = 48 ∧ ¬ (49 ≤ c ∧ c ≤ 54)) := by
  have key : ∀ d : UInt8, c = d ∨ ¬ (c.toNat : Int) = (d.toNat : Int) := fun d => by
    by_cases h : c = d
    · exact .inl h
    · right; intro h2; exact h (UInt8.toNat_inj.1 (by omega))
  rcases key 48 with h | h0; · exact .inl h
  rcases key 49 with h | h1; · exact .inr (.inl h)
  rcases key 50 with h | h2; · exact .inr (.inr (.inl h))
  rcases key 51 with h | h3; · exact .inr (.inr (.inr (.inl h)))
  rcases key 52 with h | h4; · exact .inr (.inr (.inr (.inr (.inl h))))
  rcases key 53 with h | h5; · exact .inr (.inr (.inr (.inr (.inr (.inl h)))))
  rcases key 54 with h | h6; · exact .inr (.inr (.inr (.inr (.inr (.inr (.inl h))))))
  refine .inr (.inr (.inr (.inr (.inr (.inr (.inr ⟨h0, h1, h2, h3, h4, h5, h6, fun h => h0 (by rw [h]), fun ⟨a, b⟩ => ?_⟩))))))
  have a' : 49 ≤ c.toNat := UInt8.le_iff_toNat_le.1 a
  have b' : c.toNat ≤ 54 := UInt8.le_iff_toNat_le.1 b
  change ¬ (c.toNat : Int) = 49 at h1
  change ¬ (c.toNat : Int) = 50 at h2
  change ¬ (c.toNat : Int) = 51 at h3
  change ¬ (c.toNat : Int) = 52 at h4
  change ¬ (c.toNat : Int) = 53 at h5
  change ¬ (c.toNat : Int) = 54 at h6
  omega
set_option maxRecDepth 100000 in
set_option maxHeartbeats 8000000 in
theorem rightData_file (e : EntL) (hk : (e.kind.toNat : Int) = 48) (ad : Option Addr) (cap : Nat) (ho : EntOk e) (w : World) (hM : PiecesAt w ad e.map) :
    Calls Try.prog 13 #[entV e (.slice ad e.map.length cap)] w fun r w' => r = .returned (.bool (fitsI e.size 4000 && (!sparseE e || (mapRight e.map e.size && decide ((e.data.length : Int) = sizeF 0 e.map))))) ∧ Below w.heap.size w w' := by
  have s1 := mkS_size e.data
  have hkb : ((e.kind.toNat : Int) == 48) = true := by rw [beq_iff_eq]; exact hk
  clear hk
  have hsz : i64 e.size := ho.ints.2.2.2.1
  have hdt : e.data.length ≤ 9223372036854775807 := reach_fits ho.texts.2.2.2.2
  have hE := EntAt.new w e (.slice ad e.map.length cap) 30
  have hB := Lib.hid (below_alloc1 w (.cells (entC e (.slice ad e.map.length cap)) 30))
  have HM := Lib.hid (fun W (h : Below w.heap.size w W) => hM.below h)
  have CP := Lib.hid (fun w => sparse_any e ad cap hdt w)
  have CR := Lib.hid (fun W (h : Below w.heap.size w W) => rightA_any ad cap e.map e.size hsz ho.map ho.fits W (HM.out W h))
  have CZ := Lib.hid (fun W (h : Below w.heap.size w W) => sizeA_any ad cap e.map ho.map ho.fits W (HM.out W h))
  unfold fitsI
  clear ho hM
  generalize sparseE e = b1 at *
  generalize mapRight e.map e.size = b2 at *
  generalize sizeF 0 e.map = S at *
  unfold entC at hB hE
  unfold entV at CP ⊢
  generalize e.map.length = n at *
  go_enter Try.func13, Try.ntmps13
  go_wp2_with fail
  generalize (w.alloc (.cells _ 30)) = w1 at *
  have hb2 := fun d os => hB.out.trans ((below_regrown w1 d os).mono hB.out.size)
  have HB2 := Lib.hid hb2
  have u := fun d os => hE.regrown d os
  unfold EntAt at u
  obtain ⟨c0, c1, c2, c3, c4, c5, c6, c7, c8, c9, c10, c11, c12, c13, c14⟩ := id hE
  have v0 := fun d os => (u d os).1
  have v1 := fun d os => (u d os).2.1
  have v2 := fun d os => (u d os).2.2.1
  have v3 := fun d os => (u d os).2.2.2.1
  have v4 := fun d os => (u d os).2.2.2.2.1
  have v5 := fun d os => (u d os).2.2.2.2.2.1
  have v6 := fun d os => (u d os).2.2.2.2.2.2.1
  have v7 := fun d os => (u d os).2.2.2.2.2.2.2.1
  have v8 := fun d os => (u d os).2.2.2.2.2.2.2.2.1
  have v9 := fun d os => (u d os).2.2.2.2.2.2.2.2.2.1
  have v10 := fun d os => (u d os).2.2.2.2.2.2.2.2.2.2.1
  have v11 := fun d os => (u d os).2.2.2.2.2.2.2.2.2.2.2.1
  have v12 := fun d os => (u d os).2.2.2.2.2.2.2.2.2.2.2.2.1
  have v13 := fun d os => (u d os).2.2.2.2.2.2.2.2.2.2.2.2.2.1
  have v14 := fun d os => (u d os).2.2.2.2.2.2.2.2.2.2.2.2.2.2
  clear u hE hb2
  go_wp2_with fail
  have fin : ∀ (x : Bool), True := fun _ => trivial
  cases h1 : decide (0 ≤ e.size)
  case' true => cases h2 : decide (e.size ≤ 4000)
  case' true.true => cases b1
  case' true.true.true => cases b2
  all_goals
    refine wp_region_quiet_below (by kernel_rfl) (by kernel_rfl) ?_
    repeat (go_big_quiet_step (first
      | (go_at_call 22; with_reducible exact Calls.regrown_of (CP.out _))
      | (go_at_call 23; with_reducible exact Calls.regrown_of (CR.out _ (HB2.out _ _)))
      | (go_at_call 24; with_reducible exact Calls.regrown_of (CZ.out _ (HB2.out _ _)))))
    refine wpQuiet_nil ?_
    intro _ hw'
    obtain ⟨⟨dq, osq⟩, hw''⟩ := hw'
    subst hw''
    have hq := Lib.hid (HB2.out dq osq)
    dsimp only at *
    generalize Sort.grow (redrawn _ dq) osq = w2 at *
    go_wp2
    go_ret
    exact ⟨by simp only [*]; rfl, hq.out⟩
end Go.Proofs.Ytnjcefmmdghbmaa
end
