/- The reference's GlobIs; the law GlobRights' walk. -/
import Derived.Test.YtcdoiadmnckccaaDoorRsn
import Derived.Test.YtcdoiadmnckccaaDoorFsg
namespace Go.Proofs.YtcdoiadmnckccaaDoor
set_option linter.unusedVariables false
set_option linter.unusedSimpArgs false
open Go.RowKit Go.Joins Go.Maps
set_option maxRecDepth 100000

/-- What the first piece leaves, as GlobIs goes: a star alone. -/
theorem pat_star (r : List UInt8) : (patL (42 :: r)).isSome = (patL r).isSome := by
  by_cases h : starred r = true
  · obtain ⟨r2, rfl⟩ : ∃ r2, r = 42 :: r2 := by
      cases r with
      | nil => cases h
      | cons c r2 => exact ⟨r2, by simp only [starred, decide_eq_true_eq] at h; rw [h]⟩
    have e1 : firstL (42 :: 42 :: r2) = some (⟨allT, true⟩, r2) := rfl
    rw [patL_some e1]
    have main : ∀ (k : Nat) (r2 : List UInt8), r2.length ≤ k → (patL (42 :: r2)).isSome = (patL r2).isSome := by
      intro k
      induction k with
      | zero =>
        intro r2 hk
        obtain rfl : r2 = [] := List.eq_nil_of_length_eq_zero (by omega)
        have e : firstL [42] = some (⟨noSl, true⟩, []) := rfl
        rw [patL_some e, patL_nil]; rfl
      | succ k ih =>
        intro r2 hk
        cases r2 with
        | nil =>
          have e : firstL [42] = some (⟨noSl, true⟩, []) := rfl
          rw [patL_some e, patL_nil]; rfl
        | cons c r3 =>
          by_cases hc : c = 42
          · subst hc
            have e : firstL (42 :: 42 :: r3) = some (⟨allT, true⟩, r3) := rfl
            rw [patL_some e]
            have := ih r3 (by simp at hk; omega)
            rw [this]
            cases patL r3 <;> rfl
          · have e : firstL (42 :: c :: r3) = some (⟨noSl, true⟩, c :: r3) := by
              rw [firstL_cons, if_pos rfl]
              unfold starP
              rw [if_neg (by simp [starred, hc])]
            rw [patL_some e]
            cases patL (c :: r3) <;> rfl
    have := main _ r2 (Nat.le_refl _)
    rw [this]
    cases patL r2 <;> rfl
  · have e : firstL (42 :: r) = some (⟨noSl, true⟩, r) := by
      rw [firstL_cons, if_pos rfl]
      unfold starP
      rw [if_neg h]
    rw [patL_some e]
    cases patL r <;> rfl

set_option maxHeartbeats 1000000 in
theorem globIs_any (s : List UInt8) (hs : s.length ≤ 1000) (w : World) : Calls Tryd.prog 7 #[.string (mkS s)] w fun e w' => e = .returned (.bool (patL s).isSome) ∧ Below w.heap.size w w' := by
  go_enter Tryd.func7, Tryd.ntmps7
  go_wp2
  go_loopg [0] s.length (fun g s0 wr => ∃ u : List UInt8, u.length = g ∧ s0 = .string (mkS u) ∧ u.length ≤ s.length ∧ Below w.heap.size w wr ∧ (patL s).isSome = (patL u).isSome)
  case atStart => exact ⟨s, rfl, rfl, Nat.le_refl _, Below.refl _ _, rfl⟩
  case round =>
    obtain ⟨u, hg, rfl, hl, hb, hE⟩ := hrel
    have HB := Lib.hid hb
    clear hb
    cases u with
    | nil =>
      have e0 := mkS_emp_nil
      rw [patL_nil] at hE
      have HE := Lib.hid hE
      clear hE
      go_wp2
      go_ret
      exact ⟨by rw [HE.out]; rfl, HB.out⟩
    | cons c r =>
      have e0 := mkS_emp (c :: r) (by simp)
      have i0 := mkS_head c r
      have s1 := mkS_tail c r
      have hg2 : r.length + 1 = gk := by simpa using hg
      have hr2 : r.length ≤ 1000 := by simp at hl; omega
      simp only [List.length_cons] at hl
      by_cases h1 : c = 42
      · subst h1
        rw [show ((42 : UInt8).toNat : Int) = 42 from rfl] at i0
        rw [pat_star] at hE
        have HE := Lib.hid hE
        clear hE
        generalize mkS (42 :: r) = S at *
        go_wp2
        go_roundg r.length
        case measure => omega
        case rel => exact ⟨r, rfl, rfl, by omega, HB.out, HE.out⟩
      · have n1 := u8_ne h1
        rw [show ((42 : UInt8).toNat : Int) = 42 from rfl] at n1
        by_cases h2 : c = 63
        · subst h2
          rw [show ((63 : UInt8).toNat : Int) = 63 from rfl] at i0
          have ef : firstL (63 :: r) = some (⟨noSl, false⟩, r) := rfl
          rw [patL_some ef] at hE
          have HE := Lib.hid (show (patL s).isSome = (patL r).isSome by rw [hE]; cases patL r <;> rfl)
          clear hE ef n1 h1
          generalize mkS (63 :: r) = S at *
          go_wp2
          go_roundg r.length
          case measure => omega
          case rel => exact ⟨r, rfl, rfl, by omega, HB.out, HE.out⟩
        · have n2 := u8_ne h2
          rw [show ((63 : UInt8).toNat : Int) = 63 from rfl] at n2
          by_cases h3 : c = 91
          · subst h3
            rw [show ((91 : UInt8).toNat : Int) = 91 from rfl] at i0
            have RS := Lib.hid (fun w => refSet_any r hr2 w)
            have ef : firstL (91 :: r) = setP r := rfl
            unfold setP at ef
            unfold RefSetIs at RS
            clear n1 n2 h1 h2
            cases hset : setL r with
            | none =>
              rw [hset] at ef RS
              rw [patL_none (by simp) ef] at hE
              have HE := Lib.hid hE
              clear hE ef hset
              generalize mkS (91 :: r) = S at *
              go_wp2_with (go_at_call 12; with_reducible refine (RS.out _).mono ?_; rintro e w1 ⟨rfl, hb1⟩)
              (try simp only [Exit.inBlock, Exit.then])
              go_ret
              exact ⟨by rw [HE.out]; rfl, HB.out.trans (hb1.mono HB.out.size)⟩
            | some x =>
              obtain ⟨F, r2⟩ := x
              have hle := setL_le hset
              rw [hset] at ef RS
              rw [patL_some ef] at hE
              have HE := Lib.hid (show (patL s).isSome = (patL r2).isSome by rw [hE]; cases patL r2 <;> rfl)
              clear hE ef hset
              generalize mkS (91 :: r) = S at *
              go_wp2_with (go_at_call 12; with_reducible refine (RS.out _).mono ?_; rintro e w1 ⟨⟨b, N, rfl, _, _⟩, hb1⟩)
              go_roundg r2.length
              case measure => omega
              case rel => exact ⟨r2, rfl, rfl, by omega, HB.out.trans (hb1.mono HB.out.size), HE.out⟩
          · have n3 := u8_ne h3
            rw [show ((91 : UInt8).toNat : Int) = 91 from rfl] at n3
            have ef : firstL (c :: r) = elemP (c :: r) := by rw [firstL_cons, if_neg h1, if_neg h2, if_neg h3]
            unfold elemP at ef
            clear h1 h2 h3
            cases hel : elemL (c :: r) with
            | none =>
              rw [hel] at ef
              rw [patL_none (by simp) ef] at hE
              have HE := Lib.hid hE
              have LN := Lib.hid (fun w => letter_none hel w)
              clear hE ef hel
              generalize mkS (c :: r) = S at *
              go_wp2_with (go_at_call 13; with_reducible refine (LN.out _).mono ?_; rintro e w1 ⟨rfl, hb1⟩)
              (try simp only [Exit.inBlock, Exit.then])
              go_ret
              exact ⟨by rw [HE.out]; rfl, HB.out.trans (hb1.mono HB.out.size)⟩
            | some x =>
              obtain ⟨d, r2⟩ := x
              have hle := elemL_lt hel
              simp only [List.length_cons] at hle
              rw [hel] at ef
              rw [patL_some ef] at hE
              have HE := Lib.hid (show (patL s).isSome = (patL r2).isSome by rw [hE]; cases patL r2 <;> rfl)
              have LN := Lib.hid (fun w => letter_some hel w)
              clear hE ef hel
              generalize mkS (c :: r) = S at *
              go_wp2_with (go_at_call 13; with_reducible refine (LN.out _).mono ?_; rintro e w1 ⟨rfl, hb1⟩)
              go_roundg r2.length
              case measure => omega
              case rel => exact ⟨r2, rfl, rfl, by omega, HB.out.trans (hb1.mono HB.out.size), HE.out⟩
end Go.Proofs.YtcdoiadmnckccaaDoor
