/- The reference's globAll and Glob. -/
import Derived.Test.YtcdoiadmnckccaaDoorSfx
import Derived.Test.YtcdoiadmnckccaaDoorGba
import Derived.Test.YtcdoiadmnckccaaDoorGbb
import Derived.Test.YtcdoiadmnckccaaDoorGbc
namespace Go.Proofs.YtcdoiadmnckccaaDoor
set_option linter.unusedVariables false
set_option linter.unusedSimpArgs false
open Go.RowKit Go.Joins Go.Maps
set_option maxRecDepth 100000

theorem Tells.up {b : Nat} {M : Nat → Nat → Bool} {x : Bool} {k k2 : Nat} {R T : ByteArray} (h : Tells b M x k R T) (hk : k ≤ k2) : Tells b M x k2 R T := fun W H hm =>
  (h W H hm).mono fun e w' ⟨he, H', h1, h2, h3⟩ => ⟨he, H', h1, fun i j hij => h2 i j (by omega), h3⟩
theorem ne47 {d : UInt8} (h : d ≠ 47) : ((d.toNat : Int) != 47) = true := by
  have h1 : ¬ d.toNat = 47 := fun e => h (UInt8.toNat_inj.1 e)
  exact bne_iff_ne.2 (by omega)
theorem noSl_ne {d : UInt8} (h : d ≠ 47) : noSl d.toNat = true := by
  have h1 : ¬ d.toNat = 47 := fun e => h (UInt8.toNat_inj.1 e)
  simp [noSl, h1]

set_option maxHeartbeats 1000000 in
theorem globAll_any (P N : List UInt8) (hP : P.length ≤ 120) (hN : N.length ≤ 120) (b : Nat) : ∀ (k : Nat) (p n : List UInt8), p.length + n.length ≤ k → p <:+ P → n <:+ N → (patL p).isSome = true →
    Tells b (byLen P N) (mat p n) (p.length + n.length + 1) (mkS p) (mkS n) := by
  intro k
  induction k with
  | zero =>
    intro p n hk sp sn hv W H hm
    obtain rfl : p = [] := List.eq_nil_of_length_eq_zero (by omega)
    obtain rfl : n = [] := List.eq_nil_of_length_eq_zero (by omega)
    have hM := byLen_eq sp sn
    cases hh : H 0 0 with
    | true =>
      have h := all_hit b (byLen P N) H (mkS []) (mkS []) 0 0 (by rw [mkS_size]; rfl) (by rw [mkS_size]; rfl) (by omega) (by omega) W hm hh
      rw [show byLen P N 0 0 = mat [] [] from hM] at h
      exact h
    | false => exact all_empty b (byLen P N) H (mkS []) (mkS []) 0 0 (by rw [mkS_size]; rfl) (by rw [mkS_size]; rfl) (by omega) (by omega) W hm hh mkS_emp_nil (mat [] []) (by rw [mkS_emp_nil, mat_nil]; rfl) hM.symm
  | succ k ih =>
    intro p n hk sp sn hv W H hm
    have hM := byLen_eq sp sn
    have lp := List.IsSuffix.length_le sp
    have ln := List.IsSuffix.length_le sn
    have zp := mkS_size p
    have zn := mkS_size n
    cases hh : H p.length n.length with
    | true =>
      have h := all_hit b (byLen P N) H (mkS p) (mkS n) _ _ zp zn (by omega) (by omega) W hm hh
      rw [hM] at h
      exact h
    | false =>
    -- the sub-calls
    have up : ∀ p2 n2 : List UInt8, p2.length + n2.length < p.length + n.length → p2 <:+ p → n2 <:+ n → (patL p2).isSome = true → Tells b (byLen P N) (mat p2 n2) (p.length + n.length) (mkS p2) (mkS n2) :=
      fun p2 n2 hl h1 h2 h3 => (ih p2 n2 (by omega) (h1.trans sp) (h2.trans sn) h3).up (by omega)
    clear ih
    match p, n with
    | [], n =>
      refine all_empty b (byLen P N) H (mkS []) (mkS n) _ _ zp zn (by omega) (by omega) W hm hh mkS_emp_nil (mat [] n) ?_ hM.symm
      cases n with
      | nil => rw [mkS_emp_nil, mat_nil]; rfl
      | cons d m => rw [mkS_emp _ (by simp), mat_nil]; rfl
    | c :: r, n =>
      have e0 := mkS_emp (c :: r) (by simp)
      by_cases hc : c = 42
      · subst hc
        have i0 : ∀ w, (Instr.index 9 (.string (mkS (42 :: r))) (.int .i64 0)).run Tryd.prog w = .ok (.int .u8 42) w := mkS_head 42 r
        cases hs : starred r with
        | true =>
          obtain ⟨r2, rfl⟩ := starred_iff hs
          have PF : ∀ w, Calls Tryd.prog 14 #[.string (mkS (42 :: 42 :: r2)), .string { data := #[42, 42] }] w fun e w' => e = .returned (.bool true) ∧ w' = w := fun w => by
            have h := prefix_any (42 :: 42 :: r2) [42, 42] w
            rw [pre_two] at h
            exact h
          have hv2 := pat_left (show firstL (42 :: 42 :: r2) = some (⟨allT, true⟩, r2) from rfl) hv
          have C1 := up r2 n (by simp; omega) ((List.suffix_cons 42 r2).trans (List.suffix_cons 42 (42 :: r2))) (List.suffix_refl _) hv2
          have hone := all_one r2 n
          cases hx : mat r2 n with
          | true =>
            rw [hx] at C1 hone
            rw [Bool.true_or] at hone
            rw [hone] at hM ⊢
            exact all_two_yes b _ H _ _ _ _ zp zn (by omega) (by omega) W hm hh _ e0 PF (mkS_drop2 42 42 r2) C1 hM.symm
          | false =>
            rw [hx] at C1 hone
            rw [Bool.false_or] at hone
            rw [hone] at hM ⊢
            cases n with
            | nil => exact all_two_end b _ H _ _ _ _ zp zn (by omega) (by omega) W hm hh _ e0 PF (mkS_drop2 42 42 r2) C1 mkS_emp_nil hM.symm
            | cons d m =>
              have C2 := up (42 :: 42 :: r2) m (by simp) (List.suffix_refl _) (List.suffix_cons d m) hv
              exact all_two_on b _ H _ _ _ _ zp zn (by omega) (by omega) W hm hh _ _ _ e0 PF (mkS_drop2 42 42 r2) C1 (mkS_emp _ (by simp)) (mkS_tail d m) C2 hM.symm
        | false =>
          have PF : ∀ w, Calls Tryd.prog 14 #[.string (mkS (42 :: r)), .string { data := #[42, 42] }] w fun e w' => e = .returned (.bool false) ∧ w' = w := fun w => by
            have h := prefix_any (42 :: r) [42, 42] w
            rw [pre_star hs] at h
            exact h
          have hf := star_first hs
          have hv2 := pat_left hf hv
          have C1 := up r n (by simp) (List.suffix_cons 42 r) (List.suffix_refl _) hv2
          have hone := mat_many hf n
          cases hx : mat r n with
          | true =>
            rw [hx] at C1 hone
            rw [Bool.true_or] at hone
            rw [hone] at hM ⊢
            exact all_star_yes b _ H _ _ _ _ zp zn (by omega) (by omega) W hm hh _ e0 PF i0 (mkS_tail 42 r) C1 hM.symm
          | false =>
            rw [hx] at C1 hone
            rw [Bool.false_or] at hone
            rw [hone] at hM ⊢
            cases n with
            | nil => exact all_star_end b _ H _ _ _ _ zp zn (by omega) (by omega) W hm hh _ e0 PF i0 (mkS_tail 42 r) C1 mkS_emp_nil hM.symm
            | cons d m =>
              by_cases hd : d = 47
              · subst hd
                exact all_star_slash b _ H _ _ _ _ zp zn (by omega) (by omega) W hm hh _ e0 PF i0 (mkS_tail 42 r) C1 (mkS_emp _ (by simp)) (mkS_head 47 m) hM.symm
              · have C2 := up (42 :: r) m (by simp) (List.suffix_refl _) (List.suffix_cons d m) hv
                have hred : (noSl d.toNat && mat (42 :: r) m) = mat (42 :: r) m := by rw [noSl_ne hd, Bool.true_and]
                have hM2 : mat (42 :: r) m = byLen P N _ _ := hred.symm.trans hM.symm
                show Calls _ _ _ _ (CallIs b _ (noSl d.toNat && mat (42 :: r) m) _ _ _)
                rw [hred]
                exact all_star_on b _ H _ _ _ _ zp zn (by omega) (by omega) W hm hh _ _ _ _ e0 PF i0 (mkS_tail 42 r) C1 (mkS_emp _ (by simp)) (mkS_head d m) (ne47 hd) (mkS_tail d m) C2 hM2
      · have PF : ∀ w, Calls Tryd.prog 14 #[.string (mkS (c :: r)), .string { data := #[42, 42] }] w fun e w' => e = .returned (.bool false) ∧ w' = w := fun w => by
          have h := prefix_any (c :: r) [42, 42] w
          rw [pre_other hc] at h
          exact h
        by_cases hq : c = 63
        · subst hq
          have hf : firstL (63 :: r) = some (⟨noSl, false⟩, r) := rfl
          have i0 : ∀ w, (Instr.index 9 (.string (mkS (63 :: r))) (.int .i64 0)).run Tryd.prog w = .ok (.int .u8 63) w := mkS_head 63 r
          have hone := mat_one hf n
          rw [hone] at hM ⊢
          cases n with
          | nil => exact all_any_end b _ H _ _ _ _ zp zn (by omega) (by omega) W hm hh _ e0 PF i0 (mkS_tail 63 r) mkS_emp_nil hM.symm
          | cons d m =>
            by_cases hd : d = 47
            · subst hd
              exact all_any_slash b _ H _ _ _ _ zp zn (by omega) (by omega) W hm hh _ e0 PF i0 (mkS_tail 63 r) (mkS_emp _ (by simp)) (mkS_head 47 m) hM.symm
            · have C2 := up r m (by simp; omega) (List.suffix_cons 63 r) (List.suffix_cons d m) (pat_left hf hv)
              have hred : (noSl d.toNat && mat r m) = mat r m := by rw [noSl_ne hd, Bool.true_and]
              have hM2 : mat r m = byLen P N _ _ := hred.symm.trans hM.symm
              show Calls _ _ _ _ (CallIs b _ (noSl d.toNat && mat r m) _ _ _)
              rw [hred]
              exact all_any_on b _ H _ _ _ _ zp zn (by omega) (by omega) W hm hh _ _ _ _ e0 PF i0 (mkS_tail 63 r) (mkS_emp _ (by simp)) (mkS_head d m) (ne47 hd) (mkS_tail d m) C2 hM2
        · by_cases hb : c = 91
          · subst hb
            have i0 : ∀ w, (Instr.index 9 (.string (mkS (91 :: r))) (.int .i64 0)).run Tryd.prog w = .ok (.int .u8 91) w := mkS_head 91 r
            cases hset : setL r with
            | none =>
              have hf : firstL (91 :: r) = none := by
                rw [firstL_cons, if_neg (by decide), if_neg (by decide), if_pos rfl]; unfold setP; rw [hset]
              rw [patL_none (by simp) hf] at hv
              cases hv
            | some x =>
              obtain ⟨F, r2⟩ := x
              have hf : firstL (91 :: r) = some (⟨F, false⟩, r2) := by
                rw [firstL_cons, if_neg (by decide), if_neg (by decide), if_pos rfl]; unfold setP; rw [hset]
              have SET : ∀ w, Calls Tryd.prog 12 #[.string (mkS r)] w fun e w' => (∃ bm Nm, e = .returned (.tuple #[.map (some bm), .string (mkS r2), .bool true]) ∧ w.heap.size ≤ bm ∧ Says w' bm Nm F) ∧ Below w.heap.size w w' := fun w => by
                have h := refSet_any r (by simp at lp; omega) w
                rw [hset] at h
                exact h
              have hsfx : r2 <:+ 91 :: r := (setL_sfx hset).trans (List.suffix_cons 91 r)
              have hlt := firstL_lt hf
              have hone := mat_one hf n
              rw [hone] at hM ⊢
              cases n with
              | nil => exact all_set_end b _ H _ _ _ _ zp zn (by omega) (by omega) W hm hh _ _ e0 PF i0 (mkS_tail 91 r) F SET mkS_emp_nil hM.symm
              | cons d m =>
                cases hF : F d.toNat with
                | false =>
                  have hred : (F d.toNat && mat r2 m) = false := by rw [hF, Bool.false_and]
                  have hM2 : false = byLen P N _ _ := hred.symm.trans hM.symm
                  show Calls _ _ _ _ (CallIs b _ (F d.toNat && mat r2 m) _ _ _)
                  rw [hred]
                  exact all_set_no b _ H _ _ _ _ zp zn (by omega) (by omega) W hm hh _ _ d d.toNat_lt e0 PF i0 (mkS_tail 91 r) F SET (mkS_emp _ (by simp)) (mkS_head d m) hF hM2
                | true =>
                  have C2 := up r2 m (by simp at hlt ⊢; omega) hsfx (List.suffix_cons d m) (pat_left hf hv)
                  have hred : (F d.toNat && mat r2 m) = mat r2 m := by rw [hF, Bool.true_and]
                  have hM2 : mat r2 m = byLen P N _ _ := hred.symm.trans hM.symm
                  show Calls _ _ _ _ (CallIs b _ (F d.toNat && mat r2 m) _ _ _)
                  rw [hred]
                  exact all_set_on b _ H _ _ _ _ zp zn (by omega) (by omega) W hm hh _ _ _ _ d d.toNat_lt e0 PF i0 (mkS_tail 91 r) F SET (mkS_emp _ (by simp)) (mkS_head d m) hF (mkS_tail d m) C2 hM2
          · have i0 := mkS_head c r
            have n1 : ¬ (c.toNat : Int) = 42 := fun e => hc ((u8_eq c 42).1 e)
            have n2 : ¬ (c.toNat : Int) = 63 := fun e => hq ((u8_eq c 63).1 e)
            have n3 : ¬ (c.toNat : Int) = 91 := fun e => hb ((u8_eq c 91).1 e)
            cases hel : elemL (c :: r) with
            | none =>
              have hf : firstL (c :: r) = none := by
                rw [firstL_cons, if_neg hc, if_neg hq, if_neg hb]; unfold elemP; rw [hel]
              rw [patL_none (by simp) hf] at hv
              cases hv
            | some x =>
              obtain ⟨g, r2⟩ := x
              have hf : firstL (c :: r) = some (⟨onlyT g, false⟩, r2) := by
                rw [firstL_cons, if_neg hc, if_neg hq, if_neg hb]; unfold elemP; rw [hel]
              have LET := fun w => letter_some hel w
              have hlt := firstL_lt hf
              have hone := mat_one hf n
              rw [hone] at hM ⊢
              cases n with
              | nil => exact all_byte_end b _ H _ _ _ _ zp zn (by omega) (by omega) W hm hh _ _ _ e0 PF i0 n1 n2 n3 LET mkS_emp_nil hM.symm
              | cons d m =>
                by_cases hdg : d = g
                · subst hdg
                  have C2 := up r2 m (by simp at hlt ⊢; omega) (elemL_sfx hel) (List.suffix_cons d m) (pat_left hf hv)
                  have hred : (onlyT d d.toNat && mat r2 m) = mat r2 m := by simp [onlyT]
                  have hM2 : mat r2 m = byLen P N _ _ := hred.symm.trans hM.symm
                  show Calls _ _ _ _ (CallIs b _ (onlyT d d.toNat && mat r2 m) _ _ _)
                  rw [hred]
                  exact all_byte_on b _ H _ _ _ _ zp zn (by omega) (by omega) W hm hh _ _ _ _ _ e0 PF i0 n1 n2 n3 LET (mkS_emp _ (by simp)) (mkS_head d m) (mkS_tail d m) C2 hM2
                · have hne : ¬ d.toNat = g.toNat := fun e => hdg (UInt8.toNat_inj.1 e)
                  have hred : (onlyT g d.toNat && mat r2 m) = false := by simp [onlyT, hne]
                  have hM2 : false = byLen P N _ _ := hred.symm.trans hM.symm
                  have hci : ((d.toNat : Int) == (g.toNat : Int)) = false := beq_eq_false_iff_ne.2 (by omega)
                  show Calls _ _ _ _ (CallIs b _ (onlyT g d.toNat && mat r2 m) _ _ _)
                  rw [hred]
                  exact all_byte_no b _ H _ _ _ _ zp zn (by omega) (by omega) W hm hh _ _ _ e0 PF i0 n1 n2 n3 LET (mkS_emp _ (by simp)) _ (mkS_head d m) hci hM2
end Go.Proofs.YtcdoiadmnckccaaDoor
