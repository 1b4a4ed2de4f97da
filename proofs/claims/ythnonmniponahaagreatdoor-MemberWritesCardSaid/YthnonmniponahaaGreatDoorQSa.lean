/- Sa: what the texts of the name hold, joined. -/
import Derived.Test.YthnonmniponahaaGreatDoorQBa
import Derived.Test.YthnonmniponahaaGreatDoorProg
import Derived.WalkKit
import Derived.ProofKit
import Derived.OpenShut
import Derived.LoopTactic
import Derived.Lib.Hide
import Derived.Lib.SmallJoins
import Derived.BigRegion
import Derived.BigQuiet
import Derived.Deep.QuietTactic
import Derived.Lib.LaidTab
import Derived.Lib.LaidU8
import Derived.Lib.ItoaMem
import Derived.Test.YthnonmniponahaaGreatDoorQShelf
import Derived.Laws.Concat
import Derived.Lib.QuietBelow
set_option linter.unusedSimpArgs false
set_option linter.unusedVariables false
section
/- Times (structs of two ints): stamp.Right, Cut, Before and the reference's TimeRight: what each returns, for every time. -/
namespace Go.Proofs.YthnonmniponahaaGreatDoor.St
open Go.RowKit Go.Joins

/-- A time, as a value. -/
abbrev tmV (s n : Int) : Value := .agg #[.int .i64 s, .int .i64 n]
/-- Whether a time may be. -/
def rightB (s n : Int) : Bool := decide (-1099511627776 ≤ s) && (decide (s ≤ 1099511627776) && (decide (0 ≤ n) && decide (n < 1000000000)))

theorem rightB_true (s n : Int) (h : rightB s n = true) : -1099511627776 ≤ s ∧ s ≤ 1099511627776 ∧ 0 ≤ n ∧ n < 1000000000 := by
  simpa [rightB] using h

theorem right_ex (s n : Int) (w : World) :
    Calls Tryz.prog 111 #[tmV s n] w fun e w' => e = .returned (.bool (rightB s n)) ∧ w' = w.alloc (.cells #[.int .i64 s, .int .i64 n] 25) := by
  unfold rightB
  by_cases h1 : -1099511627776 ≤ s
  · by_cases h2 : s ≤ 1099511627776
    · by_cases h3 : 0 ≤ n
      · simp only [h1, h2, h3, decide_true, Bool.true_and]
        go_enter Tryz.func111, Tryz.ntmps111
        go_wp2
        go_ret
        exact ⟨rfl, rfl⟩
      · have h3' : decide (0 ≤ n) = false := by simpa using h3
        simp only [h1, h2, h3', decide_true, Bool.true_and, Bool.false_and]
        clear h3
        go_enter Tryz.func111, Tryz.ntmps111
        go_wp2
        go_ret
        exact ⟨rfl, rfl⟩
    · have h3' : decide (s ≤ 1099511627776) = false := by simpa using h2
      simp only [h1, h3', decide_true, Bool.true_and, Bool.false_and]
      clear h2
      go_enter Tryz.func111, Tryz.ntmps111
      go_wp2
      go_ret
      exact ⟨rfl, rfl⟩
  · have h3' : decide (-1099511627776 ≤ s) = false := by simpa using h1
    simp only [h3', Bool.false_and]
    clear h1
    go_enter Tryz.func111, Tryz.ntmps111
    go_wp2
    go_ret
    exact ⟨rfl, rfl⟩

theorem right_any (s n : Int) (w : World) :
    Calls Tryz.prog 111 #[tmV s n] w fun e w' => e = .returned (.bool (rightB s n)) ∧ Below w.heap.size w w' :=
  (right_ex s n w).mono fun _ _ ⟨he, hw⟩ => ⟨he, hw ▸ below_alloc1 _ _⟩

/-- Which time is ahead. -/
def ahead (s n s' n' : Int) : Bool := decide (s < s') || (decide (s = s') && decide (n < n'))

theorem power40 (w : World) :
    Calls Tryz.prog 191 #[.int .i64 2, .int .i64 40] w fun e w' => e = .returned (.int .i64 1099511627776) ∧ w' = w := by
  have step : ∀ k : Nat, k + 1 ≤ 40 → wrap64 ((2 : Int) ^ k * 2) = (2 : Int) ^ (k + 1) := fun k hk => (by decide +kernel : ∀ k : Fin 40, wrap64 ((2 : Int) ^ k.1 * 2) = (2 : Int) ^ (k.1 + 1)) ⟨k, hk⟩
  have Step := Lib.hid step
  clear step
  go_enter Tryz.func191, Tryz.ntmps191
  go_wp2
  go_loop [1, 5] (fun n out => ∃ k : Nat, k ≤ 40 ∧ n = .int .i64 (40 - k) ∧ out = .int .i64 ((2 : Int) ^ k)) (fun n _ => (intOf n).toNat)
  case atStart => exact ⟨0, Nat.zero_le _, by simp, by simp⟩
  case round =>
    obtain ⟨k, hk, rfl, rfl⟩ := hrel
    by_cases hlt : k < 40
    · have h0 : (0 : Int) < 40 - k := by omega
      go_wp2
      go_round
      case rel => exact ⟨k + 1, by omega, by rw [show (40 : Int) - k - 1 = 40 - ((k + 1 : Nat) : Int) by omega], by rw [Step.out k (by omega)]⟩
      case measure => simp [intOf]; omega
    · obtain rfl : k = 40 := by omega
      go_wp2
      go_ret
      exact ⟨rfl, rfl⟩

theorem within_any (n lo hi : Int) (w : World) :
    Calls Tryz.prog 29 #[.int .i64 n, .int .i64 lo, .int .i64 hi] w fun e w' => e = .returned (.bool (decide (lo ≤ n) && decide (n ≤ hi))) ∧ w' = w := by
  by_cases h1 : lo ≤ n
  · simp only [h1, decide_true, Bool.true_and]
    go_enter Tryz.func29, Tryz.ntmps29
    go_wp2
    go_ret
    exact ⟨rfl, rfl⟩
  · have d2 : n < lo := by omega
    have e1 : decide (lo ≤ n) = false := by simpa using h1
    simp only [e1, Bool.false_and]
    clear h1
    go_enter Tryz.func29, Tryz.ntmps29
    go_wp2
    go_ret
    exact ⟨rfl, rfl⟩

theorem rightB_split (s n : Int) : rightB s n = ((decide (-1099511627776 ≤ s) && decide (s ≤ 1099511627776)) && (decide (0 ≤ n) && decide (n ≤ 999999999))) := by
  unfold rightB
  have : decide (n < 1000000000) = decide (n ≤ 999999999) := by simp; omega
  rw [this, Bool.and_assoc]

theorem refRight_any (s n : Int) (w : World) :
    Calls Tryz.prog 126 #[tmV s n] w fun e w' => e = .returned (.bool (rightB s n)) ∧ Below w.heap.size w w' := by
  rw [rightB_split]
  generalize hA : (decide (-1099511627776 ≤ s) && decide (s ≤ 1099511627776)) = A
  generalize hB : (decide (0 ≤ n) && decide (n ≤ 999999999)) = B
  have cA : ∀ w, Calls Tryz.prog 29 #[.int .i64 s, .int .i64 (-1099511627776), .int .i64 1099511627776] w fun e w' => e = .returned (.bool A) ∧ w' = w := fun w => hA ▸ within_any s _ _ w
  have cB : ∀ w, Calls Tryz.prog 29 #[.int .i64 n, .int .i64 0, .int .i64 999999999] w fun e w' => e = .returned (.bool B) ∧ w' = w := fun w => hB ▸ within_any n _ _ w
  have CA := Lib.hid cA
  have CB := Lib.hid cB
  clear hA hB cA cB
  cases A
  · go_enter Tryz.func126, Tryz.ntmps126
    go_wp2
    go_quiet (first
      | (go_at_call 191; exact Calls.quiet_of_same (power40 _))
      | (go_at_call 29; with_reducible exact Calls.quiet_of_same (CA.out _)))
    go_wp2
    go_ret
    exact ⟨rfl, (below_alloc1 _ _).trans (below_draws _ _ _)⟩
  · go_enter Tryz.func126, Tryz.ntmps126
    go_wp2
    go_quiet (first
      | (go_at_call 191; exact Calls.quiet_of_same (power40 _))
      | (go_at_call 29; with_reducible exact Calls.quiet_of_same (CA.out _))
      | (go_at_call 29; with_reducible exact Calls.quiet_of_same (CB.out _)))
    go_wp2
    go_ret
    exact ⟨by simp, (below_alloc1 _ _).trans (below_draws _ _ _)⟩
end Go.Proofs.YthnonmniponahaaGreatDoor.St
end
section
/- The listed tables: from the row's condition to the walks' facts. -/
namespace Go.Proofs.YthnonmniponahaaGreatDoor.St
open Go.RowKit Go.Joins

theorem tabIs_of_reads {P : Program} {W : World} {name : String} {k : IntKind} {zs : List Int} {g : Nat} {t e : TypeId} {n : Nat}
    (hg : P.globalNamed name = some g) (hty : (P.globals[g]?).map (·.type) = some t) (ht : P.underlying t = some (.array n e)) (he : P.underlying e = some (.int k)) (hce : P.cellsOf e = 1) (hct : P.cellsOf t = n)
    (h : Lib.VarReads P W name (Lib.tabData k zs)) : Lib.TabIs P W name k zs := by
  obtain ⟨g', t', cs, fuel, p, hg', ht', hvar, hd⟩ := h
  obtain rfl := Option.some.inj (hg.symm.trans hg')
  obtain rfl := Option.some.inj (hty.symm.trans ht')
  unfold Lib.TabIs
  rw [hvar, ← Lib.cells_of_tab ht he hce hct hd]

/-- strconv's table of the powers of ten, as laid. -/
def PowLaid (w : World) : Prop := Lib.TabIs Tryz.prog w "internal/strconv.uint64pow10" .u64 Lib.pow10Tab
theorem PowLaid.below {w w' : World} (h : PowLaid w) (hb : Below w.heap.size w w') : PowLaid w' :=
  tab_stays (g := 6) (by kernel_rfl) h hb (Nat.le_refl _)
theorem powLaid_of {W : World} (h : Lib.VarReads Tryz.prog W "internal/strconv.uint64pow10" (Lib.tabData .u64 Lib.pow10Tab)) : PowLaid W :=
  tabIs_of_reads (g := 6) (by kernel_rfl) (by kernel_rfl) Tryz.underlying336 Tryz.underlying169 (by kernel_rfl) (by kernel_rfl) h
end Go.Proofs.YthnonmniponahaaGreatDoor.St
end
section
/- Texts as lists of bytes; the library's contracts over them; decimal digits. -/
namespace Go.Proofs.YthnonmniponahaaGreatDoor.St
open Go.RowKit Go.Joins

/-! ### The library over such texts -/
theorem hasSuffix_mk (l p : List UInt8) (w : World) (hl : l.length ≤ 1000000) :
    Calls Tryz.prog 27 #[.string (mkS l), .string (mkS p)] w fun e w' => e = .returned (.bool (Lib.hasSuffix l p)) ∧ w' = w := by
  have h := Tryz.strings_HasSuffix (mkS l) (mkS p) w (by rw [mkS_size]; omega)
  rwa [mkS_list, mkS_list] at h
theorem trimRight0 (l : List UInt8) (w : World) (hl : l.length ≤ 1000000) :
    Calls Tryz.prog 26 #[.string (mkS l), .string ⟨#[48]⟩] w fun e w' => e = .returned (.string (mkS (Lib.trimRightB l 48))) ∧ w' = w := by
  have h := Tryz.strings_TrimRight_one (mkS l) 48 (by decide) w (by rw [mkS_size]; omega)
  rwa [mkS_list] at h
theorem itoa_mk (n : Int) (h0 : -9223372036854775808 ≤ n) (h1 : n ≤ 9223372036854775807) (w : World) (hp : PowLaid w) :
    Calls Tryz.prog 99 #[.int .i64 n] w fun e w' => e = .returned (.string (mkS (Lib.itoa n))) ∧ Below w.heap.size w w' :=
  (Tryz.strconv_Itoa n h0 h1 w hp).mono fun e w' ⟨he, k, os, hw⟩ => ⟨he, hw ▸ ⟨rfl, rfl, rfl, by simp [Sort.grow], fun k hk => by simp [Sort.grow, World.drewN, Array.getElem?_append, hk]⟩⟩

/-! ### Decimal digits -/
end Go.Proofs.YthnonmniponahaaGreatDoor.St
end
section
/- stamp.Text and the reference's TimeText: the text of any time. -/
namespace Go.Proofs.YthnonmniponahaaGreatDoor.St
open Go.RowKit Go.Joins


/-- The digits behind the point. -/
def fracL (P : Nat) : List UInt8 := if P = 0 then [] else 46 :: Lib.trimRightB (digs 9 P) 48
/-- A time's text. -/
def textL (s n : Int) : List UInt8 :=
  if 0 ≤ s then Lib.decDigits s.toNat ++ fracL n.toNat
  else if n = 0 then 45 :: Lib.decDigits (-s).toNat
  else 45 :: (Lib.decDigits (-s - 1).toNat ++ fracL (1000000000 - n).toNat)

theorem trimRightB_length (l : List UInt8) (c : UInt8) : (Lib.trimRightB l c).length ≤ l.length := by
  unfold Lib.trimRightB
  rw [List.length_reverse]
  exact Nat.le_trans (List.dropWhile_sublist _).length_le (by rw [List.length_reverse]; exact Nat.le_refl _)
theorem fracL_length (P : Nat) : (fracL P).length ≤ 10 := by
  unfold fracL
  split
  · simp
  · have := trimRightB_length (digs 9 P) 48
    rw [digs_length] at this
    simp; omega
theorem dec_length (u : Nat) (h : u < 10 ^ 20) : (Lib.decDigits u).length ≤ 20 := (digs_pad 19 u h).1

theorem frac_zero (w : World) :
    Calls Tryz.prog 181 #[.int .i64 0] w fun e w' => e = .returned (.string (mkS (fracL 0))) ∧ w' = w := by
  go_enter Tryz.func181, Tryz.ntmps181
  go_wp2
  go_ret
  exact ⟨rfl, rfl⟩

theorem frac_any (P : Nat) (w : World) (hp : PowLaid w) (hP : P < 1000000000) :
    Calls Tryz.prog 181 #[.int .i64 (P : Int)] w fun e w' => e = .returned (.string (mkS (fracL P))) ∧ Below w.heap.size w w' := by
  rcases Nat.eq_zero_or_pos P with rfl | h0
  · exact (frac_zero w).mono fun e w' ⟨he, hw⟩ => ⟨he, hw ▸ Below.refl _ _⟩
  · have h0' : ¬ (P : Int) = 0 := by omega
    have hI : ∀ w, PowLaid w → Calls Tryz.prog 99 #[.int .i64 (1000000000 + (P : Int))] w fun e w' => e = .returned (.string (mkS (49 :: digs 9 P))) ∧ Below w.heap.size w w' := fun w hp => by
      have h := itoa_mk (1000000000 + (P : Int)) (by omega) (by omega) w hp
      rw [itoa_nat _ (by omega), show (1000000000 + (P : Int)).toNat = 10 ^ 9 + P by omega, dec_ahead 9 P (by omega)] at h
      exact h
    have hS : ∀ w, (Instr.slice 9 (.string (mkS (49 :: digs 9 P))) (some (.int .i64 1)) none none).run Tryz.prog w = .ok (.string (mkS (digs 9 P))) w := fun w => mkS_onward (49 :: digs 9 P) 1 (by simp) w
    have hT : ∀ w, Calls Tryz.prog 26 #[.string (mkS (digs 9 P)), .string ⟨#[48]⟩] w fun e w' => e = .returned (.string (mkS (Lib.trimRightB (digs 9 P) 48))) ∧ w' = w := fun w => trimRight0 _ w (by rw [digs_length]; omega)
    have hL : (Lib.trimRightB (digs 9 P) 48).length ≤ 9 := by have := trimRightB_length (digs 9 P) 48; rwa [digs_length] at this
    have hf : fracL P = 46 :: Lib.trimRightB (digs 9 P) 48 := by unfold fracL; rw [if_neg (by omega)]
    rw [hf]
    generalize Lib.trimRightB (digs 9 P) 48 = T at hT hL
    generalize digs 9 P = D at hI hS hT
    have hC : ∀ w, (Op.stringOp .add { data := #[46] } (mkS T)).run Tryz.prog w = .ok (.string (mkS (46 :: T))) w := fun w => mkS_cat [46] T (by simp; omega) w
    have HI := Lib.hid (hI w hp)
    have HT := Lib.hid hT
    clear hI hT hf hL hp h0
    go_enter Tryz.func181, Tryz.ntmps181
    go_wp2_with (first
      | (go_at_call 99; refine HI.out.mono ?_; rintro e w1 ⟨rfl, hb1⟩)
      | (go_at_call 26; refine (HT.out _).mono ?_; rintro e w2 ⟨rfl, hw⟩; replace hw := hw.symm; subst hw))
    go_ret
    exact ⟨rfl, hb1⟩

theorem negate_0 (s : Int) (w : World) (h1 : -1099511627776 ≤ s) (h2 : s ≤ 1099511627776) :
    Calls Tryz.prog 180 #[.int .i64 s, .int .i64 0] w fun e w' => e = .returned (.tuple #[.int .i64 (-s), .int .i64 0]) ∧ w' = w := by
  go_enter Tryz.func180, Tryz.ntmps180
  go_wp2
  go_ret2
  exact ⟨rfl, rfl⟩
theorem negate_n (s n : Int) (w : World) (h1 : -1099511627776000 ≤ s) (h2 : s ≤ 1099511627776000) (h3 : -1099511627776 ≤ n) (h4 : n ≤ 1099511627776) (hn : n ≠ 0) :
    Calls Tryz.prog 180 #[.int .i64 s, .int .i64 n] w fun e w' => e = .returned (.tuple #[.int .i64 (-s - 1), .int .i64 (1000000000 - n)]) ∧ w' = w := by
  go_enter Tryz.func180, Tryz.ntmps180
  go_wp2
  go_ret2
  exact ⟨rfl, rfl⟩

theorem text_plus (s n : Nat) (w : World) (hp : PowLaid w) (hr : rightB s n = true) :
    Calls Tryz.prog 103 #[tmV s n] w fun e w' => e = .returned (.tuple #[.string (mkS (Lib.decDigits s ++ fracL n)), .nilIface]) ∧ Below w.heap.size w w' := by
  have hb := rightB_true s n hr
  have R := Lib.hid (fun w => right_ex s n w)
  rw [hr] at R
  have hI : ∀ w, PowLaid w → Calls Tryz.prog 99 #[.int .i64 (s : Int)] w fun e w' => e = .returned (.string (mkS (Lib.decDigits s))) ∧ Below w.heap.size w w' := fun w hp => by
    have h := itoa_mk (s : Int) (by omega) (by omega) w hp
    rwa [itoa_nat _ (by omega), Int.toNat_natCast] at h
  have hF : ∀ w, PowLaid w → Calls Tryz.prog 181 #[.int .i64 (n : Int)] w fun e w' => e = .returned (.string (mkS (fracL n))) ∧ Below w.heap.size w w' := fun w hp => frac_any n w hp (by omega)
  have hL1 := dec_length s (by omega)
  have hL2 := fracL_length n
  have hs : ¬ (s : Int) < 0 := by omega
  generalize Lib.decDigits s = D at hI hL1 ⊢
  generalize fracL n = F at hF hL2 ⊢
  have hC1 : ∀ w, (Op.stringOp .add { data := #[] } (mkS D)).run Tryz.prog w = .ok (.string (mkS D)) w := fun w => mkS_cat [] D (by simp; omega) w
  have hC2 : ∀ w, (Op.stringOp .add (mkS D) (mkS F)).run Tryz.prog w = .ok (.string (mkS (D ++ F))) w := fun w => mkS_cat D F (by omega) w
  have hp1 : ∀ w1, Below w.heap.size w w1 → PowLaid w1 := fun w1 h => hp.below h
  have HI := Lib.hid hI
  have HF := Lib.hid hF
  have HP := Lib.hid hp1
  clear hI hF hp1 hp hr hL1 hL2 hb
  go_enter Tryz.func103, Tryz.ntmps103
  go_wp2_with (go_at_call 111; refine (R.out _).mono ?_; rintro e w' ⟨rfl, hw⟩; replace hw := hw.symm; subst hw)
  go_quiet (fail)
  have hq : Below w.heap.size w (((w.alloc (.cells #[.int .i64 (s : Int), .int .i64 (n : Int)] 25)).alloc (.cells #[.int .i64 (s : Int), .int .i64 (n : Int)] 25)).drewN nq) := (below_alloc2 _ _ _).trans (below_draws _ _ _)
  generalize ((w.alloc (.cells #[.int .i64 (s : Int), .int .i64 (n : Int)] 25)).alloc (.cells #[.int .i64 (s : Int), .int .i64 (n : Int)] 25)).drewN nq = W at hq
  go_wp2_with (first
    | (go_at_call 99; refine (HI.out _ (HP.out _ hq)).mono ?_; rintro e w1 ⟨rfl, hb1⟩)
    | (go_at_call 181; refine (HF.out _ (HP.out _ (hq.trans (hb1.mono hq.size)))).mono ?_; rintro e w2 ⟨rfl, hb2⟩))
  go_ret2
  exact ⟨rfl, hq.trans ((hb1.trans (hb2.mono hb1.size)).mono hq.size)⟩

theorem text_minus (s n S N : Nat) (w : World) (hp : PowLaid w) (hr : rightB (-(s : Int)) n = true) (hs1 : 0 < s) (hN : (n = 0 ∧ N = 0 ∧ S = s) ∨ (n ≠ 0 ∧ N + n = 1000000000 ∧ S + 1 = s)) :
    Calls Tryz.prog 103 #[tmV (-(s : Int)) n] w fun e w' => e = .returned (.tuple #[.string (mkS (45 :: (Lib.decDigits S ++ fracL N))), .nilIface]) ∧ Below w.heap.size w w' := by
  have hb := rightB_true _ n hr
  have R := Lib.hid (fun w => right_ex (-(s : Int)) n w)
  rw [hr] at R
  have hI : ∀ w, PowLaid w → Calls Tryz.prog 99 #[.int .i64 (S : Int)] w fun e w' => e = .returned (.string (mkS (Lib.decDigits S))) ∧ Below w.heap.size w w' := fun w hp => by
    have h := itoa_mk (S : Int) (by omega) (by omega) w hp
    rwa [itoa_nat _ (by omega), Int.toNat_natCast] at h
  have hG : ∀ w, Calls Tryz.prog 180 #[.int .i64 (-(s : Int)), .int .i64 (n : Int)] w fun e w' => e = .returned (.tuple #[.int .i64 (S : Int), .int .i64 (N : Int)]) ∧ w' = w := fun w => by
    rcases hN with ⟨h1, h2, h3⟩ | ⟨h1, h2, h3⟩
    · subst h1 h2 h3
      have h := negate_0 (-(S : Int)) w (by omega) (by omega)
      rwa [Int.neg_neg] at h
    · have h := negate_n (-(s : Int)) n w (by omega) (by omega) (by omega) (by omega) (by omega)
      rwa [show - -(s : Int) - 1 = (S : Int) by omega, show 1000000000 - (n : Int) = (N : Int) by omega] at h
  have hF : ∀ w, PowLaid w → Calls Tryz.prog 181 #[.int .i64 (N : Int)] w fun e w' => e = .returned (.string (mkS (fracL N))) ∧ Below w.heap.size w w' := fun w hp => frac_any N w hp (by omega)
  have hL1 := dec_length S (by omega)
  have hL2 := fracL_length N
  have hs : -(s : Int) < 0 := by omega
  generalize -(s : Int) = s' at *
  generalize Lib.decDigits S = D at hI hL1 ⊢
  generalize fracL N = F at hF hL2 ⊢
  have hC1 : ∀ w, (Op.stringOp .add { data := #[45] } (mkS D)).run Tryz.prog w = .ok (.string (mkS (45 :: D))) w := fun w => mkS_cat [45] D (by simp; omega) w
  have hC2 : ∀ w, (Op.stringOp .add (mkS (45 :: D)) (mkS F)).run Tryz.prog w = .ok (.string (mkS (45 :: (D ++ F)))) w := fun w => mkS_cat (45 :: D) F (by simp; omega) w
  have hp1 : ∀ w1, Below w.heap.size w w1 → PowLaid w1 := fun w1 h => hp.below h
  have HI := Lib.hid hI
  have HF := Lib.hid hF
  have HG := Lib.hid hG
  have HP := Lib.hid hp1
  clear hI hF hG hp1 hp hr hL1 hL2 hb hN hs1
  go_enter Tryz.func103, Tryz.ntmps103
  go_wp2_with (go_at_call 111; refine (R.out _).mono ?_; rintro e w' ⟨rfl, hw⟩; replace hw := hw.symm; subst hw)
  go_quiet (fail)
  have hq : Below w.heap.size w (((w.alloc (.cells #[.int .i64 s', .int .i64 (n : Int)] 25)).alloc (.cells #[.int .i64 s', .int .i64 (n : Int)] 25)).drewN nq) := (below_alloc2 _ _ _).trans (below_draws _ _ _)
  generalize ((w.alloc (.cells #[.int .i64 s', .int .i64 (n : Int)] 25)).alloc (.cells #[.int .i64 s', .int .i64 (n : Int)] 25)).drewN nq = W at hq
  go_wp2_with (first
    | (go_at_call 180; refine (HG.out _).mono ?_; rintro e w' ⟨rfl, hw⟩; replace hw := hw.symm; subst hw)
    | (go_at_call 99; refine (HI.out _ (HP.out _ hq)).mono ?_; rintro e w1 ⟨rfl, hb1⟩)
    | (go_at_call 181; refine (HF.out _ (HP.out _ (hq.trans (hb1.mono hq.size)))).mono ?_; rintro e w2 ⟨rfl, hb2⟩))
  go_ret2
  exact ⟨rfl, hq.trans ((hb1.trans (hb2.mono hb1.size)).mono hq.size)⟩

theorem text_ok (s n : Int) (w : World) (hp : PowLaid w) (hr : rightB s n = true) :
    Calls Tryz.prog 103 #[tmV s n] w fun e w' => e = .returned (.tuple #[.string (mkS (textL s n)), .nilIface]) ∧ Below w.heap.size w w' := by
  have hb := rightB_true s n hr
  obtain ⟨m, rfl⟩ := Int.eq_ofNat_of_zero_le hb.2.2.1
  unfold textL
  by_cases h0 : 0 ≤ s
  · obtain ⟨k, rfl⟩ := Int.eq_ofNat_of_zero_le h0
    rw [if_pos h0]
    exact text_plus k m w hp hr
  · obtain ⟨k, hk⟩ := Int.eq_ofNat_of_zero_le (show 0 ≤ -s by omega)
    obtain rfl : s = -(k : Int) := by omega
    rw [if_neg h0]
    by_cases hm : (m : Int) = 0
    · have h := text_minus k m k 0 w hp hr (by omega) (Or.inl ⟨by omega, rfl, rfl⟩)
      rw [if_pos hm, show (- -(k : Int)).toNat = k by omega]
      rwa [show fracL 0 = [] from rfl, List.append_nil] at h
    · have h := text_minus k m (k - 1) (1000000000 - m) w hp hr (by omega) (Or.inr ⟨by omega, by omega, by omega⟩)
      rwa [if_neg hm, show (- -(k : Int) - 1).toNat = k - 1 by omega, show (1000000000 - (m : Int)).toNat = 1000000000 - m by omega]
end Go.Proofs.YthnonmniponahaaGreatDoor.St
end
section
/- The reference's TimeText: the text of any time. -/
namespace Go.Proofs.YthnonmniponahaaGreatDoor.St
open Go.RowKit Go.Joins

theorem trimR_snoc (l : List UInt8) : Lib.trimRightB (l ++ [48]) 48 = Lib.trimRightB l 48 := by
  unfold Lib.trimRightB
  rw [List.reverse_append]
  rfl
theorem trimR_stay (l : List UInt8) (c : UInt8) (h : c ≠ 48) : Lib.trimRightB (l ++ [c]) 48 = l ++ [c] := by
  unfold Lib.trimRightB
  rw [List.reverse_append]
  have : (c == 48) = false := by simpa using h
  simp [List.dropWhile_cons, this]
theorem hasSuffix_snoc (l : List UInt8) (c : UInt8) : Lib.hasSuffix (l ++ [c]) [48] = (c == 48) := by
  unfold Lib.hasSuffix List.isSuffixOf
  rw [List.reverse_append]
  simp [List.isPrefixOf, Bool.beq_comm]
theorem digs_trim : ∀ (k u : Nat), u < 10 ^ k → Lib.trimRightB (digs k u) 48 = [] → u = 0
  | 0, u, h, _ => by simpa using h
  | k + 1, u, h, ht => by
    rw [digs] at ht
    have hp : 10 ^ (k + 1) = 10 * 10 ^ k := Nat.pow_succ'
    by_cases h0 : u % 10 = 0
    · rw [h0, show UInt8.ofNat (48 + 0) = 48 from rfl, trimR_snoc] at ht
      have := digs_trim k (u / 10) (by omega) ht
      omega
    · rw [trimR_stay _ _ (by
        intro e
        have := congrArg UInt8.toNat e
        simp only [UInt8.toNat_ofNat'] at this
        have h48 : (48 : UInt8).toNat = 48 := rfl
        omega)] at ht
      simp at ht

def szOf : Value → Nat | .string b => b.size | _ => 0

set_option maxHeartbeats 4000000 in
theorem refText_of (s n : Int) (W P : Nat) (sg : List UInt8) (w : World) (hp : PowLaid w) (hr : rightB s n = true)
    (hcase : (0 ≤ s ∧ s = W ∧ n = P ∧ sg = []) ∨ (s < 0 ∧ n = 0 ∧ -s = W ∧ 0 = P ∧ sg = [45]) ∨ (s < 0 ∧ 0 < n ∧ -s - 1 = W ∧ 1000000000 - n = P ∧ sg = [45])) :
    Calls Tryz.prog 165 #[tmV s n] w fun e w' => e = .returned (.tuple #[.string (mkS (sg ++ Lib.decDigits W ++ fracL P)), .int .i64 0]) ∧ Below w.heap.size w w' := by
  have hb := rightB_true s n hr
  obtain ⟨hb1, hb2, hb3, hb4⟩ := hb
  have R := Lib.hid (fun w => refRight_any s n w)
  rw [hr] at R
  have hP9 : P < 1000000000 := by omega
  have hW9 : W ≤ 1099511627776 := by omega
  have hI : ∀ (N : Nat), N ≤ 1099511627776 → ∀ w, PowLaid w → Calls Tryz.prog 99 #[.int .i64 (N : Int)] w fun e w' => e = .returned (.string (mkS (Lib.decDigits N))) ∧ Below w.heap.size w w' := fun N hN w hp => by
    have h := itoa_mk (N : Int) (by omega) (by omega) w hp
    rwa [itoa_nat _ (by omega), Int.toNat_natCast] at h
  have HI1 := Lib.hid (hI P (by omega))
  have HI2 := Lib.hid (hI W hW9)
  have hLW := dec_length W (by omega)
  obtain ⟨hLP, hpad⟩ := digs_pad 8 P (by omega)
  have HP := Lib.hid (fun w1 (h : Below w.heap.size w w1) => hp.below h)
  have hsg : sg.length ≤ 1 := by rcases hcase with h | h | h <;> simp [h.2.2.2, h.2.2]
  have HPad := Lib.hid hpad
  clear hp hr hI hpad
  generalize hDW : Lib.decDigits W = DW at *
  generalize hDP : Lib.decDigits P = DP at *
  clear hDW hDP
  obtain ⟨T, hT⟩ : ∃ T, T = Lib.trimRightB (digs 9 P) 48 := ⟨_, rfl⟩
  have hTl : T.length ≤ 9 := by have := trimRightB_length (digs 9 P) 48; rw [digs_length] at this; rw [hT]; exact this
  have hF0 : T = [] → fracL P = [] := fun h => by
    have := digs_trim 9 P (by omega) (by rw [← hT]; exact h)
    subst this; rfl
  have hF1 : T ≠ [] → fracL P = 46 :: T := fun h => by
    have : P ≠ 0 := by rintro rfl; exact h (by rw [hT]; decide)
    unfold fracL
    rw [if_neg this, hT]
  have HF0 := Lib.hid hF0
  have HF1 := Lib.hid hF1
  have HT := Lib.hid hT
  clear hF0 hF1 hT
  rcases hcase with ⟨g1, g2, g3, g4⟩ | ⟨g1, g2, g3, g4, g5⟩ | ⟨g1, g2, g3, g4, g5⟩
  · subst g4 g2 g3
    have g6 : decide ((W : Int) < 0) = false := by simp
    obtain ⟨X, hX⟩ : ∃ X, X = ([] : List UInt8) ++ DW := ⟨_, rfl⟩
    have hXl : X.length ≤ 21 := by rw [hX]; simp; omega
    have e5 : ∀ w, (Op.stringOp .add { data := #[] } (mkS DW)).run Tryz.prog w = .ok (.string (mkS X)) w := fun w => hX ▸ mkS_cat ([] : List UInt8) DW (by simp; omega) w
    have HX := Lib.hid hX
    clear hX
    go_enter Tryz.func165, Tryz.ntmps165
    go_wp2_with (go_at_call 126; refine (R.out _).mono ?_; rintro e w1 ⟨rfl, hq⟩; have c0 : w1.cell? ⟨w.heap.size, 0, none⟩ = some (.int .i64 (W : Int)) := by { rw [hq.cell (by simp)]; simp [go_sem] }; have c1 : w1.cell? ⟨w.heap.size, 1, none⟩ = some (.int .i64 (P : Int)) := by { rw [hq.cell (by simp)]; simp [go_sem] }; replace hq := (below_alloc1 w _).trans (hq.mono (by simp)))
    go_quiet (fail)
    replace hq := hq.trans ((below_draws _ w1 nq).mono hq.size)
    generalize w1.drewN nq = Wd at hq
    go_wp2_with (go_at_call 99; refine (HI1.out _ (HP.out _ hq)).mono ?_; rintro e w2 ⟨rfl, hb1⟩)
    go_loop [7] (fun v => ∃ j : Nat, j + DP.length ≤ 9 ∧ v = .string (mkS (List.replicate j 48 ++ DP))) (fun v => 9 - szOf v)
    case atStart => exact ⟨0, by omega, rfl⟩
    case round =>
      obtain ⟨j, hj, rfl⟩ := hrel
      obtain ⟨l, hl⟩ : ∃ l, l = List.replicate j 48 ++ DP := ⟨_, rfl⟩
      have hll : l.length = j + DP.length := by rw [hl]; simp
      rw [← hl]
      have hsz := mkS_size l
      rw [hll] at hsz
      have Hl := Lib.hid hl
      clear hl
      by_cases hlt : j + DP.length < 9
      · have hlt' : (j : Int) + (DP.length : Int) < 9 := by omega
        have e6 : ∀ w, (Op.stringOp .add { data := #[48] } (mkS l)).run Tryz.prog w = .ok (.string (mkS (48 :: l))) w := fun w => mkS_cat [48] l (by simp; omega) w
        go_wp2
        go_round
        case rel => exact ⟨j + 1, by omega, by rw [Hl.out]; rfl⟩
        case measure => simp only [szOf]; rw [mkS_size]; simp only [List.length_cons]; omega
      · have hlt' : decide ((j : Int) + (DP.length : Int) < 9) = false := by simp; omega
        have hl9 : l = digs 9 P := by
          have := HPad.out
          rw [Hl.out, show j = 8 + 1 - DP.length by omega]; exact this.symm
        have hT9 : Lib.trimRightB l 48 = T := by rw [hl9, HT.out]
        have hl10 : l.length ≤ 9 := by omega
        clear hl9 Hl
        go_wp2
        go_loop [7] (fun v => ∃ x : List UInt8, v = .string (mkS x) ∧ Lib.trimRightB x 48 = T ∧ x.length ≤ 9) (fun v => szOf v)
        case atStart => exact ⟨l, rfl, hT9, hl10⟩
        case round =>
          obtain ⟨x, rfl, hx, hxl⟩ := hrel
          clear hT9 hsz
          have hend : (Lib.hasSuffix x [48] = false ∧ x = T) ∨ (∃ y, x = y ++ [48]) := by
            rcases List.eq_nil_or_concat x with rfl | ⟨y, c, rfl⟩
            · exact Or.inl ⟨rfl, by rw [← hx]; rfl⟩
            · rw [List.concat_eq_append] at *
              by_cases hc : c = 48
              · subst hc; exact Or.inr ⟨y, rfl⟩
              · refine Or.inl ⟨?_, ?_⟩
                · rw [hasSuffix_snoc]; simpa using hc
                · rw [← hx, trimR_stay y c hc]
          rcases hend with ⟨hno, rfl⟩ | ⟨y, rfl⟩
          · clear hx
            have hS : ∀ w, Calls Tryz.prog 27 #[.string (mkS x), .string { data := #[48] }] w fun e w' => e = .returned (.bool false) ∧ w' = w := fun w => hno ▸ hasSuffix_mk x [48] w (by omega)
            have HS := Lib.hid hS
            clear hS hno
            by_cases hx0 : x = []
            · have hfr := HF0.out hx0
              have e8 := mkS_emp_nil
              have e9 : ∀ w, (Op.stringOp .add (mkS X) (mkS [])).run Tryz.prog w = .ok (.string (mkS X)) w := fun w => by have h := mkS_cat X [] (by simp; omega) w; rwa [List.append_nil] at h
              have Hfr := Lib.hid hfr
              clear hfr HF0 HF1 HT
              subst hx0
              go_wp2_with (first
                | (go_at_call 27; refine (HS.out _).mono ?_; rintro e w' ⟨rfl, hw⟩; replace hw := hw.symm; subst hw)
                | (go_at_call 99; refine (HI2.out _ (HP.out _ (hq.trans (hb1.mono hq.size)))).mono ?_; rintro e w3 ⟨rfl, hb3⟩))
              go_ret2
              exact ⟨congrArg (fun x => Ending.returned (.tuple #[.string (mkS x), .int .i64 0])) (by rw [Hfr.out, HX.out]; simp), hq.trans ((hb1.trans (hb3.mono hb1.size)).mono hq.size)⟩
            · have hfr := HF1.out hx0
              have e8 := mkS_emp x hx0
              have e7 : ∀ w, (Op.stringOp .add { data := #[46] } (mkS x)).run Tryz.prog w = .ok (.string (mkS (46 :: x))) w := fun w => mkS_cat [46] x (by simp; omega) w
              have e9 : ∀ w, (Op.stringOp .add (mkS X) (mkS (46 :: x))).run Tryz.prog w = .ok (.string (mkS (X ++ 46 :: x))) w := fun w => mkS_cat _ (46 :: x) (by simp; omega) w
              have Hfr := Lib.hid hfr
              clear hfr HF0 HF1 HT hx0
              go_wp2_with (first
                | (go_at_call 27; refine (HS.out _).mono ?_; rintro e w' ⟨rfl, hw⟩; replace hw := hw.symm; subst hw)
                | (go_at_call 99; refine (HI2.out _ (HP.out _ (hq.trans (hb1.mono hq.size)))).mono ?_; rintro e w3 ⟨rfl, hb3⟩))
              go_ret2
              exact ⟨congrArg (fun x => Ending.returned (.tuple #[.string (mkS x), .int .i64 0])) (by rw [Hfr.out, HX.out]; simp), hq.trans ((hb1.trans (hb3.mono hb1.size)).mono hq.size)⟩
          · have hS : ∀ w, Calls Tryz.prog 27 #[.string (mkS (y ++ [48])), .string { data := #[48] }] w fun e w' => e = .returned (.bool true) ∧ w' = w := fun w => by
              have h := hasSuffix_mk (y ++ [48]) [48] w (by omega)
              rwa [hasSuffix_snoc] at h
            have HS := Lib.hid hS
            have hs2 : (mkS (y ++ [48])).size = y.length + 1 := by rw [mkS_size]; simp
            have e6 : ∀ w, (Instr.slice 9 (.string (mkS (y ++ [48]))) none (some (.int .i64 (y.length : Int))) none).run Tryz.prog w = .ok (.string (mkS y)) w := fun w => by
              have h := mkS_upto (y ++ [48]) y.length (by simp) w
              rwa [List.take_left'] at h; rfl
            rw [trimR_snoc] at hx
            simp only [List.length_append, List.length_singleton] at hxl
            have Hx := Lib.hid hx
            clear hS hx
            go_wp2_with (go_at_call 27; refine (HS.out _).mono ?_; rintro e w' ⟨rfl, hw⟩; replace hw := hw.symm; subst hw)
            go_round
            case rel => exact ⟨y, rfl, Hx.out, by omega⟩
            case measure => simp only [szOf]; rw [mkS_size, mkS_size]; simp
  · subst g5 g2
    have g6 : decide (s < 0) = true := by simpa using g1
    obtain rfl : P = 0 := by omega
    have HI0 : ∀ w, PowLaid w → Calls Tryz.prog 99 #[.int .i64 0] w fun e w' => e = .returned (.string (mkS DP)) ∧ Below w.heap.size w w' := HI1.out
    have HI3 := Lib.hid HI0
    clear HI0 g4
    obtain ⟨X, hX⟩ : ∃ X, X = [45] ++ DW := ⟨_, rfl⟩
    have hXl : X.length ≤ 21 := by rw [hX]; simp; omega
    have e5 : ∀ w, (Op.stringOp .add { data := #[45] } (mkS DW)).run Tryz.prog w = .ok (.string (mkS X)) w := fun w => hX ▸ mkS_cat [45] DW (by simp; omega) w
    have HX := Lib.hid hX
    clear hX
    go_enter Tryz.func165, Tryz.ntmps165
    go_wp2_with (go_at_call 126; refine (R.out _).mono ?_; rintro e w1 ⟨rfl, hq⟩; have c0 : w1.cell? ⟨w.heap.size, 0, none⟩ = some (.int .i64 s) := by { rw [hq.cell (by simp)]; simp [go_sem] }; have c1 : w1.cell? ⟨w.heap.size, 1, none⟩ = some (.int .i64 0) := by { rw [hq.cell (by simp)]; simp [go_sem] }; replace hq := (below_alloc1 w _).trans (hq.mono (by simp)))
    go_quiet (fail)
    replace hq := hq.trans ((below_draws _ w1 nq).mono hq.size)
    generalize w1.drewN nq = Wd at hq
    go_wp2_with (go_at_call 99; refine (HI3.out _ (HP.out _ hq)).mono ?_; rintro e w2 ⟨rfl, hb1⟩)
    go_loop [7] (fun v => ∃ j : Nat, j + DP.length ≤ 9 ∧ v = .string (mkS (List.replicate j 48 ++ DP))) (fun v => 9 - szOf v)
    case atStart => exact ⟨0, by omega, rfl⟩
    case round =>
      obtain ⟨j, hj, rfl⟩ := hrel
      obtain ⟨l, hl⟩ : ∃ l, l = List.replicate j 48 ++ DP := ⟨_, rfl⟩
      have hll : l.length = j + DP.length := by rw [hl]; simp
      rw [← hl]
      have hsz := mkS_size l
      rw [hll] at hsz
      have Hl := Lib.hid hl
      clear hl
      by_cases hlt : j + DP.length < 9
      · have hlt' : (j : Int) + (DP.length : Int) < 9 := by omega
        have e6 : ∀ w, (Op.stringOp .add { data := #[48] } (mkS l)).run Tryz.prog w = .ok (.string (mkS (48 :: l))) w := fun w => mkS_cat [48] l (by simp; omega) w
        go_wp2
        go_round
        case rel => exact ⟨j + 1, by omega, by rw [Hl.out]; rfl⟩
        case measure => simp only [szOf]; rw [mkS_size]; simp only [List.length_cons]; omega
      · have hlt' : decide ((j : Int) + (DP.length : Int) < 9) = false := by simp; omega
        have hl9 : l = digs 9 0 := by
          have := HPad.out
          rw [Hl.out, show j = 8 + 1 - DP.length by omega]; exact this.symm
        have hT9 : Lib.trimRightB l 48 = T := by rw [hl9, HT.out]
        have hl10 : l.length ≤ 9 := by omega
        clear hl9 Hl
        go_wp2
        go_loop [7] (fun v => ∃ x : List UInt8, v = .string (mkS x) ∧ Lib.trimRightB x 48 = T ∧ x.length ≤ 9) (fun v => szOf v)
        case atStart => exact ⟨l, rfl, hT9, hl10⟩
        case round =>
          obtain ⟨x, rfl, hx, hxl⟩ := hrel
          clear hT9 hsz
          have hend : (Lib.hasSuffix x [48] = false ∧ x = T) ∨ (∃ y, x = y ++ [48]) := by
            rcases List.eq_nil_or_concat x with rfl | ⟨y, c, rfl⟩
            · exact Or.inl ⟨rfl, by rw [← hx]; rfl⟩
            · rw [List.concat_eq_append] at *
              by_cases hc : c = 48
              · subst hc; exact Or.inr ⟨y, rfl⟩
              · refine Or.inl ⟨?_, ?_⟩
                · rw [hasSuffix_snoc]; simpa using hc
                · rw [← hx, trimR_stay y c hc]
          rcases hend with ⟨hno, rfl⟩ | ⟨y, rfl⟩
          · clear hx
            have hS : ∀ w, Calls Tryz.prog 27 #[.string (mkS x), .string { data := #[48] }] w fun e w' => e = .returned (.bool false) ∧ w' = w := fun w => hno ▸ hasSuffix_mk x [48] w (by omega)
            have HS := Lib.hid hS
            clear hS hno
            by_cases hx0 : x = []
            · have hfr := HF0.out hx0
              have e8 := mkS_emp_nil
              have e9 : ∀ w, (Op.stringOp .add (mkS X) (mkS [])).run Tryz.prog w = .ok (.string (mkS X)) w := fun w => by have h := mkS_cat X [] (by simp; omega) w; rwa [List.append_nil] at h
              have Hfr := Lib.hid hfr
              clear hfr HF0 HF1 HT
              subst hx0
              go_wp2_with (first
                | (go_at_call 27; refine (HS.out _).mono ?_; rintro e w' ⟨rfl, hw⟩; replace hw := hw.symm; subst hw)
                | (go_at_call 99; refine (HI2.out _ (HP.out _ (hq.trans (hb1.mono hq.size)))).mono ?_; rintro e w3 ⟨rfl, hb3⟩))
              go_ret2
              exact ⟨congrArg (fun x => Ending.returned (.tuple #[.string (mkS x), .int .i64 0])) (by rw [Hfr.out, HX.out]; simp), hq.trans ((hb1.trans (hb3.mono hb1.size)).mono hq.size)⟩
            · have hfr := HF1.out hx0
              have e8 := mkS_emp x hx0
              have e7 : ∀ w, (Op.stringOp .add { data := #[46] } (mkS x)).run Tryz.prog w = .ok (.string (mkS (46 :: x))) w := fun w => mkS_cat [46] x (by simp; omega) w
              have e9 : ∀ w, (Op.stringOp .add (mkS X) (mkS (46 :: x))).run Tryz.prog w = .ok (.string (mkS (X ++ 46 :: x))) w := fun w => mkS_cat _ (46 :: x) (by simp; omega) w
              have Hfr := Lib.hid hfr
              clear hfr HF0 HF1 HT hx0
              go_wp2_with (first
                | (go_at_call 27; refine (HS.out _).mono ?_; rintro e w' ⟨rfl, hw⟩; replace hw := hw.symm; subst hw)
                | (go_at_call 99; refine (HI2.out _ (HP.out _ (hq.trans (hb1.mono hq.size)))).mono ?_; rintro e w3 ⟨rfl, hb3⟩))
              go_ret2
              exact ⟨congrArg (fun x => Ending.returned (.tuple #[.string (mkS x), .int .i64 0])) (by rw [Hfr.out, HX.out]; simp), hq.trans ((hb1.trans (hb3.mono hb1.size)).mono hq.size)⟩
          · have hS : ∀ w, Calls Tryz.prog 27 #[.string (mkS (y ++ [48])), .string { data := #[48] }] w fun e w' => e = .returned (.bool true) ∧ w' = w := fun w => by
              have h := hasSuffix_mk (y ++ [48]) [48] w (by omega)
              rwa [hasSuffix_snoc] at h
            have HS := Lib.hid hS
            have hs2 : (mkS (y ++ [48])).size = y.length + 1 := by rw [mkS_size]; simp
            have e6 : ∀ w, (Instr.slice 9 (.string (mkS (y ++ [48]))) none (some (.int .i64 (y.length : Int))) none).run Tryz.prog w = .ok (.string (mkS y)) w := fun w => by
              have h := mkS_upto (y ++ [48]) y.length (by simp) w
              rwa [List.take_left'] at h; rfl
            rw [trimR_snoc] at hx
            simp only [List.length_append, List.length_singleton] at hxl
            have Hx := Lib.hid hx
            clear hS hx
            go_wp2_with (go_at_call 27; refine (HS.out _).mono ?_; rintro e w' ⟨rfl, hw⟩; replace hw := hw.symm; subst hw)
            go_round
            case rel => exact ⟨y, rfl, Hx.out, by omega⟩
            case measure => simp only [szOf]; rw [mkS_size, mkS_size]; simp
  · subst g5
    have g6 : decide (s < 0) = true := by simpa using g1
    obtain ⟨X, hX⟩ : ∃ X, X = [45] ++ DW := ⟨_, rfl⟩
    have hXl : X.length ≤ 21 := by rw [hX]; simp; omega
    have e5 : ∀ w, (Op.stringOp .add { data := #[45] } (mkS DW)).run Tryz.prog w = .ok (.string (mkS X)) w := fun w => hX ▸ mkS_cat [45] DW (by simp; omega) w
    have HX := Lib.hid hX
    clear hX
    go_enter Tryz.func165, Tryz.ntmps165
    go_wp2_with (go_at_call 126; refine (R.out _).mono ?_; rintro e w1 ⟨rfl, hq⟩; have c0 : w1.cell? ⟨w.heap.size, 0, none⟩ = some (.int .i64 s) := by { rw [hq.cell (by simp)]; simp [go_sem] }; have c1 : w1.cell? ⟨w.heap.size, 1, none⟩ = some (.int .i64 n) := by { rw [hq.cell (by simp)]; simp [go_sem] }; replace hq := (below_alloc1 w _).trans (hq.mono (by simp)))
    go_quiet (fail)
    replace hq := hq.trans ((below_draws _ w1 nq).mono hq.size)
    generalize w1.drewN nq = Wd at hq
    go_wp2_with (go_at_call 99; refine (HI1.out _ (HP.out _ hq)).mono ?_; rintro e w2 ⟨rfl, hb1⟩)
    go_loop [7] (fun v => ∃ j : Nat, j + DP.length ≤ 9 ∧ v = .string (mkS (List.replicate j 48 ++ DP))) (fun v => 9 - szOf v)
    case atStart => exact ⟨0, by omega, rfl⟩
    case round =>
      obtain ⟨j, hj, rfl⟩ := hrel
      obtain ⟨l, hl⟩ : ∃ l, l = List.replicate j 48 ++ DP := ⟨_, rfl⟩
      have hll : l.length = j + DP.length := by rw [hl]; simp
      rw [← hl]
      have hsz := mkS_size l
      rw [hll] at hsz
      have Hl := Lib.hid hl
      clear hl
      by_cases hlt : j + DP.length < 9
      · have hlt' : (j : Int) + (DP.length : Int) < 9 := by omega
        have e6 : ∀ w, (Op.stringOp .add { data := #[48] } (mkS l)).run Tryz.prog w = .ok (.string (mkS (48 :: l))) w := fun w => mkS_cat [48] l (by simp; omega) w
        go_wp2
        go_round
        case rel => exact ⟨j + 1, by omega, by rw [Hl.out]; rfl⟩
        case measure => simp only [szOf]; rw [mkS_size]; simp only [List.length_cons]; omega
      · have hlt' : decide ((j : Int) + (DP.length : Int) < 9) = false := by simp; omega
        have hl9 : l = digs 9 P := by
          have := HPad.out
          rw [Hl.out, show j = 8 + 1 - DP.length by omega]; exact this.symm
        have hT9 : Lib.trimRightB l 48 = T := by rw [hl9, HT.out]
        have hl10 : l.length ≤ 9 := by omega
        clear hl9 Hl
        go_wp2
        go_loop [7] (fun v => ∃ x : List UInt8, v = .string (mkS x) ∧ Lib.trimRightB x 48 = T ∧ x.length ≤ 9) (fun v => szOf v)
        case atStart => exact ⟨l, rfl, hT9, hl10⟩
        case round =>
          obtain ⟨x, rfl, hx, hxl⟩ := hrel
          clear hT9 hsz
          have hend : (Lib.hasSuffix x [48] = false ∧ x = T) ∨ (∃ y, x = y ++ [48]) := by
            rcases List.eq_nil_or_concat x with rfl | ⟨y, c, rfl⟩
            · exact Or.inl ⟨rfl, by rw [← hx]; rfl⟩
            · rw [List.concat_eq_append] at *
              by_cases hc : c = 48
              · subst hc; exact Or.inr ⟨y, rfl⟩
              · refine Or.inl ⟨?_, ?_⟩
                · rw [hasSuffix_snoc]; simpa using hc
                · rw [← hx, trimR_stay y c hc]
          rcases hend with ⟨hno, rfl⟩ | ⟨y, rfl⟩
          · clear hx
            have hS : ∀ w, Calls Tryz.prog 27 #[.string (mkS x), .string { data := #[48] }] w fun e w' => e = .returned (.bool false) ∧ w' = w := fun w => hno ▸ hasSuffix_mk x [48] w (by omega)
            have HS := Lib.hid hS
            clear hS hno
            by_cases hx0 : x = []
            · have hfr := HF0.out hx0
              have e8 := mkS_emp_nil
              have e9 : ∀ w, (Op.stringOp .add (mkS X) (mkS [])).run Tryz.prog w = .ok (.string (mkS X)) w := fun w => by have h := mkS_cat X [] (by simp; omega) w; rwa [List.append_nil] at h
              have Hfr := Lib.hid hfr
              clear hfr HF0 HF1 HT
              subst hx0
              go_wp2_with (first
                | (go_at_call 27; refine (HS.out _).mono ?_; rintro e w' ⟨rfl, hw⟩; replace hw := hw.symm; subst hw)
                | (go_at_call 99; refine (HI2.out _ (HP.out _ (hq.trans (hb1.mono hq.size)))).mono ?_; rintro e w3 ⟨rfl, hb3⟩))
              go_ret2
              exact ⟨congrArg (fun x => Ending.returned (.tuple #[.string (mkS x), .int .i64 0])) (by rw [Hfr.out, HX.out]; simp), hq.trans ((hb1.trans (hb3.mono hb1.size)).mono hq.size)⟩
            · have hfr := HF1.out hx0
              have e8 := mkS_emp x hx0
              have e7 : ∀ w, (Op.stringOp .add { data := #[46] } (mkS x)).run Tryz.prog w = .ok (.string (mkS (46 :: x))) w := fun w => mkS_cat [46] x (by simp; omega) w
              have e9 : ∀ w, (Op.stringOp .add (mkS X) (mkS (46 :: x))).run Tryz.prog w = .ok (.string (mkS (X ++ 46 :: x))) w := fun w => mkS_cat _ (46 :: x) (by simp; omega) w
              have Hfr := Lib.hid hfr
              clear hfr HF0 HF1 HT hx0
              go_wp2_with (first
                | (go_at_call 27; refine (HS.out _).mono ?_; rintro e w' ⟨rfl, hw⟩; replace hw := hw.symm; subst hw)
                | (go_at_call 99; refine (HI2.out _ (HP.out _ (hq.trans (hb1.mono hq.size)))).mono ?_; rintro e w3 ⟨rfl, hb3⟩))
              go_ret2
              exact ⟨congrArg (fun x => Ending.returned (.tuple #[.string (mkS x), .int .i64 0])) (by rw [Hfr.out, HX.out]; simp), hq.trans ((hb1.trans (hb3.mono hb1.size)).mono hq.size)⟩
          · have hS : ∀ w, Calls Tryz.prog 27 #[.string (mkS (y ++ [48])), .string { data := #[48] }] w fun e w' => e = .returned (.bool true) ∧ w' = w := fun w => by
              have h := hasSuffix_mk (y ++ [48]) [48] w (by omega)
              rwa [hasSuffix_snoc] at h
            have HS := Lib.hid hS
            have hs2 : (mkS (y ++ [48])).size = y.length + 1 := by rw [mkS_size]; simp
            have e6 : ∀ w, (Instr.slice 9 (.string (mkS (y ++ [48]))) none (some (.int .i64 (y.length : Int))) none).run Tryz.prog w = .ok (.string (mkS y)) w := fun w => by
              have h := mkS_upto (y ++ [48]) y.length (by simp) w
              rwa [List.take_left'] at h; rfl
            rw [trimR_snoc] at hx
            simp only [List.length_append, List.length_singleton] at hxl
            have Hx := Lib.hid hx
            clear hS hx
            go_wp2_with (go_at_call 27; refine (HS.out _).mono ?_; rintro e w' ⟨rfl, hw⟩; replace hw := hw.symm; subst hw)
            go_round
            case rel => exact ⟨y, rfl, Hx.out, by omega⟩
            case measure => simp only [szOf]; rw [mkS_size, mkS_size]; simp
end Go.Proofs.YthnonmniponahaaGreatDoor.St
end
