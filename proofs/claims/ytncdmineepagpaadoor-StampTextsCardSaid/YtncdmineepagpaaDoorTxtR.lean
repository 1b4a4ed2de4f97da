/- The reference's TimeText: the text of any time. -/
import Derived.Test.YtncdmineepagpaaDoorTxt
namespace Go.Proofs.YtncdmineepagpaaDoor
open Go.RowKit Go.Joins

theorem mkS_emp (l : List UInt8) (h : l ≠ []) : (mkS l).toList.isEmpty = false := by
  rw [ByteArray.toList_eq, mkS_list]
  cases l with
  | nil => exact absurd rfl h
  | cons c r => rfl
theorem mkS_emp_nil : (mkS []).toList.isEmpty = true := by rw [ByteArray.toList_eq, mkS_list]; rfl

theorem trimR_snoc (l : List UInt8) : Lib.trimRightB (l ++ [48]) 48 = Lib.trimRightB l 48 := by
  unfold Lib.trimRightB
  rw [List.reverse_append]
  rfl
theorem trimR_stay (l : List UInt8) (c : UInt8) (h : c ≠ 48) : Lib.trimRightB (l ++ [c]) 48 = l ++ [c] := by
  unfold Lib.trimRightB
  rw [List.reverse_append]
  have : (c == 48) = false := by simpa using h
  simp [List.dropWhile_cons, this]
theorem hasSuffix_snoc (l : List UInt8) (c : UInt8) : Lib.hasSuffix (l ++ [c]) [48] = (c == 48) := by
  unfold Lib.hasSuffix List.isSuffixOf
  rw [List.reverse_append]
  simp [List.isPrefixOf, Bool.beq_comm]
theorem digs_trim : ∀ (k u : Nat), u < 10 ^ k → Lib.trimRightB (digs k u) 48 = [] → u = 0
  | 0, u, h, _ => by simpa using h
  | k + 1, u, h, ht => by
    rw [digs] at ht
    have hp : 10 ^ (k + 1) = 10 * 10 ^ k := Nat.pow_succ'
    by_cases h0 : u % 10 = 0
    · rw [h0, show UInt8.ofNat (48 + 0) = 48 from rfl, trimR_snoc] at ht
      have := digs_trim k (u / 10) (by omega) ht
      omega
    · rw [trimR_stay _ _ (by
        intro e
        have := congrArg UInt8.toNat e
        simp only [UInt8.toNat_ofNat'] at this
        have h48 : (48 : UInt8).toNat = 48 := rfl
        omega)] at ht
      simp at ht

theorem refText_bad (s n : Int) (w : World) (hr : rightB s n = false) :
    Calls Tryd.prog 17 #[tmV s n] w fun e w' => e = .returned (.tuple #[.string (mkS []), .int .i64 1]) ∧ Below w.heap.size w w' := by
  have R := Lib.hid (fun w => refRight_any s n w)
  rw [hr] at R
  clear hr
  go_enter Tryd.func17, Tryd.ntmps17
  go_wp2_with (go_at_call 14; refine (R.out _).mono ?_; rintro e w1 ⟨rfl, hb1⟩)
  go_ret2
  exact ⟨rfl, (below_alloc1 _ _).trans (hb1.mono (by simp))⟩

def szOf : Value → Nat | .string b => b.size | _ => 0

set_option maxHeartbeats 4000000 in
theorem refText_of (s n : Int) (W P : Nat) (sg : List UInt8) (w : World) (hp : PowLaid w) (hr : rightB s n = true)
    (hcase : (0 ≤ s ∧ s = W ∧ n = P ∧ sg = []) ∨ (s < 0 ∧ n = 0 ∧ -s = W ∧ 0 = P ∧ sg = [45]) ∨ (s < 0 ∧ 0 < n ∧ -s - 1 = W ∧ 1000000000 - n = P ∧ sg = [45])) :
    Calls Tryd.prog 17 #[tmV s n] w fun e w' => e = .returned (.tuple #[.string (mkS (sg ++ Lib.decDigits W ++ fracL P)), .int .i64 0]) ∧ Below w.heap.size w w' := by
  have hb := rightB_true s n hr
  obtain ⟨hb1, hb2, hb3, hb4⟩ := hb
  have R := Lib.hid (fun w => refRight_any s n w)
  rw [hr] at R
  have hP9 : P < 1000000000 := by omega
  have hW9 : W ≤ 1099511627776 := by omega
  have hI : ∀ (N : Nat), N ≤ 1099511627776 → ∀ w, PowLaid w → Calls Tryd.prog 48 #[.int .i64 (N : Int)] w fun e w' => e = .returned (.string (mkS (Lib.decDigits N))) ∧ Below w.heap.size w w' := fun N hN w hp => by
    have h := itoa_mk (N : Int) (by omega) (by omega) w hp
    rwa [itoa_nat _ (by omega), Int.toNat_natCast] at h
  have HI1 := Lib.hid (hI P (by omega))
  have HI2 := Lib.hid (hI W hW9)
  have hLW := dec_length W (by omega)
  obtain ⟨hLP, hpad⟩ := digs_pad 8 P (by omega)
  have HP := Lib.hid (fun w1 (h : Below w.heap.size w w1) => hp.below h)
  have hsg : sg.length ≤ 1 := by rcases hcase with h | h | h <;> simp [h.2.2.2, h.2.2]
  have HPad := Lib.hid hpad
  clear hp hr hI hpad
  generalize hDW : Lib.decDigits W = DW at *
  generalize hDP : Lib.decDigits P = DP at *
  clear hDW hDP
  obtain ⟨T, hT⟩ : ∃ T, T = Lib.trimRightB (digs 9 P) 48 := ⟨_, rfl⟩
  have hTl : T.length ≤ 9 := by have := trimRightB_length (digs 9 P) 48; rw [digs_length] at this; rw [hT]; exact this
  have hF0 : T = [] → fracL P = [] := fun h => by
    have := digs_trim 9 P (by omega) (by rw [← hT]; exact h)
    subst this; rfl
  have hF1 : T ≠ [] → fracL P = 46 :: T := fun h => by
    have : P ≠ 0 := by rintro rfl; exact h (by rw [hT]; decide)
    unfold fracL
    rw [if_neg this, hT]
  have HF0 := Lib.hid hF0
  have HF1 := Lib.hid hF1
  have HT := Lib.hid hT
  clear hF0 hF1 hT
  rcases hcase with ⟨g1, g2, g3, g4⟩ | ⟨g1, g2, g3, g4, g5⟩ | ⟨g1, g2, g3, g4, g5⟩
  · subst g4 g2 g3
    have g6 : decide ((W : Int) < 0) = false := by simp
    obtain ⟨X, hX⟩ : ∃ X, X = ([] : List UInt8) ++ DW := ⟨_, rfl⟩
    have hXl : X.length ≤ 21 := by rw [hX]; simp; omega
    have e5 : ∀ w, (Op.stringOp .add { data := #[] } (mkS DW)).run Tryd.prog w = .ok (.string (mkS X)) w := fun w => hX ▸ mkS_cat ([] : List UInt8) DW (by simp; omega) w
    have HX := Lib.hid hX
    clear hX
    go_enter Tryd.func17, Tryd.ntmps17
    go_wp2_with (go_at_call 14; refine (R.out _).mono ?_; rintro e w1 ⟨rfl, hq⟩; have c0 : w1.cell? ⟨w.heap.size, 0, none⟩ = some (.int .i64 (W : Int)) := by { rw [hq.cell (by simp)]; simp [go_sem] }; have c1 : w1.cell? ⟨w.heap.size, 1, none⟩ = some (.int .i64 (P : Int)) := by { rw [hq.cell (by simp)]; simp [go_sem] }; replace hq := (below_alloc1 w _).trans (hq.mono (by simp)))
    go_quiet (fail)
    replace hq := hq.trans ((below_draws _ w1 nq).mono hq.size)
    generalize w1.drewN nq = Wd at hq
    go_wp2_with (go_at_call 48; refine (HI1.out _ (HP.out _ hq)).mono ?_; rintro e w2 ⟨rfl, hb1⟩)
    go_loop [7] (fun v => ∃ j : Nat, j + DP.length ≤ 9 ∧ v = .string (mkS (List.replicate j 48 ++ DP))) (fun v => 9 - szOf v)
    case atStart => exact ⟨0, by omega, rfl⟩
    case round =>
      obtain ⟨j, hj, rfl⟩ := hrel
      obtain ⟨l, hl⟩ : ∃ l, l = List.replicate j 48 ++ DP := ⟨_, rfl⟩
      have hll : l.length = j + DP.length := by rw [hl]; simp
      rw [← hl]
      have hsz := mkS_size l
      rw [hll] at hsz
      have Hl := Lib.hid hl
      clear hl
      by_cases hlt : j + DP.length < 9
      · have hlt' : (j : Int) + (DP.length : Int) < 9 := by omega
        have e6 : ∀ w, (Op.stringOp .add { data := #[48] } (mkS l)).run Tryd.prog w = .ok (.string (mkS (48 :: l))) w := fun w => mkS_cat [48] l (by simp; omega) w
        go_wp2
        go_round
        case rel => exact ⟨j + 1, by omega, by rw [Hl.out]; rfl⟩
        case measure => simp only [szOf]; rw [mkS_size]; simp only [List.length_cons]; omega
      · have hlt' : decide ((j : Int) + (DP.length : Int) < 9) = false := by simp; omega
        have hl9 : l = digs 9 P := by
          have := HPad.out
          rw [Hl.out, show j = 8 + 1 - DP.length by omega]; exact this.symm
        have hT9 : Lib.trimRightB l 48 = T := by rw [hl9, HT.out]
        have hl10 : l.length ≤ 9 := by omega
        clear hl9 Hl
        go_wp2
        go_loop [7] (fun v => ∃ x : List UInt8, v = .string (mkS x) ∧ Lib.trimRightB x 48 = T ∧ x.length ≤ 9) (fun v => szOf v)
        case atStart => exact ⟨l, rfl, hT9, hl10⟩
        case round =>
          obtain ⟨x, rfl, hx, hxl⟩ := hrel
          clear hT9 hsz
          have hend : (Lib.hasSuffix x [48] = false ∧ x = T) ∨ (∃ y, x = y ++ [48]) := by
            rcases List.eq_nil_or_concat x with rfl | ⟨y, c, rfl⟩
            · exact Or.inl ⟨rfl, by rw [← hx]; rfl⟩
            · rw [List.concat_eq_append] at *
              by_cases hc : c = 48
              · subst hc; exact Or.inr ⟨y, rfl⟩
              · refine Or.inl ⟨?_, ?_⟩
                · rw [hasSuffix_snoc]; simpa using hc
                · rw [← hx, trimR_stay y c hc]
          rcases hend with ⟨hno, rfl⟩ | ⟨y, rfl⟩
          · clear hx
            have hS : ∀ w, Calls Tryd.prog 49 #[.string (mkS x), .string { data := #[48] }] w fun e w' => e = .returned (.bool false) ∧ w' = w := fun w => hno ▸ hasSuffix_mk x [48] w (by omega)
            have HS := Lib.hid hS
            clear hS hno
            by_cases hx0 : x = []
            · have hfr := HF0.out hx0
              have e8 := mkS_emp_nil
              have e9 : ∀ w, (Op.stringOp .add (mkS X) (mkS [])).run Tryd.prog w = .ok (.string (mkS X)) w := fun w => by have h := mkS_cat X [] (by simp; omega) w; rwa [List.append_nil] at h
              have Hfr := Lib.hid hfr
              clear hfr HF0 HF1 HT
              subst hx0
              go_wp2_with (first
                | (go_at_call 49; refine (HS.out _).mono ?_; rintro e w' ⟨rfl, hw⟩; replace hw := hw.symm; subst hw)
                | (go_at_call 48; refine (HI2.out _ (HP.out _ (hq.trans (hb1.mono hq.size)))).mono ?_; rintro e w3 ⟨rfl, hb3⟩))
              go_ret2
              exact ⟨congrArg (fun x => Ending.returned (.tuple #[.string (mkS x), .int .i64 0])) (by rw [Hfr.out, HX.out]; simp), hq.trans ((hb1.trans (hb3.mono hb1.size)).mono hq.size)⟩
            · have hfr := HF1.out hx0
              have e8 := mkS_emp x hx0
              have e7 : ∀ w, (Op.stringOp .add { data := #[46] } (mkS x)).run Tryd.prog w = .ok (.string (mkS (46 :: x))) w := fun w => mkS_cat [46] x (by simp; omega) w
              have e9 : ∀ w, (Op.stringOp .add (mkS X) (mkS (46 :: x))).run Tryd.prog w = .ok (.string (mkS (X ++ 46 :: x))) w := fun w => mkS_cat _ (46 :: x) (by simp; omega) w
              have Hfr := Lib.hid hfr
              clear hfr HF0 HF1 HT hx0
              go_wp2_with (first
                | (go_at_call 49; refine (HS.out _).mono ?_; rintro e w' ⟨rfl, hw⟩; replace hw := hw.symm; subst hw)
                | (go_at_call 48; refine (HI2.out _ (HP.out _ (hq.trans (hb1.mono hq.size)))).mono ?_; rintro e w3 ⟨rfl, hb3⟩))
              go_ret2
              exact ⟨congrArg (fun x => Ending.returned (.tuple #[.string (mkS x), .int .i64 0])) (by rw [Hfr.out, HX.out]; simp), hq.trans ((hb1.trans (hb3.mono hb1.size)).mono hq.size)⟩
          · have hS : ∀ w, Calls Tryd.prog 49 #[.string (mkS (y ++ [48])), .string { data := #[48] }] w fun e w' => e = .returned (.bool true) ∧ w' = w := fun w => by
              have h := hasSuffix_mk (y ++ [48]) [48] w (by omega)
              rwa [hasSuffix_snoc] at h
            have HS := Lib.hid hS
            have hs2 : (mkS (y ++ [48])).size = y.length + 1 := by rw [mkS_size]; simp
            have e6 : ∀ w, (Instr.slice 9 (.string (mkS (y ++ [48]))) none (some (.int .i64 (y.length : Int))) none).run Tryd.prog w = .ok (.string (mkS y)) w := fun w => by
              have h := mkS_upto (y ++ [48]) y.length (by simp) w
              rwa [List.take_left'] at h; rfl
            rw [trimR_snoc] at hx
            simp only [List.length_append, List.length_singleton] at hxl
            have Hx := Lib.hid hx
            clear hS hx
            go_wp2_with (go_at_call 49; refine (HS.out _).mono ?_; rintro e w' ⟨rfl, hw⟩; replace hw := hw.symm; subst hw)
            go_round
            case rel => exact ⟨y, rfl, Hx.out, by omega⟩
            case measure => simp only [szOf]; rw [mkS_size, mkS_size]; simp
  · subst g5 g2
    have g6 : decide (s < 0) = true := by simpa using g1
    obtain rfl : P = 0 := by omega
    have HI0 : ∀ w, PowLaid w → Calls Tryd.prog 48 #[.int .i64 0] w fun e w' => e = .returned (.string (mkS DP)) ∧ Below w.heap.size w w' := HI1.out
    have HI3 := Lib.hid HI0
    clear HI0 g4
    obtain ⟨X, hX⟩ : ∃ X, X = [45] ++ DW := ⟨_, rfl⟩
    have hXl : X.length ≤ 21 := by rw [hX]; simp; omega
    have e5 : ∀ w, (Op.stringOp .add { data := #[45] } (mkS DW)).run Tryd.prog w = .ok (.string (mkS X)) w := fun w => hX ▸ mkS_cat [45] DW (by simp; omega) w
    have HX := Lib.hid hX
    clear hX
    go_enter Tryd.func17, Tryd.ntmps17
    go_wp2_with (go_at_call 14; refine (R.out _).mono ?_; rintro e w1 ⟨rfl, hq⟩; have c0 : w1.cell? ⟨w.heap.size, 0, none⟩ = some (.int .i64 s) := by { rw [hq.cell (by simp)]; simp [go_sem] }; have c1 : w1.cell? ⟨w.heap.size, 1, none⟩ = some (.int .i64 0) := by { rw [hq.cell (by simp)]; simp [go_sem] }; replace hq := (below_alloc1 w _).trans (hq.mono (by simp)))
    go_quiet (fail)
    replace hq := hq.trans ((below_draws _ w1 nq).mono hq.size)
    generalize w1.drewN nq = Wd at hq
    go_wp2_with (go_at_call 48; refine (HI3.out _ (HP.out _ hq)).mono ?_; rintro e w2 ⟨rfl, hb1⟩)
    go_loop [7] (fun v => ∃ j : Nat, j + DP.length ≤ 9 ∧ v = .string (mkS (List.replicate j 48 ++ DP))) (fun v => 9 - szOf v)
    case atStart => exact ⟨0, by omega, rfl⟩
    case round =>
      obtain ⟨j, hj, rfl⟩ := hrel
      obtain ⟨l, hl⟩ : ∃ l, l = List.replicate j 48 ++ DP := ⟨_, rfl⟩
      have hll : l.length = j + DP.length := by rw [hl]; simp
      rw [← hl]
      have hsz := mkS_size l
      rw [hll] at hsz
      have Hl := Lib.hid hl
      clear hl
      by_cases hlt : j + DP.length < 9
      · have hlt' : (j : Int) + (DP.length : Int) < 9 := by omega
        have e6 : ∀ w, (Op.stringOp .add { data := #[48] } (mkS l)).run Tryd.prog w = .ok (.string (mkS (48 :: l))) w := fun w => mkS_cat [48] l (by simp; omega) w
        go_wp2
        go_round
        case rel => exact ⟨j + 1, by omega, by rw [Hl.out]; rfl⟩
        case measure => simp only [szOf]; rw [mkS_size]; simp only [List.length_cons]; omega
      · have hlt' : decide ((j : Int) + (DP.length : Int) < 9) = false := by simp; omega
        have hl9 : l = digs 9 0 := by
          have := HPad.out
          rw [Hl.out, show j = 8 + 1 - DP.length by omega]; exact this.symm
        have hT9 : Lib.trimRightB l 48 = T := by rw [hl9, HT.out]
        have hl10 : l.length ≤ 9 := by omega
        clear hl9 Hl
        go_wp2
        go_loop [7] (fun v => ∃ x : List UInt8, v = .string (mkS x) ∧ Lib.trimRightB x 48 = T ∧ x.length ≤ 9) (fun v => szOf v)
        case atStart => exact ⟨l, rfl, hT9, hl10⟩
        case round =>
          obtain ⟨x, rfl, hx, hxl⟩ := hrel
          clear hT9 hsz
          have hend : (Lib.hasSuffix x [48] = false ∧ x = T) ∨ (∃ y, x = y ++ [48]) := by
            rcases List.eq_nil_or_concat x with rfl | ⟨y, c, rfl⟩
            · exact Or.inl ⟨rfl, by rw [← hx]; rfl⟩
            · rw [List.concat_eq_append] at *
              by_cases hc : c = 48
              · subst hc; exact Or.inr ⟨y, rfl⟩
              · refine Or.inl ⟨?_, ?_⟩
                · rw [hasSuffix_snoc]; simpa using hc
                · rw [← hx, trimR_stay y c hc]
          rcases hend with ⟨hno, rfl⟩ | ⟨y, rfl⟩
          · clear hx
            have hS : ∀ w, Calls Tryd.prog 49 #[.string (mkS x), .string { data := #[48] }] w fun e w' => e = .returned (.bool false) ∧ w' = w := fun w => hno ▸ hasSuffix_mk x [48] w (by omega)
            have HS := Lib.hid hS
            clear hS hno
            by_cases hx0 : x = []
            · have hfr := HF0.out hx0
              have e8 := mkS_emp_nil
              have e9 : ∀ w, (Op.stringOp .add (mkS X) (mkS [])).run Tryd.prog w = .ok (.string (mkS X)) w := fun w => by have h := mkS_cat X [] (by simp; omega) w; rwa [List.append_nil] at h
              have Hfr := Lib.hid hfr
              clear hfr HF0 HF1 HT
              subst hx0
              go_wp2_with (first
                | (go_at_call 49; refine (HS.out _).mono ?_; rintro e w' ⟨rfl, hw⟩; replace hw := hw.symm; subst hw)
                | (go_at_call 48; refine (HI2.out _ (HP.out _ (hq.trans (hb1.mono hq.size)))).mono ?_; rintro e w3 ⟨rfl, hb3⟩))
              go_ret2
              exact ⟨congrArg (fun x => Ending.returned (.tuple #[.string (mkS x), .int .i64 0])) (by rw [Hfr.out, HX.out]; simp), hq.trans ((hb1.trans (hb3.mono hb1.size)).mono hq.size)⟩
            · have hfr := HF1.out hx0
              have e8 := mkS_emp x hx0
              have e7 : ∀ w, (Op.stringOp .add { data := #[46] } (mkS x)).run Tryd.prog w = .ok (.string (mkS (46 :: x))) w := fun w => mkS_cat [46] x (by simp; omega) w
              have e9 : ∀ w, (Op.stringOp .add (mkS X) (mkS (46 :: x))).run Tryd.prog w = .ok (.string (mkS (X ++ 46 :: x))) w := fun w => mkS_cat _ (46 :: x) (by simp; omega) w
              have Hfr := Lib.hid hfr
              clear hfr HF0 HF1 HT hx0
              go_wp2_with (first
                | (go_at_call 49; refine (HS.out _).mono ?_; rintro e w' ⟨rfl, hw⟩; replace hw := hw.symm; subst hw)
                | (go_at_call 48; refine (HI2.out _ (HP.out _ (hq.trans (hb1.mono hq.size)))).mono ?_; rintro e w3 ⟨rfl, hb3⟩))
              go_ret2
              exact ⟨congrArg (fun x => Ending.returned (.tuple #[.string (mkS x), .int .i64 0])) (by rw [Hfr.out, HX.out]; simp), hq.trans ((hb1.trans (hb3.mono hb1.size)).mono hq.size)⟩
          · have hS : ∀ w, Calls Tryd.prog 49 #[.string (mkS (y ++ [48])), .string { data := #[48] }] w fun e w' => e = .returned (.bool true) ∧ w' = w := fun w => by
              have h := hasSuffix_mk (y ++ [48]) [48] w (by omega)
              rwa [hasSuffix_snoc] at h
            have HS := Lib.hid hS
            have hs2 : (mkS (y ++ [48])).size = y.length + 1 := by rw [mkS_size]; simp
            have e6 : ∀ w, (Instr.slice 9 (.string (mkS (y ++ [48]))) none (some (.int .i64 (y.length : Int))) none).run Tryd.prog w = .ok (.string (mkS y)) w := fun w => by
              have h := mkS_upto (y ++ [48]) y.length (by simp) w
              rwa [List.take_left'] at h; rfl
            rw [trimR_snoc] at hx
            simp only [List.length_append, List.length_singleton] at hxl
            have Hx := Lib.hid hx
            clear hS hx
            go_wp2_with (go_at_call 49; refine (HS.out _).mono ?_; rintro e w' ⟨rfl, hw⟩; replace hw := hw.symm; subst hw)
            go_round
            case rel => exact ⟨y, rfl, Hx.out, by omega⟩
            case measure => simp only [szOf]; rw [mkS_size, mkS_size]; simp
  · subst g5
    have g6 : decide (s < 0) = true := by simpa using g1
    obtain ⟨X, hX⟩ : ∃ X, X = [45] ++ DW := ⟨_, rfl⟩
    have hXl : X.length ≤ 21 := by rw [hX]; simp; omega
    have e5 : ∀ w, (Op.stringOp .add { data := #[45] } (mkS DW)).run Tryd.prog w = .ok (.string (mkS X)) w := fun w => hX ▸ mkS_cat [45] DW (by simp; omega) w
    have HX := Lib.hid hX
    clear hX
    go_enter Tryd.func17, Tryd.ntmps17
    go_wp2_with (go_at_call 14; refine (R.out _).mono ?_; rintro e w1 ⟨rfl, hq⟩; have c0 : w1.cell? ⟨w.heap.size, 0, none⟩ = some (.int .i64 s) := by { rw [hq.cell (by simp)]; simp [go_sem] }; have c1 : w1.cell? ⟨w.heap.size, 1, none⟩ = some (.int .i64 n) := by { rw [hq.cell (by simp)]; simp [go_sem] }; replace hq := (below_alloc1 w _).trans (hq.mono (by simp)))
    go_quiet (fail)
    replace hq := hq.trans ((below_draws _ w1 nq).mono hq.size)
    generalize w1.drewN nq = Wd at hq
    go_wp2_with (go_at_call 48; refine (HI1.out _ (HP.out _ hq)).mono ?_; rintro e w2 ⟨rfl, hb1⟩)
    go_loop [7] (fun v => ∃ j : Nat, j + DP.length ≤ 9 ∧ v = .string (mkS (List.replicate j 48 ++ DP))) (fun v => 9 - szOf v)
    case atStart => exact ⟨0, by omega, rfl⟩
    case round =>
      obtain ⟨j, hj, rfl⟩ := hrel
      obtain ⟨l, hl⟩ : ∃ l, l = List.replicate j 48 ++ DP := ⟨_, rfl⟩
      have hll : l.length = j + DP.length := by rw [hl]; simp
      rw [← hl]
      have hsz := mkS_size l
      rw [hll] at hsz
      have Hl := Lib.hid hl
      clear hl
      by_cases hlt : j + DP.length < 9
      · have hlt' : (j : Int) + (DP.length : Int) < 9 := by omega
        have e6 : ∀ w, (Op.stringOp .add { data := #[48] } (mkS l)).run Tryd.prog w = .ok (.string (mkS (48 :: l))) w := fun w => mkS_cat [48] l (by simp; omega) w
        go_wp2
        go_round
        case rel => exact ⟨j + 1, by omega, by rw [Hl.out]; rfl⟩
        case measure => simp only [szOf]; rw [mkS_size]; simp only [List.length_cons]; omega
      · have hlt' : decide ((j : Int) + (DP.length : Int) < 9) = false := by simp; omega
        have hl9 : l = digs 9 P := by
          have := HPad.out
          rw [Hl.out, show j = 8 + 1 - DP.length by omega]; exact this.symm
        have hT9 : Lib.trimRightB l 48 = T := by rw [hl9, HT.out]
        have hl10 : l.length ≤ 9 := by omega
        clear hl9 Hl
        go_wp2
        go_loop [7] (fun v => ∃ x : List UInt8, v = .string (mkS x) ∧ Lib.trimRightB x 48 = T ∧ x.length ≤ 9) (fun v => szOf v)
        case atStart => exact ⟨l, rfl, hT9, hl10⟩
        case round =>
          obtain ⟨x, rfl, hx, hxl⟩ := hrel
          clear hT9 hsz
          have hend : (Lib.hasSuffix x [48] = false ∧ x = T) ∨ (∃ y, x = y ++ [48]) := by
            rcases List.eq_nil_or_concat x with rfl | ⟨y, c, rfl⟩
            · exact Or.inl ⟨rfl, by rw [← hx]; rfl⟩
            · rw [List.concat_eq_append] at *
              by_cases hc : c = 48
              · subst hc; exact Or.inr ⟨y, rfl⟩
              · refine Or.inl ⟨?_, ?_⟩
                · rw [hasSuffix_snoc]; simpa using hc
                · rw [← hx, trimR_stay y c hc]
          rcases hend with ⟨hno, rfl⟩ | ⟨y, rfl⟩
          · clear hx
            have hS : ∀ w, Calls Tryd.prog 49 #[.string (mkS x), .string { data := #[48] }] w fun e w' => e = .returned (.bool false) ∧ w' = w := fun w => hno ▸ hasSuffix_mk x [48] w (by omega)
            have HS := Lib.hid hS
            clear hS hno
            by_cases hx0 : x = []
            · have hfr := HF0.out hx0
              have e8 := mkS_emp_nil
              have e9 : ∀ w, (Op.stringOp .add (mkS X) (mkS [])).run Tryd.prog w = .ok (.string (mkS X)) w := fun w => by have h := mkS_cat X [] (by simp; omega) w; rwa [List.append_nil] at h
              have Hfr := Lib.hid hfr
              clear hfr HF0 HF1 HT
              subst hx0
              go_wp2_with (first
                | (go_at_call 49; refine (HS.out _).mono ?_; rintro e w' ⟨rfl, hw⟩; replace hw := hw.symm; subst hw)
                | (go_at_call 48; refine (HI2.out _ (HP.out _ (hq.trans (hb1.mono hq.size)))).mono ?_; rintro e w3 ⟨rfl, hb3⟩))
              go_ret2
              exact ⟨congrArg (fun x => Ending.returned (.tuple #[.string (mkS x), .int .i64 0])) (by rw [Hfr.out, HX.out]; simp), hq.trans ((hb1.trans (hb3.mono hb1.size)).mono hq.size)⟩
            · have hfr := HF1.out hx0
              have e8 := mkS_emp x hx0
              have e7 : ∀ w, (Op.stringOp .add { data := #[46] } (mkS x)).run Tryd.prog w = .ok (.string (mkS (46 :: x))) w := fun w => mkS_cat [46] x (by simp; omega) w
              have e9 : ∀ w, (Op.stringOp .add (mkS X) (mkS (46 :: x))).run Tryd.prog w = .ok (.string (mkS (X ++ 46 :: x))) w := fun w => mkS_cat _ (46 :: x) (by simp; omega) w
              have Hfr := Lib.hid hfr
              clear hfr HF0 HF1 HT hx0
              go_wp2_with (first
                | (go_at_call 49; refine (HS.out _).mono ?_; rintro e w' ⟨rfl, hw⟩; replace hw := hw.symm; subst hw)
                | (go_at_call 48; refine (HI2.out _ (HP.out _ (hq.trans (hb1.mono hq.size)))).mono ?_; rintro e w3 ⟨rfl, hb3⟩))
              go_ret2
              exact ⟨congrArg (fun x => Ending.returned (.tuple #[.string (mkS x), .int .i64 0])) (by rw [Hfr.out, HX.out]; simp), hq.trans ((hb1.trans (hb3.mono hb1.size)).mono hq.size)⟩
          · have hS : ∀ w, Calls Tryd.prog 49 #[.string (mkS (y ++ [48])), .string { data := #[48] }] w fun e w' => e = .returned (.bool true) ∧ w' = w := fun w => by
              have h := hasSuffix_mk (y ++ [48]) [48] w (by omega)
              rwa [hasSuffix_snoc] at h
            have HS := Lib.hid hS
            have hs2 : (mkS (y ++ [48])).size = y.length + 1 := by rw [mkS_size]; simp
            have e6 : ∀ w, (Instr.slice 9 (.string (mkS (y ++ [48]))) none (some (.int .i64 (y.length : Int))) none).run Tryd.prog w = .ok (.string (mkS y)) w := fun w => by
              have h := mkS_upto (y ++ [48]) y.length (by simp) w
              rwa [List.take_left'] at h; rfl
            rw [trimR_snoc] at hx
            simp only [List.length_append, List.length_singleton] at hxl
            have Hx := Lib.hid hx
            clear hS hx
            go_wp2_with (go_at_call 49; refine (HS.out _).mono ?_; rintro e w' ⟨rfl, hw⟩; replace hw := hw.symm; subst hw)
            go_round
            case rel => exact ⟨y, rfl, Hx.out, by omega⟩
            case measure => simp only [szOf]; rw [mkS_size, mkS_size]; simp
end Go.Proofs.YtncdmineepagpaaDoor
