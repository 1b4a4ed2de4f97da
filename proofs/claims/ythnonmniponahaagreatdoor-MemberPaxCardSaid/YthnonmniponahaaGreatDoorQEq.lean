/- Eq: what the texts of the name hold, joined. -/
import Derived.Test.YthnonmniponahaaGreatDoorQEp
import Derived.Test.YthnonmniponahaaGreatDoorQOo
import Derived.Deep.DeepCutAuto
set_option linter.unusedSimpArgs false
set_option linter.unusedVariables false
section
/- The reference's EntryRight: what it returns of any member. -/
namespace Go.Proofs.YthnonmniponahaaGreatDoor
open Go.RowKit Go.Joins
set_option linter.unusedVariables false
set_option linter.unusedSimpArgs false

theorem fitsI_dec (n m : Int) : fitsI n m = decide (0 ≤ n ∧ n ≤ m) := by unfold fitsI; by_cases h1 : 0 ≤ n <;> by_cases h2 : n ≤ m <;> simp [h1, h2]
theorem wrap_u8 (c : UInt8) : IntKind.i64.wrap (c.toNat : Int) = (c.toNat : Int) := by
  have := c.toNat_lt
  simp only [IntKind.wrap, IntKind.bits, IntKind.signed]
  simp
  omega
theorem last_index (l : List UInt8) (h : l ≠ []) : ∃ c, l[l.length - 1]? = some c ∧ (c == 47) = endsS l := by
  rcases List.eq_nil_or_concat l with rfl | ⟨m, c, rfl⟩
  · exact absurd rfl h
  · refine ⟨c, by simp, ?_⟩
    unfold endsS
    by_cases h : c = 47
    · subst h; simp
    · simp [h]
def endF (x48 m5 sp mr eqd z0 dE mE : Bool) : Bool := if x48 then m5 && (!sp || (mr && eqd)) else z0 && (dE && mE)
theorem refPlain_int (s : List UInt8) (n : Nat) (m : Int) (hm : m = (n : Int)) (hs : s.length ≤ 9223372036854775807) (w : World) :
    Calls Tryz.prog 129 #[.string (mkS s), .int .i64 m] w fun e w' => e = .returned (.bool (txtOk s n)) ∧ w' = w := by rw [hm]; exact refPlain_any s n hs w
theorem regrown_eq2 {P : Program} {f : FuncId} {args : Array Value} {w : World} {v : Value} (h : Calls P f args w fun e w' => e = .returned v ∧ w = w') : Calls P f args w fun e w' => e = .returned v ∧ Below w.heap.size w w' :=
  h.mono fun e w' ⟨he, hw⟩ => ⟨he, by rw [hw]; exact Below.refl _ _⟩
set_option maxRecDepth 100000 in
set_option maxHeartbeats 40000000 in
theorem refRight_a (e : EntL) (ad : Option Addr) (cap : Nat) (ho : EntOk e) (K b0 b1 b4 b5 b6 b7 m1 m2 m3 tR L D bl mj mn x48 m5 sp mr z0 dE mE eqd : Bool) (w : World) (hM : PiecesAt w ad e.map)
    (hK : decide (48 ≤ (e.kind.toNat : Int) ∧ (e.kind.toNat : Int) ≤ 54) = K) (hb0 : decide (e.name = []) = b0) (hb1 : endsS e.name = b1) (hb4 : txtOk e.name 120 = b4) (hb5 : txtOk e.link 120 = b5) (hb6 : txtOk e.user 32 = b6) (hb7 : txtOk e.group 32 = b7)
    (hm1 : fitsI e.mode 4095 = m1) (hm2 : fitsI e.uid 1099511627775 = m2) (hm3 : fitsI e.gid 1099511627775 = m3) (htR : St.rightB e.sec e.nano = tR) (hL : isLinkB e.kind = L) (hD : isDevB e.kind = D) (hbl : decide (e.link = []) = bl)
    (hmj : fitsI e.major (2097151 * (if D then 1 else 0)) = mj) (hmn : fitsI e.minor (2097151 * (if D then 1 else 0)) = mn) (hx : ((e.kind.toNat : Int) == 48) = x48) (hm5 : fitsI e.size 4000 = m5) (hsp : sparseE e = sp) (hmr : mapRight e.map e.size = mr)
    (hz0 : (e.size == 0) = z0) (hdE : decide (e.data = []) = dE) (hmE : ((e.map.length : Int) == 0) = mE) (heqd : (sizeF 0 e.map == (e.data.length : Int)) = eqd) (hbad : K = false ∨ b0 = true ∨ b1 = true ∨ b4 = false ∨ b5 = false ∨ b6 = false ∨ b7 = false) :
    Calls Tryz.prog 76 #[entV e (.slice ad e.map.length cap)] w fun r w' => r = .returned (.bool (K && (!b0 && (!b1 && (b4 && (b5 && (b6 && (b7 && (m1 && (m2 && (m3 && (tR && ((L != bl) && (mj && (mn && endF x48 m5 sp mr eqd z0 dE mE))))))))))))))) ∧ Below w.heap.size w w' := by
  have z := ho.texts
  have HBAD := Lib.hid hbad
  clear hbad
  have hr := reachBytes_lt
  have s0 := mkS_size e.name
  have hn : (e.name.length : Int) ≤ 200000000000000 := by have := z.1; omega
  have s13 := mkS_size e.data
  have hsz : i64 e.size := ho.ints.2.2.2.1
  have hwr := wrap_u8 e.kind
  have e0 := emp_dec e.name
  have e8 := emp_dec e.link
  have e13 := emp_dec e.data
  rw [hb0] at e0
  rw [hbl] at e8
  rw [hdE] at e13
  have y49 : ((e.kind.toNat : Int) == 49) = (e.kind == 49) := u8_at e.kind 49 (by omega)
  have y50 : ((e.kind.toNat : Int) == 50) = (e.kind == 50) := u8_at e.kind 50 (by omega)
  have y51 : ((e.kind.toNat : Int) == 51) = (e.kind == 51) := u8_at e.kind 51 (by omega)
  have y52 : ((e.kind.toNat : Int) == 52) = (e.kind == 52) := u8_at e.kind 52 (by omega)
  unfold isLinkB at hL
  unfold isDevB at hD
  generalize (e.kind == 49) = x49 at *
  generalize (e.kind == 50) = x50 at *
  generalize (e.kind == 51) = x51 at *
  generalize (e.kind == 52) = x52 at *
  have IX : b0 = false → ∃ c : UInt8, 1 ≤ (e.name.length : Int) ∧ ((c.toNat : Int) == 47) = b1 ∧ ∀ w, (Instr.index 9 (.string (mkS e.name)) (.int .i64 ((e.name.length : Int) - 1))).run Tryz.prog w = .ok (.int .u8 (c.toNat : Int)) w := fun h => by
    subst h
    have hne : e.name ≠ [] := of_decide_eq_false hb0
    obtain ⟨c, h1, h2⟩ := last_index e.name hne
    have hp : 1 ≤ e.name.length := List.length_pos_iff.2 hne
    refine ⟨c, by omega, by rw [show ((c.toNat : Int) == 47) = (c == 47) from u8_at c 47 (by omega), h2, hb1], fun w => mkS_index e.name _ c (by omega) (by rw [show ((e.name.length : Int) - 1).toNat = e.name.length - 1 by omega]; exact h1) w⟩
  have hE := Lib.hid (EntAt.new w e (.slice ad e.map.length cap) 28)
  have hB := Lib.hid (below_alloc1 w (.cells (entC e (.slice ad e.map.length cap)) 28))
  have HM := Lib.hid (fun W (h : Below w.heap.size w W) => hM.below h)
  have CW := Lib.hid (fun w => within_any (e.kind.toNat : Int) 48 54 w)
  have P0 := Lib.hid (fun w => refPlain_int e.name 120 120 rfl (reach_fits z.1) w)
  have P1 := Lib.hid (fun w => refPlain_int e.link 120 120 rfl (reach_fits z.2.1) w)
  have P2 := Lib.hid (fun w => refPlain_int e.user 32 32 rfl (reach_fits z.2.2.1) w)
  have P3 := Lib.hid (fun w => refPlain_int e.group 32 32 rfl (reach_fits z.2.2.2.1) w)
  have W1 := Lib.hid (fun w => within_any e.mode 0 4095 w)
  have W2 := Lib.hid (fun w => within_any e.uid 0 1099511627775 w)
  have W3 := Lib.hid (fun w => within_any e.gid 0 1099511627775 w)
  have W4 := Lib.hid (fun w => within_any e.major 0 (2097151 * (if D then 1 else 0)) w)
  have W5 := Lib.hid (fun w => within_any e.minor 0 (2097151 * (if D then 1 else 0)) w)
  have W6 := Lib.hid (fun w => within_any e.size 0 4000 w)
  have T := Lib.hid (fun w => St.refRight_any e.sec e.nano w)
  have O := Lib.hid (fun w => one_any D w)
  have CP := Lib.hid (fun w => refSparse_any e ad cap (reach_fits z.2.2.2.2) w)
  have CR := Lib.hid (fun W (h : Below w.heap.size w W) => rightB_any ad cap e.map e.size hsz ho.map ho.fits W (HM.out W h))
  have CZ := Lib.hid (fun W (h : Below w.heap.size w W) => sizeB_any ad cap e.map ho.map ho.fits W (HM.out W h))
  rw [hK] at CW
  rw [hb4] at P0
  rw [hb5] at P1
  rw [hb6] at P2
  rw [hb7] at P3
  rw [← fitsI_dec, hm1] at W1
  rw [← fitsI_dec, hm2] at W2
  rw [← fitsI_dec, hm3] at W3
  rw [← fitsI_dec, hmj] at W4
  rw [← fitsI_dec, hmn] at W5
  rw [← fitsI_dec, hm5] at W6
  rw [htR] at T
  rw [hsp] at CP
  rw [hmr] at CR
  clear ho hM z hK hb0 hb1 hb4 hb5 hb6 hb7 hm1 hm2 hm3 htR hbl hmj hmn hm5 hsp hmr hdE
  generalize sizeF 0 e.map = S at *
  unfold entC at hB hE
  unfold entV at CP ⊢
  generalize e.map.length = n at *
  have hD1 : (2097151 : Int) * (if D then 1 else 0) = (if D then 2097151 else 0) := by cases D <;> rfl
  go_enter Tryz.func76, Tryz.ntmps76
  go_upto_region 1 with fail
  go_cut [3] (fun s3 wx => s3 = .bool L ∧ wx = w.alloc (.cells #[.string (mkS e.name), .int .u8 (e.kind.toNat : Int), .int .i64 e.mode, .int .i64 e.uid, .int .i64 e.gid, .int .i64 e.size, .int .i64 e.sec, .int .i64 e.nano, .string (mkS e.link), .string (mkS e.user), .string (mkS e.group), .int .i64 e.major, .int .i64 e.minor, .string (mkS e.data), .slice ad n cap] 28))
  case first =>
    subst hL
    cases x49 <;> cases x50
    all_goals
      go_wp2
      go_meet
      exact ⟨rfl, rfl⟩
  case rest =>
    obtain ⟨rfl, rfl⟩ := hcut
    go_upto_region 2 with fail
    go_cut [4] (fun s4 wx => s4 = .bool D ∧ wx = w.alloc (.cells #[.string (mkS e.name), .int .u8 (e.kind.toNat : Int), .int .i64 e.mode, .int .i64 e.uid, .int .i64 e.gid, .int .i64 e.size, .int .i64 e.sec, .int .i64 e.nano, .string (mkS e.link), .string (mkS e.user), .string (mkS e.group), .int .i64 e.major, .int .i64 e.minor, .string (mkS e.data), .slice ad n cap] 28))
    case first =>
      subst hD
      cases x51 <;> cases x52
      all_goals
        go_wp2
        go_meet
        exact ⟨rfl, rfl⟩
    case rest =>
      obtain ⟨rfl, rfl⟩ := hcut
      clear y49 y50 y51 y52 hL hD hD1
      obtain ⟨q, hq⟩ : ∃ q : Int, (if D then 1 else 0 : Int) = q := ⟨_, rfl⟩
      have hq1 : 0 ≤ q ∧ q ≤ 1 := by rw [← hq]; cases D <;> simp
      rw [hq] at O W4 W5
      clear hq
      obtain ⟨hq0, hq1⟩ := hq1
      cases K with
      | false =>
        clear HBAD
        go_wp2_with (first
          | (go_at_call 29; (with_reducible refine (CW.out _).mono ?_); rintro r w' ⟨rfl, hw⟩; subst hw)
          | (go_at_call 129; (with_reducible refine (P0.out _).mono ?_); rintro r w' ⟨rfl, hw⟩; replace hw := hw.symm; subst hw)
          | (go_at_call 129; (with_reducible refine (P1.out _).mono ?_); rintro r w' ⟨rfl, hw⟩; replace hw := hw.symm; subst hw)
          | (go_at_call 129; (with_reducible refine (P2.out _).mono ?_); rintro r w' ⟨rfl, hw⟩; replace hw := hw.symm; subst hw)
          | (go_at_call 129; (with_reducible refine (P3.out _).mono ?_); rintro r w' ⟨rfl, hw⟩; replace hw := hw.symm; subst hw)
          | (go_at_call 29; (with_reducible refine (W1.out _).mono ?_); rintro r w' ⟨rfl, hw⟩; subst hw)
          | (go_at_call 29; (with_reducible refine (W2.out _).mono ?_); rintro r w' ⟨rfl, hw⟩; subst hw)
          | (go_at_call 29; (with_reducible refine (W3.out _).mono ?_); rintro r w' ⟨rfl, hw⟩; subst hw)
          | (go_at_call 126; (with_reducible refine (T.out _).mono ?_); rintro r w2 ⟨rfl, h2⟩; have hB2 := Lib.hid (hB.out.trans (h2.mono hB.out.size)); have hE2 := Lib.hid (hE.out.below h2 hE.out.lt); clear h2; obtain ⟨c0, c1, c2, c3, c4, c5, c6, c7, c8, c9, c10, c11, c12, c13, c14⟩ := id hE2.out)
          | fail)
        go_ret
        exact ⟨by first | rfl | simp, hB.out⟩
      | true =>
        cases b0 with
        | true =>
          clear HBAD
          go_wp2_with (first
            | (go_at_call 29; (with_reducible refine (CW.out _).mono ?_); rintro r w' ⟨rfl, hw⟩; subst hw)
            | (go_at_call 129; (with_reducible refine (P0.out _).mono ?_); rintro r w' ⟨rfl, hw⟩; replace hw := hw.symm; subst hw)
            | (go_at_call 129; (with_reducible refine (P1.out _).mono ?_); rintro r w' ⟨rfl, hw⟩; replace hw := hw.symm; subst hw)
            | (go_at_call 129; (with_reducible refine (P2.out _).mono ?_); rintro r w' ⟨rfl, hw⟩; replace hw := hw.symm; subst hw)
            | (go_at_call 129; (with_reducible refine (P3.out _).mono ?_); rintro r w' ⟨rfl, hw⟩; replace hw := hw.symm; subst hw)
            | (go_at_call 29; (with_reducible refine (W1.out _).mono ?_); rintro r w' ⟨rfl, hw⟩; subst hw)
            | (go_at_call 29; (with_reducible refine (W2.out _).mono ?_); rintro r w' ⟨rfl, hw⟩; subst hw)
            | (go_at_call 29; (with_reducible refine (W3.out _).mono ?_); rintro r w' ⟨rfl, hw⟩; subst hw)
            | (go_at_call 126; (with_reducible refine (T.out _).mono ?_); rintro r w2 ⟨rfl, h2⟩; have hB2 := Lib.hid (hB.out.trans (h2.mono hB.out.size)); have hE2 := Lib.hid (hE.out.below h2 hE.out.lt); clear h2; obtain ⟨c0, c1, c2, c3, c4, c5, c6, c7, c8, c9, c10, c11, c12, c13, c14⟩ := id hE2.out)
            | fail)
          go_ret
          exact ⟨by first | rfl | simp, hB.out⟩
        | false =>
          obtain ⟨c, hp1, hc, hix⟩ := IX rfl
          clear IX
          cases b1 with
          | true =>
            clear HBAD
            go_wp2_with (first
              | (go_at_call 29; (with_reducible refine (CW.out _).mono ?_); rintro r w' ⟨rfl, hw⟩; subst hw)
              | (go_at_call 129; (with_reducible refine (P0.out _).mono ?_); rintro r w' ⟨rfl, hw⟩; replace hw := hw.symm; subst hw)
              | (go_at_call 129; (with_reducible refine (P1.out _).mono ?_); rintro r w' ⟨rfl, hw⟩; replace hw := hw.symm; subst hw)
              | (go_at_call 129; (with_reducible refine (P2.out _).mono ?_); rintro r w' ⟨rfl, hw⟩; replace hw := hw.symm; subst hw)
              | (go_at_call 129; (with_reducible refine (P3.out _).mono ?_); rintro r w' ⟨rfl, hw⟩; replace hw := hw.symm; subst hw)
              | (go_at_call 29; (with_reducible refine (W1.out _).mono ?_); rintro r w' ⟨rfl, hw⟩; subst hw)
              | (go_at_call 29; (with_reducible refine (W2.out _).mono ?_); rintro r w' ⟨rfl, hw⟩; subst hw)
              | (go_at_call 29; (with_reducible refine (W3.out _).mono ?_); rintro r w' ⟨rfl, hw⟩; subst hw)
              | (go_at_call 126; (with_reducible refine (T.out _).mono ?_); rintro r w2 ⟨rfl, h2⟩; have hB2 := Lib.hid (hB.out.trans (h2.mono hB.out.size)); have hE2 := Lib.hid (hE.out.below h2 hE.out.lt); clear h2; obtain ⟨c0, c1, c2, c3, c4, c5, c6, c7, c8, c9, c10, c11, c12, c13, c14⟩ := id hE2.out)
              | fail)
            go_ret
            exact ⟨by first | rfl | simp, hB.out⟩
          | false =>
            cases b4 with
            | false =>
              clear HBAD
              go_wp2_with (first
                | (go_at_call 29; (with_reducible refine (CW.out _).mono ?_); rintro r w' ⟨rfl, hw⟩; subst hw)
                | (go_at_call 129; (with_reducible refine (P0.out _).mono ?_); rintro r w' ⟨rfl, hw⟩; replace hw := hw.symm; subst hw)
                | (go_at_call 129; (with_reducible refine (P1.out _).mono ?_); rintro r w' ⟨rfl, hw⟩; replace hw := hw.symm; subst hw)
                | (go_at_call 129; (with_reducible refine (P2.out _).mono ?_); rintro r w' ⟨rfl, hw⟩; replace hw := hw.symm; subst hw)
                | (go_at_call 129; (with_reducible refine (P3.out _).mono ?_); rintro r w' ⟨rfl, hw⟩; replace hw := hw.symm; subst hw)
                | (go_at_call 29; (with_reducible refine (W1.out _).mono ?_); rintro r w' ⟨rfl, hw⟩; subst hw)
                | (go_at_call 29; (with_reducible refine (W2.out _).mono ?_); rintro r w' ⟨rfl, hw⟩; subst hw)
                | (go_at_call 29; (with_reducible refine (W3.out _).mono ?_); rintro r w' ⟨rfl, hw⟩; subst hw)
                | (go_at_call 126; (with_reducible refine (T.out _).mono ?_); rintro r w2 ⟨rfl, h2⟩; have hB2 := Lib.hid (hB.out.trans (h2.mono hB.out.size)); have hE2 := Lib.hid (hE.out.below h2 hE.out.lt); clear h2; obtain ⟨c0, c1, c2, c3, c4, c5, c6, c7, c8, c9, c10, c11, c12, c13, c14⟩ := id hE2.out)
                | fail)
              go_ret
              exact ⟨by first | rfl | simp, hB.out⟩
            | true =>
              cases b5 with
              | false =>
                clear HBAD
                go_wp2_with (first
                  | (go_at_call 29; (with_reducible refine (CW.out _).mono ?_); rintro r w' ⟨rfl, hw⟩; subst hw)
                  | (go_at_call 129; (with_reducible refine (P0.out _).mono ?_); rintro r w' ⟨rfl, hw⟩; replace hw := hw.symm; subst hw)
                  | (go_at_call 129; (with_reducible refine (P1.out _).mono ?_); rintro r w' ⟨rfl, hw⟩; replace hw := hw.symm; subst hw)
                  | (go_at_call 129; (with_reducible refine (P2.out _).mono ?_); rintro r w' ⟨rfl, hw⟩; replace hw := hw.symm; subst hw)
                  | (go_at_call 129; (with_reducible refine (P3.out _).mono ?_); rintro r w' ⟨rfl, hw⟩; replace hw := hw.symm; subst hw)
                  | (go_at_call 29; (with_reducible refine (W1.out _).mono ?_); rintro r w' ⟨rfl, hw⟩; subst hw)
                  | (go_at_call 29; (with_reducible refine (W2.out _).mono ?_); rintro r w' ⟨rfl, hw⟩; subst hw)
                  | (go_at_call 29; (with_reducible refine (W3.out _).mono ?_); rintro r w' ⟨rfl, hw⟩; subst hw)
                  | (go_at_call 126; (with_reducible refine (T.out _).mono ?_); rintro r w2 ⟨rfl, h2⟩; have hB2 := Lib.hid (hB.out.trans (h2.mono hB.out.size)); have hE2 := Lib.hid (hE.out.below h2 hE.out.lt); clear h2; obtain ⟨c0, c1, c2, c3, c4, c5, c6, c7, c8, c9, c10, c11, c12, c13, c14⟩ := id hE2.out)
                  | fail)
                go_ret
                exact ⟨by first | rfl | simp, hB.out⟩
              | true =>
                cases b6 with
                | false =>
                  clear HBAD
                  go_wp2_with (first
                    | (go_at_call 29; (with_reducible refine (CW.out _).mono ?_); rintro r w' ⟨rfl, hw⟩; subst hw)
                    | (go_at_call 129; (with_reducible refine (P0.out _).mono ?_); rintro r w' ⟨rfl, hw⟩; replace hw := hw.symm; subst hw)
                    | (go_at_call 129; (with_reducible refine (P1.out _).mono ?_); rintro r w' ⟨rfl, hw⟩; replace hw := hw.symm; subst hw)
                    | (go_at_call 129; (with_reducible refine (P2.out _).mono ?_); rintro r w' ⟨rfl, hw⟩; replace hw := hw.symm; subst hw)
                    | (go_at_call 129; (with_reducible refine (P3.out _).mono ?_); rintro r w' ⟨rfl, hw⟩; replace hw := hw.symm; subst hw)
                    | (go_at_call 29; (with_reducible refine (W1.out _).mono ?_); rintro r w' ⟨rfl, hw⟩; subst hw)
                    | (go_at_call 29; (with_reducible refine (W2.out _).mono ?_); rintro r w' ⟨rfl, hw⟩; subst hw)
                    | (go_at_call 29; (with_reducible refine (W3.out _).mono ?_); rintro r w' ⟨rfl, hw⟩; subst hw)
                    | (go_at_call 126; (with_reducible refine (T.out _).mono ?_); rintro r w2 ⟨rfl, h2⟩; have hB2 := Lib.hid (hB.out.trans (h2.mono hB.out.size)); have hE2 := Lib.hid (hE.out.below h2 hE.out.lt); clear h2; obtain ⟨c0, c1, c2, c3, c4, c5, c6, c7, c8, c9, c10, c11, c12, c13, c14⟩ := id hE2.out)
                    | fail)
                  go_ret
                  exact ⟨by first | rfl | simp, hB.out⟩
                | true =>
                  cases b7 with
                  | false =>
                    clear HBAD
                    go_wp2_with (first
                      | (go_at_call 29; (with_reducible refine (CW.out _).mono ?_); rintro r w' ⟨rfl, hw⟩; subst hw)
                      | (go_at_call 129; (with_reducible refine (P0.out _).mono ?_); rintro r w' ⟨rfl, hw⟩; replace hw := hw.symm; subst hw)
                      | (go_at_call 129; (with_reducible refine (P1.out _).mono ?_); rintro r w' ⟨rfl, hw⟩; replace hw := hw.symm; subst hw)
                      | (go_at_call 129; (with_reducible refine (P2.out _).mono ?_); rintro r w' ⟨rfl, hw⟩; replace hw := hw.symm; subst hw)
                      | (go_at_call 129; (with_reducible refine (P3.out _).mono ?_); rintro r w' ⟨rfl, hw⟩; replace hw := hw.symm; subst hw)
                      | (go_at_call 29; (with_reducible refine (W1.out _).mono ?_); rintro r w' ⟨rfl, hw⟩; subst hw)
                      | (go_at_call 29; (with_reducible refine (W2.out _).mono ?_); rintro r w' ⟨rfl, hw⟩; subst hw)
                      | (go_at_call 29; (with_reducible refine (W3.out _).mono ?_); rintro r w' ⟨rfl, hw⟩; subst hw)
                      | (go_at_call 126; (with_reducible refine (T.out _).mono ?_); rintro r w2 ⟨rfl, h2⟩; have hB2 := Lib.hid (hB.out.trans (h2.mono hB.out.size)); have hE2 := Lib.hid (hE.out.below h2 hE.out.lt); clear h2; obtain ⟨c0, c1, c2, c3, c4, c5, c6, c7, c8, c9, c10, c11, c12, c13, c14⟩ := id hE2.out)
                      | fail)
                    go_ret
                    exact ⟨by first | rfl | simp, hB.out⟩
                  | true =>
                    exact absurd HBAD.out (by simp)
set_option maxRecDepth 100000 in
set_option maxHeartbeats 40000000 in
theorem refRight_b (e : EntL) (ad : Option Addr) (cap : Nat) (ho : EntOk e) (K b0 b1 b4 b5 b6 b7 m1 m2 m3 tR L D bl mj mn x48 m5 sp mr z0 dE mE eqd : Bool) (w : World) (hM : PiecesAt w ad e.map)
    (hK : decide (48 ≤ (e.kind.toNat : Int) ∧ (e.kind.toNat : Int) ≤ 54) = K) (hb0 : decide (e.name = []) = b0) (hb1 : endsS e.name = b1) (hb4 : txtOk e.name 120 = b4) (hb5 : txtOk e.link 120 = b5) (hb6 : txtOk e.user 32 = b6) (hb7 : txtOk e.group 32 = b7)
    (hm1 : fitsI e.mode 4095 = m1) (hm2 : fitsI e.uid 1099511627775 = m2) (hm3 : fitsI e.gid 1099511627775 = m3) (htR : St.rightB e.sec e.nano = tR) (hL : isLinkB e.kind = L) (hD : isDevB e.kind = D) (hbl : decide (e.link = []) = bl)
    (hmj : fitsI e.major (2097151 * (if D then 1 else 0)) = mj) (hmn : fitsI e.minor (2097151 * (if D then 1 else 0)) = mn) (hx : ((e.kind.toNat : Int) == 48) = x48) (hm5 : fitsI e.size 4000 = m5) (hsp : sparseE e = sp) (hmr : mapRight e.map e.size = mr)
    (hz0 : (e.size == 0) = z0) (hdE : decide (e.data = []) = dE) (hmE : ((e.map.length : Int) == 0) = mE) (heqd : (sizeF 0 e.map == (e.data.length : Int)) = eqd) (hok : K = true ∧ b0 = false ∧ b1 = false ∧ b4 = true ∧ b5 = true ∧ b6 = true ∧ b7 = true) (hbad : m1 = false ∨ m2 = false ∨ m3 = false ∨ tR = false) :
    Calls Tryz.prog 76 #[entV e (.slice ad e.map.length cap)] w fun r w' => r = .returned (.bool (K && (!b0 && (!b1 && (b4 && (b5 && (b6 && (b7 && (m1 && (m2 && (m3 && (tR && ((L != bl) && (mj && (mn && endF x48 m5 sp mr eqd z0 dE mE))))))))))))))) ∧ Below w.heap.size w w' := by
  have z := ho.texts
  have HOK := Lib.hid hok
  clear hok
  have HBAD := Lib.hid hbad
  clear hbad
  have hr := reachBytes_lt
  have s0 := mkS_size e.name
  have hn : (e.name.length : Int) ≤ 200000000000000 := by have := z.1; omega
  have s13 := mkS_size e.data
  have hsz : i64 e.size := ho.ints.2.2.2.1
  have hwr := wrap_u8 e.kind
  have e0 := emp_dec e.name
  have e8 := emp_dec e.link
  have e13 := emp_dec e.data
  rw [hb0] at e0
  rw [hbl] at e8
  rw [hdE] at e13
  have y49 : ((e.kind.toNat : Int) == 49) = (e.kind == 49) := u8_at e.kind 49 (by omega)
  have y50 : ((e.kind.toNat : Int) == 50) = (e.kind == 50) := u8_at e.kind 50 (by omega)
  have y51 : ((e.kind.toNat : Int) == 51) = (e.kind == 51) := u8_at e.kind 51 (by omega)
  have y52 : ((e.kind.toNat : Int) == 52) = (e.kind == 52) := u8_at e.kind 52 (by omega)
  unfold isLinkB at hL
  unfold isDevB at hD
  generalize (e.kind == 49) = x49 at *
  generalize (e.kind == 50) = x50 at *
  generalize (e.kind == 51) = x51 at *
  generalize (e.kind == 52) = x52 at *
  have IX : b0 = false → ∃ c : UInt8, 1 ≤ (e.name.length : Int) ∧ ((c.toNat : Int) == 47) = b1 ∧ ∀ w, (Instr.index 9 (.string (mkS e.name)) (.int .i64 ((e.name.length : Int) - 1))).run Tryz.prog w = .ok (.int .u8 (c.toNat : Int)) w := fun h => by
    subst h
    have hne : e.name ≠ [] := of_decide_eq_false hb0
    obtain ⟨c, h1, h2⟩ := last_index e.name hne
    have hp : 1 ≤ e.name.length := List.length_pos_iff.2 hne
    refine ⟨c, by omega, by rw [show ((c.toNat : Int) == 47) = (c == 47) from u8_at c 47 (by omega), h2, hb1], fun w => mkS_index e.name _ c (by omega) (by rw [show ((e.name.length : Int) - 1).toNat = e.name.length - 1 by omega]; exact h1) w⟩
  have hE := Lib.hid (EntAt.new w e (.slice ad e.map.length cap) 28)
  have hB := Lib.hid (below_alloc1 w (.cells (entC e (.slice ad e.map.length cap)) 28))
  have HM := Lib.hid (fun W (h : Below w.heap.size w W) => hM.below h)
  have CW := Lib.hid (fun w => within_any (e.kind.toNat : Int) 48 54 w)
  have P0 := Lib.hid (fun w => refPlain_int e.name 120 120 rfl (reach_fits z.1) w)
  have P1 := Lib.hid (fun w => refPlain_int e.link 120 120 rfl (reach_fits z.2.1) w)
  have P2 := Lib.hid (fun w => refPlain_int e.user 32 32 rfl (reach_fits z.2.2.1) w)
  have P3 := Lib.hid (fun w => refPlain_int e.group 32 32 rfl (reach_fits z.2.2.2.1) w)
  have W1 := Lib.hid (fun w => within_any e.mode 0 4095 w)
  have W2 := Lib.hid (fun w => within_any e.uid 0 1099511627775 w)
  have W3 := Lib.hid (fun w => within_any e.gid 0 1099511627775 w)
  have W4 := Lib.hid (fun w => within_any e.major 0 (2097151 * (if D then 1 else 0)) w)
  have W5 := Lib.hid (fun w => within_any e.minor 0 (2097151 * (if D then 1 else 0)) w)
  have W6 := Lib.hid (fun w => within_any e.size 0 4000 w)
  have T := Lib.hid (fun w => St.refRight_any e.sec e.nano w)
  have O := Lib.hid (fun w => one_any D w)
  have CP := Lib.hid (fun w => refSparse_any e ad cap (reach_fits z.2.2.2.2) w)
  have CR := Lib.hid (fun W (h : Below w.heap.size w W) => rightB_any ad cap e.map e.size hsz ho.map ho.fits W (HM.out W h))
  have CZ := Lib.hid (fun W (h : Below w.heap.size w W) => sizeB_any ad cap e.map ho.map ho.fits W (HM.out W h))
  rw [hK] at CW
  rw [hb4] at P0
  rw [hb5] at P1
  rw [hb6] at P2
  rw [hb7] at P3
  rw [← fitsI_dec, hm1] at W1
  rw [← fitsI_dec, hm2] at W2
  rw [← fitsI_dec, hm3] at W3
  rw [← fitsI_dec, hmj] at W4
  rw [← fitsI_dec, hmn] at W5
  rw [← fitsI_dec, hm5] at W6
  rw [htR] at T
  rw [hsp] at CP
  rw [hmr] at CR
  clear ho hM z hK hb0 hb1 hb4 hb5 hb6 hb7 hm1 hm2 hm3 htR hbl hmj hmn hm5 hsp hmr hdE
  generalize sizeF 0 e.map = S at *
  unfold entC at hB hE
  unfold entV at CP ⊢
  generalize e.map.length = n at *
  have hD1 : (2097151 : Int) * (if D then 1 else 0) = (if D then 2097151 else 0) := by cases D <;> rfl
  go_enter Tryz.func76, Tryz.ntmps76
  go_upto_region 1 with fail
  go_cut [3] (fun s3 wx => s3 = .bool L ∧ wx = w.alloc (.cells #[.string (mkS e.name), .int .u8 (e.kind.toNat : Int), .int .i64 e.mode, .int .i64 e.uid, .int .i64 e.gid, .int .i64 e.size, .int .i64 e.sec, .int .i64 e.nano, .string (mkS e.link), .string (mkS e.user), .string (mkS e.group), .int .i64 e.major, .int .i64 e.minor, .string (mkS e.data), .slice ad n cap] 28))
  case first =>
    subst hL
    cases x49 <;> cases x50
    all_goals
      go_wp2
      go_meet
      exact ⟨rfl, rfl⟩
  case rest =>
    obtain ⟨rfl, rfl⟩ := hcut
    go_upto_region 2 with fail
    go_cut [4] (fun s4 wx => s4 = .bool D ∧ wx = w.alloc (.cells #[.string (mkS e.name), .int .u8 (e.kind.toNat : Int), .int .i64 e.mode, .int .i64 e.uid, .int .i64 e.gid, .int .i64 e.size, .int .i64 e.sec, .int .i64 e.nano, .string (mkS e.link), .string (mkS e.user), .string (mkS e.group), .int .i64 e.major, .int .i64 e.minor, .string (mkS e.data), .slice ad n cap] 28))
    case first =>
      subst hD
      cases x51 <;> cases x52
      all_goals
        go_wp2
        go_meet
        exact ⟨rfl, rfl⟩
    case rest =>
      obtain ⟨rfl, rfl⟩ := hcut
      clear y49 y50 y51 y52 hL hD hD1
      obtain ⟨q, hq⟩ : ∃ q : Int, (if D then 1 else 0 : Int) = q := ⟨_, rfl⟩
      have hq1 : 0 ≤ q ∧ q ≤ 1 := by rw [← hq]; cases D <;> simp
      rw [hq] at O W4 W5
      clear hq
      obtain ⟨hq0, hq1⟩ := hq1
      obtain ⟨rfl, rfl, rfl, rfl, rfl, rfl, rfl⟩ := HOK.out
      clear HOK
      obtain ⟨c, hp1, hc, hix⟩ := IX rfl
      clear IX
      cases m1 with
      | false =>
        clear HBAD
        go_wp2_with (first
          | (go_at_call 29; (with_reducible refine (CW.out _).mono ?_); rintro r w' ⟨rfl, hw⟩; subst hw)
          | (go_at_call 129; (with_reducible refine (P0.out _).mono ?_); rintro r w' ⟨rfl, hw⟩; replace hw := hw.symm; subst hw)
          | (go_at_call 129; (with_reducible refine (P1.out _).mono ?_); rintro r w' ⟨rfl, hw⟩; replace hw := hw.symm; subst hw)
          | (go_at_call 129; (with_reducible refine (P2.out _).mono ?_); rintro r w' ⟨rfl, hw⟩; replace hw := hw.symm; subst hw)
          | (go_at_call 129; (with_reducible refine (P3.out _).mono ?_); rintro r w' ⟨rfl, hw⟩; replace hw := hw.symm; subst hw)
          | (go_at_call 29; (with_reducible refine (W1.out _).mono ?_); rintro r w' ⟨rfl, hw⟩; subst hw)
          | (go_at_call 29; (with_reducible refine (W2.out _).mono ?_); rintro r w' ⟨rfl, hw⟩; subst hw)
          | (go_at_call 29; (with_reducible refine (W3.out _).mono ?_); rintro r w' ⟨rfl, hw⟩; subst hw)
          | (go_at_call 126; (with_reducible refine (T.out _).mono ?_); rintro r w2 ⟨rfl, h2⟩; have hB2 := Lib.hid (hB.out.trans (h2.mono hB.out.size)); have hE2 := Lib.hid (hE.out.below h2 hE.out.lt); clear h2; obtain ⟨c0, c1, c2, c3, c4, c5, c6, c7, c8, c9, c10, c11, c12, c13, c14⟩ := id hE2.out)
          | fail)
        go_ret
        exact ⟨by first | rfl | simp, hB.out⟩
      | true =>
        cases m2 with
        | false =>
          clear HBAD
          go_wp2_with (first
            | (go_at_call 29; (with_reducible refine (CW.out _).mono ?_); rintro r w' ⟨rfl, hw⟩; subst hw)
            | (go_at_call 129; (with_reducible refine (P0.out _).mono ?_); rintro r w' ⟨rfl, hw⟩; replace hw := hw.symm; subst hw)
            | (go_at_call 129; (with_reducible refine (P1.out _).mono ?_); rintro r w' ⟨rfl, hw⟩; replace hw := hw.symm; subst hw)
            | (go_at_call 129; (with_reducible refine (P2.out _).mono ?_); rintro r w' ⟨rfl, hw⟩; replace hw := hw.symm; subst hw)
            | (go_at_call 129; (with_reducible refine (P3.out _).mono ?_); rintro r w' ⟨rfl, hw⟩; replace hw := hw.symm; subst hw)
            | (go_at_call 29; (with_reducible refine (W1.out _).mono ?_); rintro r w' ⟨rfl, hw⟩; subst hw)
            | (go_at_call 29; (with_reducible refine (W2.out _).mono ?_); rintro r w' ⟨rfl, hw⟩; subst hw)
            | (go_at_call 29; (with_reducible refine (W3.out _).mono ?_); rintro r w' ⟨rfl, hw⟩; subst hw)
            | (go_at_call 126; (with_reducible refine (T.out _).mono ?_); rintro r w2 ⟨rfl, h2⟩; have hB2 := Lib.hid (hB.out.trans (h2.mono hB.out.size)); have hE2 := Lib.hid (hE.out.below h2 hE.out.lt); clear h2; obtain ⟨c0, c1, c2, c3, c4, c5, c6, c7, c8, c9, c10, c11, c12, c13, c14⟩ := id hE2.out)
            | fail)
          go_ret
          exact ⟨by first | rfl | simp, hB.out⟩
        | true =>
          cases m3 with
          | false =>
            clear HBAD
            go_wp2_with (first
              | (go_at_call 29; (with_reducible refine (CW.out _).mono ?_); rintro r w' ⟨rfl, hw⟩; subst hw)
              | (go_at_call 129; (with_reducible refine (P0.out _).mono ?_); rintro r w' ⟨rfl, hw⟩; replace hw := hw.symm; subst hw)
              | (go_at_call 129; (with_reducible refine (P1.out _).mono ?_); rintro r w' ⟨rfl, hw⟩; replace hw := hw.symm; subst hw)
              | (go_at_call 129; (with_reducible refine (P2.out _).mono ?_); rintro r w' ⟨rfl, hw⟩; replace hw := hw.symm; subst hw)
              | (go_at_call 129; (with_reducible refine (P3.out _).mono ?_); rintro r w' ⟨rfl, hw⟩; replace hw := hw.symm; subst hw)
              | (go_at_call 29; (with_reducible refine (W1.out _).mono ?_); rintro r w' ⟨rfl, hw⟩; subst hw)
              | (go_at_call 29; (with_reducible refine (W2.out _).mono ?_); rintro r w' ⟨rfl, hw⟩; subst hw)
              | (go_at_call 29; (with_reducible refine (W3.out _).mono ?_); rintro r w' ⟨rfl, hw⟩; subst hw)
              | (go_at_call 126; (with_reducible refine (T.out _).mono ?_); rintro r w2 ⟨rfl, h2⟩; have hB2 := Lib.hid (hB.out.trans (h2.mono hB.out.size)); have hE2 := Lib.hid (hE.out.below h2 hE.out.lt); clear h2; obtain ⟨c0, c1, c2, c3, c4, c5, c6, c7, c8, c9, c10, c11, c12, c13, c14⟩ := id hE2.out)
              | fail)
            go_ret
            exact ⟨by first | rfl | simp, hB.out⟩
          | true =>
            cases tR with
            | false =>
              clear HBAD
              go_wp2_with (first
                | (go_at_call 29; (with_reducible refine (CW.out _).mono ?_); rintro r w' ⟨rfl, hw⟩; subst hw)
                | (go_at_call 129; (with_reducible refine (P0.out _).mono ?_); rintro r w' ⟨rfl, hw⟩; replace hw := hw.symm; subst hw)
                | (go_at_call 129; (with_reducible refine (P1.out _).mono ?_); rintro r w' ⟨rfl, hw⟩; replace hw := hw.symm; subst hw)
                | (go_at_call 129; (with_reducible refine (P2.out _).mono ?_); rintro r w' ⟨rfl, hw⟩; replace hw := hw.symm; subst hw)
                | (go_at_call 129; (with_reducible refine (P3.out _).mono ?_); rintro r w' ⟨rfl, hw⟩; replace hw := hw.symm; subst hw)
                | (go_at_call 29; (with_reducible refine (W1.out _).mono ?_); rintro r w' ⟨rfl, hw⟩; subst hw)
                | (go_at_call 29; (with_reducible refine (W2.out _).mono ?_); rintro r w' ⟨rfl, hw⟩; subst hw)
                | (go_at_call 29; (with_reducible refine (W3.out _).mono ?_); rintro r w' ⟨rfl, hw⟩; subst hw)
                | (go_at_call 126; (with_reducible refine (T.out _).mono ?_); rintro r w2 ⟨rfl, h2⟩; have hB2 := Lib.hid (hB.out.trans (h2.mono hB.out.size)); have hE2 := Lib.hid (hE.out.below h2 hE.out.lt); clear h2; obtain ⟨c0, c1, c2, c3, c4, c5, c6, c7, c8, c9, c10, c11, c12, c13, c14⟩ := id hE2.out)
                | fail)
              go_ret
              exact ⟨by first | rfl | simp, hB2.out⟩
            | true =>
              exact absurd HBAD.out (by simp)
set_option maxRecDepth 100000 in
set_option maxHeartbeats 40000000 in
theorem refRight_c (e : EntL) (ad : Option Addr) (cap : Nat) (ho : EntOk e) (K b0 b1 b4 b5 b6 b7 m1 m2 m3 tR L D bl mj mn x48 m5 sp mr z0 dE mE eqd : Bool) (w : World) (hM : PiecesAt w ad e.map)
    (hK : decide (48 ≤ (e.kind.toNat : Int) ∧ (e.kind.toNat : Int) ≤ 54) = K) (hb0 : decide (e.name = []) = b0) (hb1 : endsS e.name = b1) (hb4 : txtOk e.name 120 = b4) (hb5 : txtOk e.link 120 = b5) (hb6 : txtOk e.user 32 = b6) (hb7 : txtOk e.group 32 = b7)
    (hm1 : fitsI e.mode 4095 = m1) (hm2 : fitsI e.uid 1099511627775 = m2) (hm3 : fitsI e.gid 1099511627775 = m3) (htR : St.rightB e.sec e.nano = tR) (hL : isLinkB e.kind = L) (hD : isDevB e.kind = D) (hbl : decide (e.link = []) = bl)
    (hmj : fitsI e.major (2097151 * (if D then 1 else 0)) = mj) (hmn : fitsI e.minor (2097151 * (if D then 1 else 0)) = mn) (hx : ((e.kind.toNat : Int) == 48) = x48) (hm5 : fitsI e.size 4000 = m5) (hsp : sparseE e = sp) (hmr : mapRight e.map e.size = mr)
    (hz0 : (e.size == 0) = z0) (hdE : decide (e.data = []) = dE) (hmE : ((e.map.length : Int) == 0) = mE) (heqd : (sizeF 0 e.map == (e.data.length : Int)) = eqd) (hok : K = true ∧ b0 = false ∧ b1 = false ∧ b4 = true ∧ b5 = true ∧ b6 = true ∧ b7 = true ∧ m1 = true ∧ m2 = true ∧ m3 = true ∧ tR = true) (hbad : L = bl) :
    Calls Tryz.prog 76 #[entV e (.slice ad e.map.length cap)] w fun r w' => r = .returned (.bool (K && (!b0 && (!b1 && (b4 && (b5 && (b6 && (b7 && (m1 && (m2 && (m3 && (tR && ((L != bl) && (mj && (mn && endF x48 m5 sp mr eqd z0 dE mE))))))))))))))) ∧ Below w.heap.size w w' := by
  have z := ho.texts
  have HOK := Lib.hid hok
  clear hok
  have HBAD := Lib.hid hbad
  clear hbad
  have hr := reachBytes_lt
  have s0 := mkS_size e.name
  have hn : (e.name.length : Int) ≤ 200000000000000 := by have := z.1; omega
  have s13 := mkS_size e.data
  have hsz : i64 e.size := ho.ints.2.2.2.1
  have hwr := wrap_u8 e.kind
  have e0 := emp_dec e.name
  have e8 := emp_dec e.link
  have e13 := emp_dec e.data
  rw [hb0] at e0
  rw [hbl] at e8
  rw [hdE] at e13
  have y49 : ((e.kind.toNat : Int) == 49) = (e.kind == 49) := u8_at e.kind 49 (by omega)
  have y50 : ((e.kind.toNat : Int) == 50) = (e.kind == 50) := u8_at e.kind 50 (by omega)
  have y51 : ((e.kind.toNat : Int) == 51) = (e.kind == 51) := u8_at e.kind 51 (by omega)
  have y52 : ((e.kind.toNat : Int) == 52) = (e.kind == 52) := u8_at e.kind 52 (by omega)
  unfold isLinkB at hL
  unfold isDevB at hD
  generalize (e.kind == 49) = x49 at *
  generalize (e.kind == 50) = x50 at *
  generalize (e.kind == 51) = x51 at *
  generalize (e.kind == 52) = x52 at *
  have IX : b0 = false → ∃ c : UInt8, 1 ≤ (e.name.length : Int) ∧ ((c.toNat : Int) == 47) = b1 ∧ ∀ w, (Instr.index 9 (.string (mkS e.name)) (.int .i64 ((e.name.length : Int) - 1))).run Tryz.prog w = .ok (.int .u8 (c.toNat : Int)) w := fun h => by
    subst h
    have hne : e.name ≠ [] := of_decide_eq_false hb0
    obtain ⟨c, h1, h2⟩ := last_index e.name hne
    have hp : 1 ≤ e.name.length := List.length_pos_iff.2 hne
    refine ⟨c, by omega, by rw [show ((c.toNat : Int) == 47) = (c == 47) from u8_at c 47 (by omega), h2, hb1], fun w => mkS_index e.name _ c (by omega) (by rw [show ((e.name.length : Int) - 1).toNat = e.name.length - 1 by omega]; exact h1) w⟩
  have hE := Lib.hid (EntAt.new w e (.slice ad e.map.length cap) 28)
  have hB := Lib.hid (below_alloc1 w (.cells (entC e (.slice ad e.map.length cap)) 28))
  have HM := Lib.hid (fun W (h : Below w.heap.size w W) => hM.below h)
  have CW := Lib.hid (fun w => within_any (e.kind.toNat : Int) 48 54 w)
  have P0 := Lib.hid (fun w => refPlain_int e.name 120 120 rfl (reach_fits z.1) w)
  have P1 := Lib.hid (fun w => refPlain_int e.link 120 120 rfl (reach_fits z.2.1) w)
  have P2 := Lib.hid (fun w => refPlain_int e.user 32 32 rfl (reach_fits z.2.2.1) w)
  have P3 := Lib.hid (fun w => refPlain_int e.group 32 32 rfl (reach_fits z.2.2.2.1) w)
  have W1 := Lib.hid (fun w => within_any e.mode 0 4095 w)
  have W2 := Lib.hid (fun w => within_any e.uid 0 1099511627775 w)
  have W3 := Lib.hid (fun w => within_any e.gid 0 1099511627775 w)
  have W4 := Lib.hid (fun w => within_any e.major 0 (2097151 * (if D then 1 else 0)) w)
  have W5 := Lib.hid (fun w => within_any e.minor 0 (2097151 * (if D then 1 else 0)) w)
  have W6 := Lib.hid (fun w => within_any e.size 0 4000 w)
  have T := Lib.hid (fun w => St.refRight_any e.sec e.nano w)
  have O := Lib.hid (fun w => one_any D w)
  have CP := Lib.hid (fun w => refSparse_any e ad cap (reach_fits z.2.2.2.2) w)
  have CR := Lib.hid (fun W (h : Below w.heap.size w W) => rightB_any ad cap e.map e.size hsz ho.map ho.fits W (HM.out W h))
  have CZ := Lib.hid (fun W (h : Below w.heap.size w W) => sizeB_any ad cap e.map ho.map ho.fits W (HM.out W h))
  rw [hK] at CW
  rw [hb4] at P0
  rw [hb5] at P1
  rw [hb6] at P2
  rw [hb7] at P3
  rw [← fitsI_dec, hm1] at W1
  rw [← fitsI_dec, hm2] at W2
  rw [← fitsI_dec, hm3] at W3
  rw [← fitsI_dec, hmj] at W4
  rw [← fitsI_dec, hmn] at W5
  rw [← fitsI_dec, hm5] at W6
  rw [htR] at T
  rw [hsp] at CP
  rw [hmr] at CR
  clear ho hM z hK hb0 hb1 hb4 hb5 hb6 hb7 hm1 hm2 hm3 htR hbl hmj hmn hm5 hsp hmr hdE
  generalize sizeF 0 e.map = S at *
  unfold entC at hB hE
  unfold entV at CP ⊢
  generalize e.map.length = n at *
  have hD1 : (2097151 : Int) * (if D then 1 else 0) = (if D then 2097151 else 0) := by cases D <;> rfl
  go_enter Tryz.func76, Tryz.ntmps76
  go_upto_region 1 with fail
  go_cut [3] (fun s3 wx => s3 = .bool L ∧ wx = w.alloc (.cells #[.string (mkS e.name), .int .u8 (e.kind.toNat : Int), .int .i64 e.mode, .int .i64 e.uid, .int .i64 e.gid, .int .i64 e.size, .int .i64 e.sec, .int .i64 e.nano, .string (mkS e.link), .string (mkS e.user), .string (mkS e.group), .int .i64 e.major, .int .i64 e.minor, .string (mkS e.data), .slice ad n cap] 28))
  case first =>
    subst hL
    cases x49 <;> cases x50
    all_goals
      go_wp2
      go_meet
      exact ⟨rfl, rfl⟩
  case rest =>
    obtain ⟨rfl, rfl⟩ := hcut
    go_upto_region 2 with fail
    go_cut [4] (fun s4 wx => s4 = .bool D ∧ wx = w.alloc (.cells #[.string (mkS e.name), .int .u8 (e.kind.toNat : Int), .int .i64 e.mode, .int .i64 e.uid, .int .i64 e.gid, .int .i64 e.size, .int .i64 e.sec, .int .i64 e.nano, .string (mkS e.link), .string (mkS e.user), .string (mkS e.group), .int .i64 e.major, .int .i64 e.minor, .string (mkS e.data), .slice ad n cap] 28))
    case first =>
      subst hD
      cases x51 <;> cases x52
      all_goals
        go_wp2
        go_meet
        exact ⟨rfl, rfl⟩
    case rest =>
      obtain ⟨rfl, rfl⟩ := hcut
      clear y49 y50 y51 y52 hL hD hD1
      obtain ⟨q, hq⟩ : ∃ q : Int, (if D then 1 else 0 : Int) = q := ⟨_, rfl⟩
      have hq1 : 0 ≤ q ∧ q ≤ 1 := by rw [← hq]; cases D <;> simp
      rw [hq] at O W4 W5
      clear hq
      obtain ⟨hq0, hq1⟩ := hq1
      obtain ⟨rfl, rfl, rfl, rfl, rfl, rfl, rfl, rfl, rfl, rfl, rfl⟩ := HOK.out
      clear HOK
      obtain ⟨c, hp1, hc, hix⟩ := IX rfl
      clear IX
      obtain rfl := HBAD.out
      clear HBAD
      cases L
      all_goals
        go_wp2_with (first
          | (go_at_call 29; (with_reducible refine (CW.out _).mono ?_); rintro r w' ⟨rfl, hw⟩; subst hw)
          | (go_at_call 129; (with_reducible refine (P0.out _).mono ?_); rintro r w' ⟨rfl, hw⟩; replace hw := hw.symm; subst hw)
          | (go_at_call 129; (with_reducible refine (P1.out _).mono ?_); rintro r w' ⟨rfl, hw⟩; replace hw := hw.symm; subst hw)
          | (go_at_call 129; (with_reducible refine (P2.out _).mono ?_); rintro r w' ⟨rfl, hw⟩; replace hw := hw.symm; subst hw)
          | (go_at_call 129; (with_reducible refine (P3.out _).mono ?_); rintro r w' ⟨rfl, hw⟩; replace hw := hw.symm; subst hw)
          | (go_at_call 29; (with_reducible refine (W1.out _).mono ?_); rintro r w' ⟨rfl, hw⟩; subst hw)
          | (go_at_call 29; (with_reducible refine (W2.out _).mono ?_); rintro r w' ⟨rfl, hw⟩; subst hw)
          | (go_at_call 29; (with_reducible refine (W3.out _).mono ?_); rintro r w' ⟨rfl, hw⟩; subst hw)
          | (go_at_call 126; (with_reducible refine (T.out _).mono ?_); rintro r w2 ⟨rfl, h2⟩; have hB2 := Lib.hid (hB.out.trans (h2.mono hB.out.size)); have hE2 := Lib.hid (hE.out.below h2 hE.out.lt); clear h2; obtain ⟨c0, c1, c2, c3, c4, c5, c6, c7, c8, c9, c10, c11, c12, c13, c14⟩ := id hE2.out)
          | fail)
        go_ret
        exact ⟨by first | rfl | simp, hB2.out⟩
set_option maxRecDepth 100000 in
set_option maxHeartbeats 40000000 in
theorem refRight_d (e : EntL) (ad : Option Addr) (cap : Nat) (ho : EntOk e) (K b0 b1 b4 b5 b6 b7 m1 m2 m3 tR L D bl mj mn x48 m5 sp mr z0 dE mE eqd : Bool) (w : World) (hM : PiecesAt w ad e.map)
    (hK : decide (48 ≤ (e.kind.toNat : Int) ∧ (e.kind.toNat : Int) ≤ 54) = K) (hb0 : decide (e.name = []) = b0) (hb1 : endsS e.name = b1) (hb4 : txtOk e.name 120 = b4) (hb5 : txtOk e.link 120 = b5) (hb6 : txtOk e.user 32 = b6) (hb7 : txtOk e.group 32 = b7)
    (hm1 : fitsI e.mode 4095 = m1) (hm2 : fitsI e.uid 1099511627775 = m2) (hm3 : fitsI e.gid 1099511627775 = m3) (htR : St.rightB e.sec e.nano = tR) (hL : isLinkB e.kind = L) (hD : isDevB e.kind = D) (hbl : decide (e.link = []) = bl)
    (hmj : fitsI e.major (2097151 * (if D then 1 else 0)) = mj) (hmn : fitsI e.minor (2097151 * (if D then 1 else 0)) = mn) (hx : ((e.kind.toNat : Int) == 48) = x48) (hm5 : fitsI e.size 4000 = m5) (hsp : sparseE e = sp) (hmr : mapRight e.map e.size = mr)
    (hz0 : (e.size == 0) = z0) (hdE : decide (e.data = []) = dE) (hmE : ((e.map.length : Int) == 0) = mE) (heqd : (sizeF 0 e.map == (e.data.length : Int)) = eqd) (hok : K = true ∧ b0 = false ∧ b1 = false ∧ b4 = true ∧ b5 = true ∧ b6 = true ∧ b7 = true ∧ m1 = true ∧ m2 = true ∧ m3 = true ∧ tR = true ∧ L = !bl) (hbad : mj = false) :
    Calls Tryz.prog 76 #[entV e (.slice ad e.map.length cap)] w fun r w' => r = .returned (.bool (K && (!b0 && (!b1 && (b4 && (b5 && (b6 && (b7 && (m1 && (m2 && (m3 && (tR && ((L != bl) && (mj && (mn && endF x48 m5 sp mr eqd z0 dE mE))))))))))))))) ∧ Below w.heap.size w w' := by
  have z := ho.texts
  have HOK := Lib.hid hok
  clear hok
  have HBAD := Lib.hid hbad
  clear hbad
  have hr := reachBytes_lt
  have s0 := mkS_size e.name
  have hn : (e.name.length : Int) ≤ 200000000000000 := by have := z.1; omega
  have s13 := mkS_size e.data
  have hsz : i64 e.size := ho.ints.2.2.2.1
  have hwr := wrap_u8 e.kind
  have e0 := emp_dec e.name
  have e8 := emp_dec e.link
  have e13 := emp_dec e.data
  rw [hb0] at e0
  rw [hbl] at e8
  rw [hdE] at e13
  have y49 : ((e.kind.toNat : Int) == 49) = (e.kind == 49) := u8_at e.kind 49 (by omega)
  have y50 : ((e.kind.toNat : Int) == 50) = (e.kind == 50) := u8_at e.kind 50 (by omega)
  have y51 : ((e.kind.toNat : Int) == 51) = (e.kind == 51) := u8_at e.kind 51 (by omega)
  have y52 : ((e.kind.toNat : Int) == 52) = (e.kind == 52) := u8_at e.kind 52 (by omega)
  unfold isLinkB at hL
  unfold isDevB at hD
  generalize (e.kind == 49) = x49 at *
  generalize (e.kind == 50) = x50 at *
  generalize (e.kind == 51) = x51 at *
  generalize (e.kind == 52) = x52 at *
  have IX : b0 = false → ∃ c : UInt8, 1 ≤ (e.name.length : Int) ∧ ((c.toNat : Int) == 47) = b1 ∧ ∀ w, (Instr.index 9 (.string (mkS e.name)) (.int .i64 ((e.name.length : Int) - 1))).run Tryz.prog w = .ok (.int .u8 (c.toNat : Int)) w := fun h => by
    subst h
    have hne : e.name ≠ [] := of_decide_eq_false hb0
    obtain ⟨c, h1, h2⟩ := last_index e.name hne
    have hp : 1 ≤ e.name.length := List.length_pos_iff.2 hne
    refine ⟨c, by omega, by rw [show ((c.toNat : Int) == 47) = (c == 47) from u8_at c 47 (by omega), h2, hb1], fun w => mkS_index e.name _ c (by omega) (by rw [show ((e.name.length : Int) - 1).toNat = e.name.length - 1 by omega]; exact h1) w⟩
  have hE := Lib.hid (EntAt.new w e (.slice ad e.map.length cap) 28)
  have hB := Lib.hid (below_alloc1 w (.cells (entC e (.slice ad e.map.length cap)) 28))
  have HM := Lib.hid (fun W (h : Below w.heap.size w W) => hM.below h)
  have CW := Lib.hid (fun w => within_any (e.kind.toNat : Int) 48 54 w)
  have P0 := Lib.hid (fun w => refPlain_int e.name 120 120 rfl (reach_fits z.1) w)
  have P1 := Lib.hid (fun w => refPlain_int e.link 120 120 rfl (reach_fits z.2.1) w)
  have P2 := Lib.hid (fun w => refPlain_int e.user 32 32 rfl (reach_fits z.2.2.1) w)
  have P3 := Lib.hid (fun w => refPlain_int e.group 32 32 rfl (reach_fits z.2.2.2.1) w)
  have W1 := Lib.hid (fun w => within_any e.mode 0 4095 w)
  have W2 := Lib.hid (fun w => within_any e.uid 0 1099511627775 w)
  have W3 := Lib.hid (fun w => within_any e.gid 0 1099511627775 w)
  have W4 := Lib.hid (fun w => within_any e.major 0 (2097151 * (if D then 1 else 0)) w)
  have W5 := Lib.hid (fun w => within_any e.minor 0 (2097151 * (if D then 1 else 0)) w)
  have W6 := Lib.hid (fun w => within_any e.size 0 4000 w)
  have T := Lib.hid (fun w => St.refRight_any e.sec e.nano w)
  have O := Lib.hid (fun w => one_any D w)
  have CP := Lib.hid (fun w => refSparse_any e ad cap (reach_fits z.2.2.2.2) w)
  have CR := Lib.hid (fun W (h : Below w.heap.size w W) => rightB_any ad cap e.map e.size hsz ho.map ho.fits W (HM.out W h))
  have CZ := Lib.hid (fun W (h : Below w.heap.size w W) => sizeB_any ad cap e.map ho.map ho.fits W (HM.out W h))
  rw [hK] at CW
  rw [hb4] at P0
  rw [hb5] at P1
  rw [hb6] at P2
  rw [hb7] at P3
  rw [← fitsI_dec, hm1] at W1
  rw [← fitsI_dec, hm2] at W2
  rw [← fitsI_dec, hm3] at W3
  rw [← fitsI_dec, hmj] at W4
  rw [← fitsI_dec, hmn] at W5
  rw [← fitsI_dec, hm5] at W6
  rw [htR] at T
  rw [hsp] at CP
  rw [hmr] at CR
  clear ho hM z hK hb0 hb1 hb4 hb5 hb6 hb7 hm1 hm2 hm3 htR hbl hmj hmn hm5 hsp hmr hdE
  generalize sizeF 0 e.map = S at *
  unfold entC at hB hE
  unfold entV at CP ⊢
  generalize e.map.length = n at *
  have hD1 : (2097151 : Int) * (if D then 1 else 0) = (if D then 2097151 else 0) := by cases D <;> rfl
  go_enter Tryz.func76, Tryz.ntmps76
  go_upto_region 1 with fail
  go_cut [3] (fun s3 wx => s3 = .bool L ∧ wx = w.alloc (.cells #[.string (mkS e.name), .int .u8 (e.kind.toNat : Int), .int .i64 e.mode, .int .i64 e.uid, .int .i64 e.gid, .int .i64 e.size, .int .i64 e.sec, .int .i64 e.nano, .string (mkS e.link), .string (mkS e.user), .string (mkS e.group), .int .i64 e.major, .int .i64 e.minor, .string (mkS e.data), .slice ad n cap] 28))
  case first =>
    subst hL
    cases x49 <;> cases x50
    all_goals
      go_wp2
      go_meet
      exact ⟨rfl, rfl⟩
  case rest =>
    obtain ⟨rfl, rfl⟩ := hcut
    go_upto_region 2 with fail
    go_cut [4] (fun s4 wx => s4 = .bool D ∧ wx = w.alloc (.cells #[.string (mkS e.name), .int .u8 (e.kind.toNat : Int), .int .i64 e.mode, .int .i64 e.uid, .int .i64 e.gid, .int .i64 e.size, .int .i64 e.sec, .int .i64 e.nano, .string (mkS e.link), .string (mkS e.user), .string (mkS e.group), .int .i64 e.major, .int .i64 e.minor, .string (mkS e.data), .slice ad n cap] 28))
    case first =>
      subst hD
      cases x51 <;> cases x52
      all_goals
        go_wp2
        go_meet
        exact ⟨rfl, rfl⟩
    case rest =>
      obtain ⟨rfl, rfl⟩ := hcut
      clear y49 y50 y51 y52 hL hD hD1
      obtain ⟨q, hq⟩ : ∃ q : Int, (if D then 1 else 0 : Int) = q := ⟨_, rfl⟩
      have hq1 : 0 ≤ q ∧ q ≤ 1 := by rw [← hq]; cases D <;> simp
      rw [hq] at O W4 W5
      clear hq
      obtain ⟨hq0, hq1⟩ := hq1
      obtain ⟨rfl, rfl, rfl, rfl, rfl, rfl, rfl, rfl, rfl, rfl, rfl, rfl⟩ := HOK.out
      clear HOK
      obtain ⟨c, hp1, hc, hix⟩ := IX rfl
      clear IX
      obtain rfl := HBAD.out
      clear HBAD
      cases bl
      all_goals
        go_wp2_with (first
          | (go_at_call 29; (with_reducible refine (CW.out _).mono ?_); rintro r w' ⟨rfl, hw⟩; subst hw)
          | (go_at_call 129; (with_reducible refine (P0.out _).mono ?_); rintro r w' ⟨rfl, hw⟩; replace hw := hw.symm; subst hw)
          | (go_at_call 129; (with_reducible refine (P1.out _).mono ?_); rintro r w' ⟨rfl, hw⟩; replace hw := hw.symm; subst hw)
          | (go_at_call 129; (with_reducible refine (P2.out _).mono ?_); rintro r w' ⟨rfl, hw⟩; replace hw := hw.symm; subst hw)
          | (go_at_call 129; (with_reducible refine (P3.out _).mono ?_); rintro r w' ⟨rfl, hw⟩; replace hw := hw.symm; subst hw)
          | (go_at_call 29; (with_reducible refine (W1.out _).mono ?_); rintro r w' ⟨rfl, hw⟩; subst hw)
          | (go_at_call 29; (with_reducible refine (W2.out _).mono ?_); rintro r w' ⟨rfl, hw⟩; subst hw)
          | (go_at_call 29; (with_reducible refine (W3.out _).mono ?_); rintro r w' ⟨rfl, hw⟩; subst hw)
          | (go_at_call 126; (with_reducible refine (T.out _).mono ?_); rintro r w2 ⟨rfl, h2⟩; have hB2 := Lib.hid (hB.out.trans (h2.mono hB.out.size)); have hE2 := Lib.hid (hE.out.below h2 hE.out.lt); clear h2; obtain ⟨c0, c1, c2, c3, c4, c5, c6, c7, c8, c9, c10, c11, c12, c13, c14⟩ := id hE2.out)
          | fail)
        have v0 := fun d os => cell_regrown c0 d os
        have v1 := fun d os => cell_regrown c1 d os
        have v2 := fun d os => cell_regrown c2 d os
        have v3 := fun d os => cell_regrown c3 d os
        have v4 := fun d os => cell_regrown c4 d os
        have v5 := fun d os => cell_regrown c5 d os
        have v6 := fun d os => cell_regrown c6 d os
        have v7 := fun d os => cell_regrown c7 d os
        have v8 := fun d os => cell_regrown c8 d os
        have v9 := fun d os => cell_regrown c9 d os
        have v10 := fun d os => cell_regrown c10 d os
        have v11 := fun d os => cell_regrown c11 d os
        have v12 := fun d os => cell_regrown c12 d os
        have v13 := fun d os => cell_regrown c13 d os
        have v14 := fun d os => cell_regrown c14 d os
        refine wp_region_quiet_below (by kernel_rfl) (by kernel_rfl) ?_
        repeat (go_big_quiet_step (first
          | (go_at_call 125; with_reducible exact Calls.regrown_of (regrown_eq (O.out _)))
          | (go_at_call 29; with_reducible exact Calls.regrown_of (regrown_eq2 (W4.out _)))))
        refine wpQuiet_nil ?_
        intro _ hw'
        obtain ⟨⟨dq, osq⟩, hw''⟩ := hw'
        subst hw''
        have hB3 := Lib.hid (hB2.out.trans ((below_regrown _ dq osq).mono hB2.out.size))
        have hE3 := Lib.hid (hE2.out.regrown dq osq)
        dsimp only at *
        generalize Sort.grow (redrawn _ dq) osq = w3 at *
        clear v0 v1 v2 v3 v4 v5 v6 v7 v8 v9 v10 v11 v12 v13 v14
        clear c0 c1 c2 c3 c4 c5 c6 c7 c8 c9 c10 c11 c12 c13 c14
        obtain ⟨c0, c1, c2, c3, c4, c5, c6, c7, c8, c9, c10, c11, c12, c13, c14⟩ := id hE3.out
        go_wp2_with fail
        go_ret
        exact ⟨by first | rfl | simp, hB3.out⟩
set_option maxRecDepth 100000 in
set_option maxHeartbeats 40000000 in
theorem refRight_e (e : EntL) (ad : Option Addr) (cap : Nat) (ho : EntOk e) (K b0 b1 b4 b5 b6 b7 m1 m2 m3 tR L D bl mj mn x48 m5 sp mr z0 dE mE eqd : Bool) (w : World) (hM : PiecesAt w ad e.map)
    (hK : decide (48 ≤ (e.kind.toNat : Int) ∧ (e.kind.toNat : Int) ≤ 54) = K) (hb0 : decide (e.name = []) = b0) (hb1 : endsS e.name = b1) (hb4 : txtOk e.name 120 = b4) (hb5 : txtOk e.link 120 = b5) (hb6 : txtOk e.user 32 = b6) (hb7 : txtOk e.group 32 = b7)
    (hm1 : fitsI e.mode 4095 = m1) (hm2 : fitsI e.uid 1099511627775 = m2) (hm3 : fitsI e.gid 1099511627775 = m3) (htR : St.rightB e.sec e.nano = tR) (hL : isLinkB e.kind = L) (hD : isDevB e.kind = D) (hbl : decide (e.link = []) = bl)
    (hmj : fitsI e.major (2097151 * (if D then 1 else 0)) = mj) (hmn : fitsI e.minor (2097151 * (if D then 1 else 0)) = mn) (hx : ((e.kind.toNat : Int) == 48) = x48) (hm5 : fitsI e.size 4000 = m5) (hsp : sparseE e = sp) (hmr : mapRight e.map e.size = mr)
    (hz0 : (e.size == 0) = z0) (hdE : decide (e.data = []) = dE) (hmE : ((e.map.length : Int) == 0) = mE) (heqd : (sizeF 0 e.map == (e.data.length : Int)) = eqd) (hok : K = true ∧ b0 = false ∧ b1 = false ∧ b4 = true ∧ b5 = true ∧ b6 = true ∧ b7 = true ∧ m1 = true ∧ m2 = true ∧ m3 = true ∧ tR = true ∧ L = !bl ∧ mj = true) (hbad : mn = false) :
    Calls Tryz.prog 76 #[entV e (.slice ad e.map.length cap)] w fun r w' => r = .returned (.bool (K && (!b0 && (!b1 && (b4 && (b5 && (b6 && (b7 && (m1 && (m2 && (m3 && (tR && ((L != bl) && (mj && (mn && endF x48 m5 sp mr eqd z0 dE mE))))))))))))))) ∧ Below w.heap.size w w' := by
  have z := ho.texts
  have HOK := Lib.hid hok
  clear hok
  have HBAD := Lib.hid hbad
  clear hbad
  have hr := reachBytes_lt
  have s0 := mkS_size e.name
  have hn : (e.name.length : Int) ≤ 200000000000000 := by have := z.1; omega
  have s13 := mkS_size e.data
  have hsz : i64 e.size := ho.ints.2.2.2.1
  have hwr := wrap_u8 e.kind
  have e0 := emp_dec e.name
  have e8 := emp_dec e.link
  have e13 := emp_dec e.data
  rw [hb0] at e0
  rw [hbl] at e8
  rw [hdE] at e13
  have y49 : ((e.kind.toNat : Int) == 49) = (e.kind == 49) := u8_at e.kind 49 (by omega)
  have y50 : ((e.kind.toNat : Int) == 50) = (e.kind == 50) := u8_at e.kind 50 (by omega)
  have y51 : ((e.kind.toNat : Int) == 51) = (e.kind == 51) := u8_at e.kind 51 (by omega)
  have y52 : ((e.kind.toNat : Int) == 52) = (e.kind == 52) := u8_at e.kind 52 (by omega)
  unfold isLinkB at hL
  unfold isDevB at hD
  generalize (e.kind == 49) = x49 at *
  generalize (e.kind == 50) = x50 at *
  generalize (e.kind == 51) = x51 at *
  generalize (e.kind == 52) = x52 at *
  have IX : b0 = false → ∃ c : UInt8, 1 ≤ (e.name.length : Int) ∧ ((c.toNat : Int) == 47) = b1 ∧ ∀ w, (Instr.index 9 (.string (mkS e.name)) (.int .i64 ((e.name.length : Int) - 1))).run Tryz.prog w = .ok (.int .u8 (c.toNat : Int)) w := fun h => by
    subst h
    have hne : e.name ≠ [] := of_decide_eq_false hb0
    obtain ⟨c, h1, h2⟩ := last_index e.name hne
    have hp : 1 ≤ e.name.length := List.length_pos_iff.2 hne
    refine ⟨c, by omega, by rw [show ((c.toNat : Int) == 47) = (c == 47) from u8_at c 47 (by omega), h2, hb1], fun w => mkS_index e.name _ c (by omega) (by rw [show ((e.name.length : Int) - 1).toNat = e.name.length - 1 by omega]; exact h1) w⟩
  have hE := Lib.hid (EntAt.new w e (.slice ad e.map.length cap) 28)
  have hB := Lib.hid (below_alloc1 w (.cells (entC e (.slice ad e.map.length cap)) 28))
  have HM := Lib.hid (fun W (h : Below w.heap.size w W) => hM.below h)
  have CW := Lib.hid (fun w => within_any (e.kind.toNat : Int) 48 54 w)
  have P0 := Lib.hid (fun w => refPlain_int e.name 120 120 rfl (reach_fits z.1) w)
  have P1 := Lib.hid (fun w => refPlain_int e.link 120 120 rfl (reach_fits z.2.1) w)
  have P2 := Lib.hid (fun w => refPlain_int e.user 32 32 rfl (reach_fits z.2.2.1) w)
  have P3 := Lib.hid (fun w => refPlain_int e.group 32 32 rfl (reach_fits z.2.2.2.1) w)
  have W1 := Lib.hid (fun w => within_any e.mode 0 4095 w)
  have W2 := Lib.hid (fun w => within_any e.uid 0 1099511627775 w)
  have W3 := Lib.hid (fun w => within_any e.gid 0 1099511627775 w)
  have W4 := Lib.hid (fun w => within_any e.major 0 (2097151 * (if D then 1 else 0)) w)
  have W5 := Lib.hid (fun w => within_any e.minor 0 (2097151 * (if D then 1 else 0)) w)
  have W6 := Lib.hid (fun w => within_any e.size 0 4000 w)
  have T := Lib.hid (fun w => St.refRight_any e.sec e.nano w)
  have O := Lib.hid (fun w => one_any D w)
  have CP := Lib.hid (fun w => refSparse_any e ad cap (reach_fits z.2.2.2.2) w)
  have CR := Lib.hid (fun W (h : Below w.heap.size w W) => rightB_any ad cap e.map e.size hsz ho.map ho.fits W (HM.out W h))
  have CZ := Lib.hid (fun W (h : Below w.heap.size w W) => sizeB_any ad cap e.map ho.map ho.fits W (HM.out W h))
  rw [hK] at CW
  rw [hb4] at P0
  rw [hb5] at P1
  rw [hb6] at P2
  rw [hb7] at P3
  rw [← fitsI_dec, hm1] at W1
  rw [← fitsI_dec, hm2] at W2
  rw [← fitsI_dec, hm3] at W3
  rw [← fitsI_dec, hmj] at W4
  rw [← fitsI_dec, hmn] at W5
  rw [← fitsI_dec, hm5] at W6
  rw [htR] at T
  rw [hsp] at CP
  rw [hmr] at CR
  clear ho hM z hK hb0 hb1 hb4 hb5 hb6 hb7 hm1 hm2 hm3 htR hbl hmj hmn hm5 hsp hmr hdE
  generalize sizeF 0 e.map = S at *
  unfold entC at hB hE
  unfold entV at CP ⊢
  generalize e.map.length = n at *
  have hD1 : (2097151 : Int) * (if D then 1 else 0) = (if D then 2097151 else 0) := by cases D <;> rfl
  go_enter Tryz.func76, Tryz.ntmps76
  go_upto_region 1 with fail
  go_cut [3] (fun s3 wx => s3 = .bool L ∧ wx = w.alloc (.cells #[.string (mkS e.name), .int .u8 (e.kind.toNat : Int), .int .i64 e.mode, .int .i64 e.uid, .int .i64 e.gid, .int .i64 e.size, .int .i64 e.sec, .int .i64 e.nano, .string (mkS e.link), .string (mkS e.user), .string (mkS e.group), .int .i64 e.major, .int .i64 e.minor, .string (mkS e.data), .slice ad n cap] 28))
  case first =>
    subst hL
    cases x49 <;> cases x50
    all_goals
      go_wp2
      go_meet
      exact ⟨rfl, rfl⟩
  case rest =>
    obtain ⟨rfl, rfl⟩ := hcut
    go_upto_region 2 with fail
    go_cut [4] (fun s4 wx => s4 = .bool D ∧ wx = w.alloc (.cells #[.string (mkS e.name), .int .u8 (e.kind.toNat : Int), .int .i64 e.mode, .int .i64 e.uid, .int .i64 e.gid, .int .i64 e.size, .int .i64 e.sec, .int .i64 e.nano, .string (mkS e.link), .string (mkS e.user), .string (mkS e.group), .int .i64 e.major, .int .i64 e.minor, .string (mkS e.data), .slice ad n cap] 28))
    case first =>
      subst hD
      cases x51 <;> cases x52
      all_goals
        go_wp2
        go_meet
        exact ⟨rfl, rfl⟩
    case rest =>
      obtain ⟨rfl, rfl⟩ := hcut
      clear y49 y50 y51 y52 hL hD hD1
      obtain ⟨q, hq⟩ : ∃ q : Int, (if D then 1 else 0 : Int) = q := ⟨_, rfl⟩
      have hq1 : 0 ≤ q ∧ q ≤ 1 := by rw [← hq]; cases D <;> simp
      rw [hq] at O W4 W5
      clear hq
      obtain ⟨hq0, hq1⟩ := hq1
      obtain ⟨rfl, rfl, rfl, rfl, rfl, rfl, rfl, rfl, rfl, rfl, rfl, rfl, rfl⟩ := HOK.out
      clear HOK
      obtain ⟨c, hp1, hc, hix⟩ := IX rfl
      clear IX
      obtain rfl := HBAD.out
      clear HBAD
      cases bl
      all_goals
        go_wp2_with (first
          | (go_at_call 29; (with_reducible refine (CW.out _).mono ?_); rintro r w' ⟨rfl, hw⟩; subst hw)
          | (go_at_call 129; (with_reducible refine (P0.out _).mono ?_); rintro r w' ⟨rfl, hw⟩; replace hw := hw.symm; subst hw)
          | (go_at_call 129; (with_reducible refine (P1.out _).mono ?_); rintro r w' ⟨rfl, hw⟩; replace hw := hw.symm; subst hw)
          | (go_at_call 129; (with_reducible refine (P2.out _).mono ?_); rintro r w' ⟨rfl, hw⟩; replace hw := hw.symm; subst hw)
          | (go_at_call 129; (with_reducible refine (P3.out _).mono ?_); rintro r w' ⟨rfl, hw⟩; replace hw := hw.symm; subst hw)
          | (go_at_call 29; (with_reducible refine (W1.out _).mono ?_); rintro r w' ⟨rfl, hw⟩; subst hw)
          | (go_at_call 29; (with_reducible refine (W2.out _).mono ?_); rintro r w' ⟨rfl, hw⟩; subst hw)
          | (go_at_call 29; (with_reducible refine (W3.out _).mono ?_); rintro r w' ⟨rfl, hw⟩; subst hw)
          | (go_at_call 126; (with_reducible refine (T.out _).mono ?_); rintro r w2 ⟨rfl, h2⟩; have hB2 := Lib.hid (hB.out.trans (h2.mono hB.out.size)); have hE2 := Lib.hid (hE.out.below h2 hE.out.lt); clear h2; obtain ⟨c0, c1, c2, c3, c4, c5, c6, c7, c8, c9, c10, c11, c12, c13, c14⟩ := id hE2.out)
          | fail)
        have v0 := fun d os => cell_regrown c0 d os
        have v1 := fun d os => cell_regrown c1 d os
        have v2 := fun d os => cell_regrown c2 d os
        have v3 := fun d os => cell_regrown c3 d os
        have v4 := fun d os => cell_regrown c4 d os
        have v5 := fun d os => cell_regrown c5 d os
        have v6 := fun d os => cell_regrown c6 d os
        have v7 := fun d os => cell_regrown c7 d os
        have v8 := fun d os => cell_regrown c8 d os
        have v9 := fun d os => cell_regrown c9 d os
        have v10 := fun d os => cell_regrown c10 d os
        have v11 := fun d os => cell_regrown c11 d os
        have v12 := fun d os => cell_regrown c12 d os
        have v13 := fun d os => cell_regrown c13 d os
        have v14 := fun d os => cell_regrown c14 d os
        refine wp_region_quiet_below (by kernel_rfl) (by kernel_rfl) ?_
        repeat (go_big_quiet_step (first
          | (go_at_call 125; with_reducible exact Calls.regrown_of (regrown_eq (O.out _)))
          | (go_at_call 29; with_reducible exact Calls.regrown_of (regrown_eq2 (W4.out _)))))
        refine wpQuiet_nil ?_
        intro _ hw'
        obtain ⟨⟨dq, osq⟩, hw''⟩ := hw'
        subst hw''
        have hB3 := Lib.hid (hB2.out.trans ((below_regrown _ dq osq).mono hB2.out.size))
        have hE3 := Lib.hid (hE2.out.regrown dq osq)
        dsimp only at *
        generalize Sort.grow (redrawn _ dq) osq = w3 at *
        clear v0 v1 v2 v3 v4 v5 v6 v7 v8 v9 v10 v11 v12 v13 v14
        clear c0 c1 c2 c3 c4 c5 c6 c7 c8 c9 c10 c11 c12 c13 c14
        obtain ⟨c0, c1, c2, c3, c4, c5, c6, c7, c8, c9, c10, c11, c12, c13, c14⟩ := id hE3.out
        go_wp2_with fail
        have v0 := fun d os => cell_regrown c0 d os
        have v1 := fun d os => cell_regrown c1 d os
        have v2 := fun d os => cell_regrown c2 d os
        have v3 := fun d os => cell_regrown c3 d os
        have v4 := fun d os => cell_regrown c4 d os
        have v5 := fun d os => cell_regrown c5 d os
        have v6 := fun d os => cell_regrown c6 d os
        have v7 := fun d os => cell_regrown c7 d os
        have v8 := fun d os => cell_regrown c8 d os
        have v9 := fun d os => cell_regrown c9 d os
        have v10 := fun d os => cell_regrown c10 d os
        have v11 := fun d os => cell_regrown c11 d os
        have v12 := fun d os => cell_regrown c12 d os
        have v13 := fun d os => cell_regrown c13 d os
        have v14 := fun d os => cell_regrown c14 d os
        refine wp_region_quiet_below (by kernel_rfl) (by kernel_rfl) ?_
        repeat (go_big_quiet_step (first
          | (go_at_call 125; with_reducible exact Calls.regrown_of (regrown_eq (O.out _)))
          | (go_at_call 29; with_reducible exact Calls.regrown_of (regrown_eq2 (W5.out _)))))
        refine wpQuiet_nil ?_
        intro _ hw'
        obtain ⟨⟨dq, osq⟩, hw''⟩ := hw'
        subst hw''
        have hB4 := Lib.hid (hB3.out.trans ((below_regrown _ dq osq).mono hB3.out.size))
        have hE4 := Lib.hid (hE3.out.regrown dq osq)
        dsimp only at *
        generalize Sort.grow (redrawn _ dq) osq = w4 at *
        clear v0 v1 v2 v3 v4 v5 v6 v7 v8 v9 v10 v11 v12 v13 v14
        clear c0 c1 c2 c3 c4 c5 c6 c7 c8 c9 c10 c11 c12 c13 c14
        obtain ⟨c0, c1, c2, c3, c4, c5, c6, c7, c8, c9, c10, c11, c12, c13, c14⟩ := id hE4.out
        go_wp2_with fail
        go_ret
        exact ⟨by first | rfl | simp, hB4.out⟩
set_option maxRecDepth 100000 in
set_option maxHeartbeats 40000000 in
theorem refRight_ft (e : EntL) (ad : Option Addr) (cap : Nat) (ho : EntOk e) (K b0 b1 b4 b5 b6 b7 m1 m2 m3 tR L D bl mj mn x48 m5 sp mr z0 dE mE eqd : Bool) (w : World) (hM : PiecesAt w ad e.map)
    (hK : decide (48 ≤ (e.kind.toNat : Int) ∧ (e.kind.toNat : Int) ≤ 54) = K) (hb0 : decide (e.name = []) = b0) (hb1 : endsS e.name = b1) (hb4 : txtOk e.name 120 = b4) (hb5 : txtOk e.link 120 = b5) (hb6 : txtOk e.user 32 = b6) (hb7 : txtOk e.group 32 = b7)
    (hm1 : fitsI e.mode 4095 = m1) (hm2 : fitsI e.uid 1099511627775 = m2) (hm3 : fitsI e.gid 1099511627775 = m3) (htR : St.rightB e.sec e.nano = tR) (hL : isLinkB e.kind = L) (hD : isDevB e.kind = D) (hbl : decide (e.link = []) = bl)
    (hmj : fitsI e.major (2097151 * (if D then 1 else 0)) = mj) (hmn : fitsI e.minor (2097151 * (if D then 1 else 0)) = mn) (hx : ((e.kind.toNat : Int) == 48) = x48) (hm5 : fitsI e.size 4000 = m5) (hsp : sparseE e = sp) (hmr : mapRight e.map e.size = mr)
    (hz0 : (e.size == 0) = z0) (hdE : decide (e.data = []) = dE) (hmE : ((e.map.length : Int) == 0) = mE) (heqd : (sizeF 0 e.map == (e.data.length : Int)) = eqd) (hok : K = true ∧ b0 = false ∧ b1 = false ∧ b4 = true ∧ b5 = true ∧ b6 = true ∧ b7 = true ∧ m1 = true ∧ m2 = true ∧ m3 = true ∧ tR = true ∧ L = !bl ∧ mj = true ∧ mn = true ∧ x48 = false ∧ bl = true) :
    Calls Tryz.prog 76 #[entV e (.slice ad e.map.length cap)] w fun r w' => r = .returned (.bool (K && (!b0 && (!b1 && (b4 && (b5 && (b6 && (b7 && (m1 && (m2 && (m3 && (tR && ((L != bl) && (mj && (mn && endF x48 m5 sp mr eqd z0 dE mE))))))))))))))) ∧ Below w.heap.size w w' := by
  have z := ho.texts
  have HOK := Lib.hid hok
  clear hok
  have hr := reachBytes_lt
  have s0 := mkS_size e.name
  have hn : (e.name.length : Int) ≤ 200000000000000 := by have := z.1; omega
  have s13 := mkS_size e.data
  have hsz : i64 e.size := ho.ints.2.2.2.1
  have hwr := wrap_u8 e.kind
  have e0 := emp_dec e.name
  have e8 := emp_dec e.link
  have e13 := emp_dec e.data
  rw [hb0] at e0
  rw [hbl] at e8
  rw [hdE] at e13
  have y49 : ((e.kind.toNat : Int) == 49) = (e.kind == 49) := u8_at e.kind 49 (by omega)
  have y50 : ((e.kind.toNat : Int) == 50) = (e.kind == 50) := u8_at e.kind 50 (by omega)
  have y51 : ((e.kind.toNat : Int) == 51) = (e.kind == 51) := u8_at e.kind 51 (by omega)
  have y52 : ((e.kind.toNat : Int) == 52) = (e.kind == 52) := u8_at e.kind 52 (by omega)
  unfold isLinkB at hL
  unfold isDevB at hD
  generalize (e.kind == 49) = x49 at *
  generalize (e.kind == 50) = x50 at *
  generalize (e.kind == 51) = x51 at *
  generalize (e.kind == 52) = x52 at *
  have IX : b0 = false → ∃ c : UInt8, 1 ≤ (e.name.length : Int) ∧ ((c.toNat : Int) == 47) = b1 ∧ ∀ w, (Instr.index 9 (.string (mkS e.name)) (.int .i64 ((e.name.length : Int) - 1))).run Tryz.prog w = .ok (.int .u8 (c.toNat : Int)) w := fun h => by
    subst h
    have hne : e.name ≠ [] := of_decide_eq_false hb0
    obtain ⟨c, h1, h2⟩ := last_index e.name hne
    have hp : 1 ≤ e.name.length := List.length_pos_iff.2 hne
    refine ⟨c, by omega, by rw [show ((c.toNat : Int) == 47) = (c == 47) from u8_at c 47 (by omega), h2, hb1], fun w => mkS_index e.name _ c (by omega) (by rw [show ((e.name.length : Int) - 1).toNat = e.name.length - 1 by omega]; exact h1) w⟩
  have hE := Lib.hid (EntAt.new w e (.slice ad e.map.length cap) 28)
  have hB := Lib.hid (below_alloc1 w (.cells (entC e (.slice ad e.map.length cap)) 28))
  have HM := Lib.hid (fun W (h : Below w.heap.size w W) => hM.below h)
  have CW := Lib.hid (fun w => within_any (e.kind.toNat : Int) 48 54 w)
  have P0 := Lib.hid (fun w => refPlain_int e.name 120 120 rfl (reach_fits z.1) w)
  have P1 := Lib.hid (fun w => refPlain_int e.link 120 120 rfl (reach_fits z.2.1) w)
  have P2 := Lib.hid (fun w => refPlain_int e.user 32 32 rfl (reach_fits z.2.2.1) w)
  have P3 := Lib.hid (fun w => refPlain_int e.group 32 32 rfl (reach_fits z.2.2.2.1) w)
  have W1 := Lib.hid (fun w => within_any e.mode 0 4095 w)
  have W2 := Lib.hid (fun w => within_any e.uid 0 1099511627775 w)
  have W3 := Lib.hid (fun w => within_any e.gid 0 1099511627775 w)
  have W4 := Lib.hid (fun w => within_any e.major 0 (2097151 * (if D then 1 else 0)) w)
  have W5 := Lib.hid (fun w => within_any e.minor 0 (2097151 * (if D then 1 else 0)) w)
  have W6 := Lib.hid (fun w => within_any e.size 0 4000 w)
  have T := Lib.hid (fun w => St.refRight_any e.sec e.nano w)
  have O := Lib.hid (fun w => one_any D w)
  have CP := Lib.hid (fun w => refSparse_any e ad cap (reach_fits z.2.2.2.2) w)
  have CR := Lib.hid (fun W (h : Below w.heap.size w W) => rightB_any ad cap e.map e.size hsz ho.map ho.fits W (HM.out W h))
  have CZ := Lib.hid (fun W (h : Below w.heap.size w W) => sizeB_any ad cap e.map ho.map ho.fits W (HM.out W h))
  rw [hK] at CW
  rw [hb4] at P0
  rw [hb5] at P1
  rw [hb6] at P2
  rw [hb7] at P3
  rw [← fitsI_dec, hm1] at W1
  rw [← fitsI_dec, hm2] at W2
  rw [← fitsI_dec, hm3] at W3
  rw [← fitsI_dec, hmj] at W4
  rw [← fitsI_dec, hmn] at W5
  rw [← fitsI_dec, hm5] at W6
  rw [htR] at T
  rw [hsp] at CP
  rw [hmr] at CR
  clear ho hM z hK hb0 hb1 hb4 hb5 hb6 hb7 hm1 hm2 hm3 htR hbl hmj hmn hm5 hsp hmr hdE
  generalize sizeF 0 e.map = S at *
  unfold entC at hB hE
  unfold entV at CP ⊢
  generalize e.map.length = n at *
  have hD1 : (2097151 : Int) * (if D then 1 else 0) = (if D then 2097151 else 0) := by cases D <;> rfl
  go_enter Tryz.func76, Tryz.ntmps76
  go_upto_region 1 with fail
  go_cut [3] (fun s3 wx => s3 = .bool L ∧ wx = w.alloc (.cells #[.string (mkS e.name), .int .u8 (e.kind.toNat : Int), .int .i64 e.mode, .int .i64 e.uid, .int .i64 e.gid, .int .i64 e.size, .int .i64 e.sec, .int .i64 e.nano, .string (mkS e.link), .string (mkS e.user), .string (mkS e.group), .int .i64 e.major, .int .i64 e.minor, .string (mkS e.data), .slice ad n cap] 28))
  case first =>
    subst hL
    cases x49 <;> cases x50
    all_goals
      go_wp2
      go_meet
      exact ⟨rfl, rfl⟩
  case rest =>
    obtain ⟨rfl, rfl⟩ := hcut
    go_upto_region 2 with fail
    go_cut [4] (fun s4 wx => s4 = .bool D ∧ wx = w.alloc (.cells #[.string (mkS e.name), .int .u8 (e.kind.toNat : Int), .int .i64 e.mode, .int .i64 e.uid, .int .i64 e.gid, .int .i64 e.size, .int .i64 e.sec, .int .i64 e.nano, .string (mkS e.link), .string (mkS e.user), .string (mkS e.group), .int .i64 e.major, .int .i64 e.minor, .string (mkS e.data), .slice ad n cap] 28))
    case first =>
      subst hD
      cases x51 <;> cases x52
      all_goals
        go_wp2
        go_meet
        exact ⟨rfl, rfl⟩
    case rest =>
      obtain ⟨rfl, rfl⟩ := hcut
      clear y49 y50 y51 y52 hL hD hD1
      obtain ⟨q, hq⟩ : ∃ q : Int, (if D then 1 else 0 : Int) = q := ⟨_, rfl⟩
      have hq1 : 0 ≤ q ∧ q ≤ 1 := by rw [← hq]; cases D <;> simp
      rw [hq] at O W4 W5
      clear hq
      obtain ⟨hq0, hq1⟩ := hq1
      obtain ⟨rfl, rfl, rfl, rfl, rfl, rfl, rfl, rfl, rfl, rfl, rfl, rfl, rfl, rfl, rfl, rfl⟩ := HOK.out
      clear HOK
      obtain ⟨c, hp1, hc, hix⟩ := IX rfl
      clear IX
      go_wp2_with (first
        | (go_at_call 29; (with_reducible refine (CW.out _).mono ?_); rintro r w' ⟨rfl, hw⟩; subst hw)
        | (go_at_call 129; (with_reducible refine (P0.out _).mono ?_); rintro r w' ⟨rfl, hw⟩; replace hw := hw.symm; subst hw)
        | (go_at_call 129; (with_reducible refine (P1.out _).mono ?_); rintro r w' ⟨rfl, hw⟩; replace hw := hw.symm; subst hw)
        | (go_at_call 129; (with_reducible refine (P2.out _).mono ?_); rintro r w' ⟨rfl, hw⟩; replace hw := hw.symm; subst hw)
        | (go_at_call 129; (with_reducible refine (P3.out _).mono ?_); rintro r w' ⟨rfl, hw⟩; replace hw := hw.symm; subst hw)
        | (go_at_call 29; (with_reducible refine (W1.out _).mono ?_); rintro r w' ⟨rfl, hw⟩; subst hw)
        | (go_at_call 29; (with_reducible refine (W2.out _).mono ?_); rintro r w' ⟨rfl, hw⟩; subst hw)
        | (go_at_call 29; (with_reducible refine (W3.out _).mono ?_); rintro r w' ⟨rfl, hw⟩; subst hw)
        | (go_at_call 126; (with_reducible refine (T.out _).mono ?_); rintro r w2 ⟨rfl, h2⟩; have hB2 := Lib.hid (hB.out.trans (h2.mono hB.out.size)); have hE2 := Lib.hid (hE.out.below h2 hE.out.lt); clear h2; obtain ⟨c0, c1, c2, c3, c4, c5, c6, c7, c8, c9, c10, c11, c12, c13, c14⟩ := id hE2.out)
        | fail)
      have v0 := fun d os => cell_regrown c0 d os
      have v1 := fun d os => cell_regrown c1 d os
      have v2 := fun d os => cell_regrown c2 d os
      have v3 := fun d os => cell_regrown c3 d os
      have v4 := fun d os => cell_regrown c4 d os
      have v5 := fun d os => cell_regrown c5 d os
      have v6 := fun d os => cell_regrown c6 d os
      have v7 := fun d os => cell_regrown c7 d os
      have v8 := fun d os => cell_regrown c8 d os
      have v9 := fun d os => cell_regrown c9 d os
      have v10 := fun d os => cell_regrown c10 d os
      have v11 := fun d os => cell_regrown c11 d os
      have v12 := fun d os => cell_regrown c12 d os
      have v13 := fun d os => cell_regrown c13 d os
      have v14 := fun d os => cell_regrown c14 d os
      refine wp_region_quiet_below (by kernel_rfl) (by kernel_rfl) ?_
      repeat (go_big_quiet_step (first
        | (go_at_call 125; with_reducible exact Calls.regrown_of (regrown_eq (O.out _)))
        | (go_at_call 29; with_reducible exact Calls.regrown_of (regrown_eq2 (W4.out _)))))
      refine wpQuiet_nil ?_
      intro _ hw'
      obtain ⟨⟨dq, osq⟩, hw''⟩ := hw'
      subst hw''
      have hB3 := Lib.hid (hB2.out.trans ((below_regrown _ dq osq).mono hB2.out.size))
      have hE3 := Lib.hid (hE2.out.regrown dq osq)
      dsimp only at *
      generalize Sort.grow (redrawn _ dq) osq = w3 at *
      clear v0 v1 v2 v3 v4 v5 v6 v7 v8 v9 v10 v11 v12 v13 v14
      clear c0 c1 c2 c3 c4 c5 c6 c7 c8 c9 c10 c11 c12 c13 c14
      obtain ⟨c0, c1, c2, c3, c4, c5, c6, c7, c8, c9, c10, c11, c12, c13, c14⟩ := id hE3.out
      go_wp2_with fail
      have v0 := fun d os => cell_regrown c0 d os
      have v1 := fun d os => cell_regrown c1 d os
      have v2 := fun d os => cell_regrown c2 d os
      have v3 := fun d os => cell_regrown c3 d os
      have v4 := fun d os => cell_regrown c4 d os
      have v5 := fun d os => cell_regrown c5 d os
      have v6 := fun d os => cell_regrown c6 d os
      have v7 := fun d os => cell_regrown c7 d os
      have v8 := fun d os => cell_regrown c8 d os
      have v9 := fun d os => cell_regrown c9 d os
      have v10 := fun d os => cell_regrown c10 d os
      have v11 := fun d os => cell_regrown c11 d os
      have v12 := fun d os => cell_regrown c12 d os
      have v13 := fun d os => cell_regrown c13 d os
      have v14 := fun d os => cell_regrown c14 d os
      refine wp_region_quiet_below (by kernel_rfl) (by kernel_rfl) ?_
      repeat (go_big_quiet_step (first
        | (go_at_call 125; with_reducible exact Calls.regrown_of (regrown_eq (O.out _)))
        | (go_at_call 29; with_reducible exact Calls.regrown_of (regrown_eq2 (W5.out _)))))
      refine wpQuiet_nil ?_
      intro _ hw'
      obtain ⟨⟨dq, osq⟩, hw''⟩ := hw'
      subst hw''
      have hB4 := Lib.hid (hB3.out.trans ((below_regrown _ dq osq).mono hB3.out.size))
      have hE4 := Lib.hid (hE3.out.regrown dq osq)
      dsimp only at *
      generalize Sort.grow (redrawn _ dq) osq = w4 at *
      clear v0 v1 v2 v3 v4 v5 v6 v7 v8 v9 v10 v11 v12 v13 v14
      clear c0 c1 c2 c3 c4 c5 c6 c7 c8 c9 c10 c11 c12 c13 c14
      obtain ⟨c0, c1, c2, c3, c4, c5, c6, c7, c8, c9, c10, c11, c12, c13, c14⟩ := id hE4.out
      cases z0
      case' true => cases dE
      case' true.true => cases mE
      all_goals
        go_wp2_with fail
        go_ret
        exact ⟨by first | rfl | simp [endF], hB4.out⟩
set_option maxRecDepth 100000 in
set_option maxHeartbeats 40000000 in
theorem refRight_ff (e : EntL) (ad : Option Addr) (cap : Nat) (ho : EntOk e) (K b0 b1 b4 b5 b6 b7 m1 m2 m3 tR L D bl mj mn x48 m5 sp mr z0 dE mE eqd : Bool) (w : World) (hM : PiecesAt w ad e.map)
    (hK : decide (48 ≤ (e.kind.toNat : Int) ∧ (e.kind.toNat : Int) ≤ 54) = K) (hb0 : decide (e.name = []) = b0) (hb1 : endsS e.name = b1) (hb4 : txtOk e.name 120 = b4) (hb5 : txtOk e.link 120 = b5) (hb6 : txtOk e.user 32 = b6) (hb7 : txtOk e.group 32 = b7)
    (hm1 : fitsI e.mode 4095 = m1) (hm2 : fitsI e.uid 1099511627775 = m2) (hm3 : fitsI e.gid 1099511627775 = m3) (htR : St.rightB e.sec e.nano = tR) (hL : isLinkB e.kind = L) (hD : isDevB e.kind = D) (hbl : decide (e.link = []) = bl)
    (hmj : fitsI e.major (2097151 * (if D then 1 else 0)) = mj) (hmn : fitsI e.minor (2097151 * (if D then 1 else 0)) = mn) (hx : ((e.kind.toNat : Int) == 48) = x48) (hm5 : fitsI e.size 4000 = m5) (hsp : sparseE e = sp) (hmr : mapRight e.map e.size = mr)
    (hz0 : (e.size == 0) = z0) (hdE : decide (e.data = []) = dE) (hmE : ((e.map.length : Int) == 0) = mE) (heqd : (sizeF 0 e.map == (e.data.length : Int)) = eqd) (hok : K = true ∧ b0 = false ∧ b1 = false ∧ b4 = true ∧ b5 = true ∧ b6 = true ∧ b7 = true ∧ m1 = true ∧ m2 = true ∧ m3 = true ∧ tR = true ∧ L = !bl ∧ mj = true ∧ mn = true ∧ x48 = false ∧ bl = false) :
    Calls Tryz.prog 76 #[entV e (.slice ad e.map.length cap)] w fun r w' => r = .returned (.bool (K && (!b0 && (!b1 && (b4 && (b5 && (b6 && (b7 && (m1 && (m2 && (m3 && (tR && ((L != bl) && (mj && (mn && endF x48 m5 sp mr eqd z0 dE mE))))))))))))))) ∧ Below w.heap.size w w' := by
  have z := ho.texts
  have HOK := Lib.hid hok
  clear hok
  have hr := reachBytes_lt
  have s0 := mkS_size e.name
  have hn : (e.name.length : Int) ≤ 200000000000000 := by have := z.1; omega
  have s13 := mkS_size e.data
  have hsz : i64 e.size := ho.ints.2.2.2.1
  have hwr := wrap_u8 e.kind
  have e0 := emp_dec e.name
  have e8 := emp_dec e.link
  have e13 := emp_dec e.data
  rw [hb0] at e0
  rw [hbl] at e8
  rw [hdE] at e13
  have y49 : ((e.kind.toNat : Int) == 49) = (e.kind == 49) := u8_at e.kind 49 (by omega)
  have y50 : ((e.kind.toNat : Int) == 50) = (e.kind == 50) := u8_at e.kind 50 (by omega)
  have y51 : ((e.kind.toNat : Int) == 51) = (e.kind == 51) := u8_at e.kind 51 (by omega)
  have y52 : ((e.kind.toNat : Int) == 52) = (e.kind == 52) := u8_at e.kind 52 (by omega)
  unfold isLinkB at hL
  unfold isDevB at hD
  generalize (e.kind == 49) = x49 at *
  generalize (e.kind == 50) = x50 at *
  generalize (e.kind == 51) = x51 at *
  generalize (e.kind == 52) = x52 at *
  have IX : b0 = false → ∃ c : UInt8, 1 ≤ (e.name.length : Int) ∧ ((c.toNat : Int) == 47) = b1 ∧ ∀ w, (Instr.index 9 (.string (mkS e.name)) (.int .i64 ((e.name.length : Int) - 1))).run Tryz.prog w = .ok (.int .u8 (c.toNat : Int)) w := fun h => by
    subst h
    have hne : e.name ≠ [] := of_decide_eq_false hb0
    obtain ⟨c, h1, h2⟩ := last_index e.name hne
    have hp : 1 ≤ e.name.length := List.length_pos_iff.2 hne
    refine ⟨c, by omega, by rw [show ((c.toNat : Int) == 47) = (c == 47) from u8_at c 47 (by omega), h2, hb1], fun w => mkS_index e.name _ c (by omega) (by rw [show ((e.name.length : Int) - 1).toNat = e.name.length - 1 by omega]; exact h1) w⟩
  have hE := Lib.hid (EntAt.new w e (.slice ad e.map.length cap) 28)
  have hB := Lib.hid (below_alloc1 w (.cells (entC e (.slice ad e.map.length cap)) 28))
  have HM := Lib.hid (fun W (h : Below w.heap.size w W) => hM.below h)
  have CW := Lib.hid (fun w => within_any (e.kind.toNat : Int) 48 54 w)
  have P0 := Lib.hid (fun w => refPlain_int e.name 120 120 rfl (reach_fits z.1) w)
  have P1 := Lib.hid (fun w => refPlain_int e.link 120 120 rfl (reach_fits z.2.1) w)
  have P2 := Lib.hid (fun w => refPlain_int e.user 32 32 rfl (reach_fits z.2.2.1) w)
  have P3 := Lib.hid (fun w => refPlain_int e.group 32 32 rfl (reach_fits z.2.2.2.1) w)
  have W1 := Lib.hid (fun w => within_any e.mode 0 4095 w)
  have W2 := Lib.hid (fun w => within_any e.uid 0 1099511627775 w)
  have W3 := Lib.hid (fun w => within_any e.gid 0 1099511627775 w)
  have W4 := Lib.hid (fun w => within_any e.major 0 (2097151 * (if D then 1 else 0)) w)
  have W5 := Lib.hid (fun w => within_any e.minor 0 (2097151 * (if D then 1 else 0)) w)
  have W6 := Lib.hid (fun w => within_any e.size 0 4000 w)
  have T := Lib.hid (fun w => St.refRight_any e.sec e.nano w)
  have O := Lib.hid (fun w => one_any D w)
  have CP := Lib.hid (fun w => refSparse_any e ad cap (reach_fits z.2.2.2.2) w)
  have CR := Lib.hid (fun W (h : Below w.heap.size w W) => rightB_any ad cap e.map e.size hsz ho.map ho.fits W (HM.out W h))
  have CZ := Lib.hid (fun W (h : Below w.heap.size w W) => sizeB_any ad cap e.map ho.map ho.fits W (HM.out W h))
  rw [hK] at CW
  rw [hb4] at P0
  rw [hb5] at P1
  rw [hb6] at P2
  rw [hb7] at P3
  rw [← fitsI_dec, hm1] at W1
  rw [← fitsI_dec, hm2] at W2
  rw [← fitsI_dec, hm3] at W3
  rw [← fitsI_dec, hmj] at W4
  rw [← fitsI_dec, hmn] at W5
  rw [← fitsI_dec, hm5] at W6
  rw [htR] at T
  rw [hsp] at CP
  rw [hmr] at CR
  clear ho hM z hK hb0 hb1 hb4 hb5 hb6 hb7 hm1 hm2 hm3 htR hbl hmj hmn hm5 hsp hmr hdE
  generalize sizeF 0 e.map = S at *
  unfold entC at hB hE
  unfold entV at CP ⊢
  generalize e.map.length = n at *
  have hD1 : (2097151 : Int) * (if D then 1 else 0) = (if D then 2097151 else 0) := by cases D <;> rfl
  go_enter Tryz.func76, Tryz.ntmps76
  go_upto_region 1 with fail
  go_cut [3] (fun s3 wx => s3 = .bool L ∧ wx = w.alloc (.cells #[.string (mkS e.name), .int .u8 (e.kind.toNat : Int), .int .i64 e.mode, .int .i64 e.uid, .int .i64 e.gid, .int .i64 e.size, .int .i64 e.sec, .int .i64 e.nano, .string (mkS e.link), .string (mkS e.user), .string (mkS e.group), .int .i64 e.major, .int .i64 e.minor, .string (mkS e.data), .slice ad n cap] 28))
  case first =>
    subst hL
    cases x49 <;> cases x50
    all_goals
      go_wp2
      go_meet
      exact ⟨rfl, rfl⟩
  case rest =>
    obtain ⟨rfl, rfl⟩ := hcut
    go_upto_region 2 with fail
    go_cut [4] (fun s4 wx => s4 = .bool D ∧ wx = w.alloc (.cells #[.string (mkS e.name), .int .u8 (e.kind.toNat : Int), .int .i64 e.mode, .int .i64 e.uid, .int .i64 e.gid, .int .i64 e.size, .int .i64 e.sec, .int .i64 e.nano, .string (mkS e.link), .string (mkS e.user), .string (mkS e.group), .int .i64 e.major, .int .i64 e.minor, .string (mkS e.data), .slice ad n cap] 28))
    case first =>
      subst hD
      cases x51 <;> cases x52
      all_goals
        go_wp2
        go_meet
        exact ⟨rfl, rfl⟩
    case rest =>
      obtain ⟨rfl, rfl⟩ := hcut
      clear y49 y50 y51 y52 hL hD hD1
      obtain ⟨q, hq⟩ : ∃ q : Int, (if D then 1 else 0 : Int) = q := ⟨_, rfl⟩
      have hq1 : 0 ≤ q ∧ q ≤ 1 := by rw [← hq]; cases D <;> simp
      rw [hq] at O W4 W5
      clear hq
      obtain ⟨hq0, hq1⟩ := hq1
      obtain ⟨rfl, rfl, rfl, rfl, rfl, rfl, rfl, rfl, rfl, rfl, rfl, rfl, rfl, rfl, rfl, rfl⟩ := HOK.out
      clear HOK
      obtain ⟨c, hp1, hc, hix⟩ := IX rfl
      clear IX
      go_wp2_with (first
        | (go_at_call 29; (with_reducible refine (CW.out _).mono ?_); rintro r w' ⟨rfl, hw⟩; subst hw)
        | (go_at_call 129; (with_reducible refine (P0.out _).mono ?_); rintro r w' ⟨rfl, hw⟩; replace hw := hw.symm; subst hw)
        | (go_at_call 129; (with_reducible refine (P1.out _).mono ?_); rintro r w' ⟨rfl, hw⟩; replace hw := hw.symm; subst hw)
        | (go_at_call 129; (with_reducible refine (P2.out _).mono ?_); rintro r w' ⟨rfl, hw⟩; replace hw := hw.symm; subst hw)
        | (go_at_call 129; (with_reducible refine (P3.out _).mono ?_); rintro r w' ⟨rfl, hw⟩; replace hw := hw.symm; subst hw)
        | (go_at_call 29; (with_reducible refine (W1.out _).mono ?_); rintro r w' ⟨rfl, hw⟩; subst hw)
        | (go_at_call 29; (with_reducible refine (W2.out _).mono ?_); rintro r w' ⟨rfl, hw⟩; subst hw)
        | (go_at_call 29; (with_reducible refine (W3.out _).mono ?_); rintro r w' ⟨rfl, hw⟩; subst hw)
        | (go_at_call 126; (with_reducible refine (T.out _).mono ?_); rintro r w2 ⟨rfl, h2⟩; have hB2 := Lib.hid (hB.out.trans (h2.mono hB.out.size)); have hE2 := Lib.hid (hE.out.below h2 hE.out.lt); clear h2; obtain ⟨c0, c1, c2, c3, c4, c5, c6, c7, c8, c9, c10, c11, c12, c13, c14⟩ := id hE2.out)
        | fail)
      have v0 := fun d os => cell_regrown c0 d os
      have v1 := fun d os => cell_regrown c1 d os
      have v2 := fun d os => cell_regrown c2 d os
      have v3 := fun d os => cell_regrown c3 d os
      have v4 := fun d os => cell_regrown c4 d os
      have v5 := fun d os => cell_regrown c5 d os
      have v6 := fun d os => cell_regrown c6 d os
      have v7 := fun d os => cell_regrown c7 d os
      have v8 := fun d os => cell_regrown c8 d os
      have v9 := fun d os => cell_regrown c9 d os
      have v10 := fun d os => cell_regrown c10 d os
      have v11 := fun d os => cell_regrown c11 d os
      have v12 := fun d os => cell_regrown c12 d os
      have v13 := fun d os => cell_regrown c13 d os
      have v14 := fun d os => cell_regrown c14 d os
      refine wp_region_quiet_below (by kernel_rfl) (by kernel_rfl) ?_
      repeat (go_big_quiet_step (first
        | (go_at_call 125; with_reducible exact Calls.regrown_of (regrown_eq (O.out _)))
        | (go_at_call 29; with_reducible exact Calls.regrown_of (regrown_eq2 (W4.out _)))))
      refine wpQuiet_nil ?_
      intro _ hw'
      obtain ⟨⟨dq, osq⟩, hw''⟩ := hw'
      subst hw''
      have hB3 := Lib.hid (hB2.out.trans ((below_regrown _ dq osq).mono hB2.out.size))
      have hE3 := Lib.hid (hE2.out.regrown dq osq)
      dsimp only at *
      generalize Sort.grow (redrawn _ dq) osq = w3 at *
      clear v0 v1 v2 v3 v4 v5 v6 v7 v8 v9 v10 v11 v12 v13 v14
      clear c0 c1 c2 c3 c4 c5 c6 c7 c8 c9 c10 c11 c12 c13 c14
      obtain ⟨c0, c1, c2, c3, c4, c5, c6, c7, c8, c9, c10, c11, c12, c13, c14⟩ := id hE3.out
      go_wp2_with fail
      have v0 := fun d os => cell_regrown c0 d os
      have v1 := fun d os => cell_regrown c1 d os
      have v2 := fun d os => cell_regrown c2 d os
      have v3 := fun d os => cell_regrown c3 d os
      have v4 := fun d os => cell_regrown c4 d os
      have v5 := fun d os => cell_regrown c5 d os
      have v6 := fun d os => cell_regrown c6 d os
      have v7 := fun d os => cell_regrown c7 d os
      have v8 := fun d os => cell_regrown c8 d os
      have v9 := fun d os => cell_regrown c9 d os
      have v10 := fun d os => cell_regrown c10 d os
      have v11 := fun d os => cell_regrown c11 d os
      have v12 := fun d os => cell_regrown c12 d os
      have v13 := fun d os => cell_regrown c13 d os
      have v14 := fun d os => cell_regrown c14 d os
      refine wp_region_quiet_below (by kernel_rfl) (by kernel_rfl) ?_
      repeat (go_big_quiet_step (first
        | (go_at_call 125; with_reducible exact Calls.regrown_of (regrown_eq (O.out _)))
        | (go_at_call 29; with_reducible exact Calls.regrown_of (regrown_eq2 (W5.out _)))))
      refine wpQuiet_nil ?_
      intro _ hw'
      obtain ⟨⟨dq, osq⟩, hw''⟩ := hw'
      subst hw''
      have hB4 := Lib.hid (hB3.out.trans ((below_regrown _ dq osq).mono hB3.out.size))
      have hE4 := Lib.hid (hE3.out.regrown dq osq)
      dsimp only at *
      generalize Sort.grow (redrawn _ dq) osq = w4 at *
      clear v0 v1 v2 v3 v4 v5 v6 v7 v8 v9 v10 v11 v12 v13 v14
      clear c0 c1 c2 c3 c4 c5 c6 c7 c8 c9 c10 c11 c12 c13 c14
      obtain ⟨c0, c1, c2, c3, c4, c5, c6, c7, c8, c9, c10, c11, c12, c13, c14⟩ := id hE4.out
      cases z0
      case' true => cases dE
      case' true.true => cases mE
      all_goals
        go_wp2_with fail
        go_ret
        exact ⟨by first | rfl | simp [endF], hB4.out⟩
set_option maxRecDepth 100000 in
set_option maxHeartbeats 40000000 in
theorem refRight_gt (e : EntL) (ad : Option Addr) (cap : Nat) (ho : EntOk e) (K b0 b1 b4 b5 b6 b7 m1 m2 m3 tR L D bl mj mn x48 m5 sp mr z0 dE mE eqd : Bool) (w : World) (hM : PiecesAt w ad e.map)
    (hK : decide (48 ≤ (e.kind.toNat : Int) ∧ (e.kind.toNat : Int) ≤ 54) = K) (hb0 : decide (e.name = []) = b0) (hb1 : endsS e.name = b1) (hb4 : txtOk e.name 120 = b4) (hb5 : txtOk e.link 120 = b5) (hb6 : txtOk e.user 32 = b6) (hb7 : txtOk e.group 32 = b7)
    (hm1 : fitsI e.mode 4095 = m1) (hm2 : fitsI e.uid 1099511627775 = m2) (hm3 : fitsI e.gid 1099511627775 = m3) (htR : St.rightB e.sec e.nano = tR) (hL : isLinkB e.kind = L) (hD : isDevB e.kind = D) (hbl : decide (e.link = []) = bl)
    (hmj : fitsI e.major (2097151 * (if D then 1 else 0)) = mj) (hmn : fitsI e.minor (2097151 * (if D then 1 else 0)) = mn) (hx : ((e.kind.toNat : Int) == 48) = x48) (hm5 : fitsI e.size 4000 = m5) (hsp : sparseE e = sp) (hmr : mapRight e.map e.size = mr)
    (hz0 : (e.size == 0) = z0) (hdE : decide (e.data = []) = dE) (hmE : ((e.map.length : Int) == 0) = mE) (heqd : (sizeF 0 e.map == (e.data.length : Int)) = eqd) (hok : K = true ∧ b0 = false ∧ b1 = false ∧ b4 = true ∧ b5 = true ∧ b6 = true ∧ b7 = true ∧ m1 = true ∧ m2 = true ∧ m3 = true ∧ tR = true ∧ L = !bl ∧ mj = true ∧ mn = true ∧ x48 = true ∧ bl = true) :
    Calls Tryz.prog 76 #[entV e (.slice ad e.map.length cap)] w fun r w' => r = .returned (.bool (K && (!b0 && (!b1 && (b4 && (b5 && (b6 && (b7 && (m1 && (m2 && (m3 && (tR && ((L != bl) && (mj && (mn && endF x48 m5 sp mr eqd z0 dE mE))))))))))))))) ∧ Below w.heap.size w w' := by
  have z := ho.texts
  have HOK := Lib.hid hok
  clear hok
  have hr := reachBytes_lt
  have s0 := mkS_size e.name
  have hn : (e.name.length : Int) ≤ 200000000000000 := by have := z.1; omega
  have s13 := mkS_size e.data
  have hsz : i64 e.size := ho.ints.2.2.2.1
  have hwr := wrap_u8 e.kind
  have e0 := emp_dec e.name
  have e8 := emp_dec e.link
  have e13 := emp_dec e.data
  rw [hb0] at e0
  rw [hbl] at e8
  rw [hdE] at e13
  have y49 : ((e.kind.toNat : Int) == 49) = (e.kind == 49) := u8_at e.kind 49 (by omega)
  have y50 : ((e.kind.toNat : Int) == 50) = (e.kind == 50) := u8_at e.kind 50 (by omega)
  have y51 : ((e.kind.toNat : Int) == 51) = (e.kind == 51) := u8_at e.kind 51 (by omega)
  have y52 : ((e.kind.toNat : Int) == 52) = (e.kind == 52) := u8_at e.kind 52 (by omega)
  unfold isLinkB at hL
  unfold isDevB at hD
  generalize (e.kind == 49) = x49 at *
  generalize (e.kind == 50) = x50 at *
  generalize (e.kind == 51) = x51 at *
  generalize (e.kind == 52) = x52 at *
  have IX : b0 = false → ∃ c : UInt8, 1 ≤ (e.name.length : Int) ∧ ((c.toNat : Int) == 47) = b1 ∧ ∀ w, (Instr.index 9 (.string (mkS e.name)) (.int .i64 ((e.name.length : Int) - 1))).run Tryz.prog w = .ok (.int .u8 (c.toNat : Int)) w := fun h => by
    subst h
    have hne : e.name ≠ [] := of_decide_eq_false hb0
    obtain ⟨c, h1, h2⟩ := last_index e.name hne
    have hp : 1 ≤ e.name.length := List.length_pos_iff.2 hne
    refine ⟨c, by omega, by rw [show ((c.toNat : Int) == 47) = (c == 47) from u8_at c 47 (by omega), h2, hb1], fun w => mkS_index e.name _ c (by omega) (by rw [show ((e.name.length : Int) - 1).toNat = e.name.length - 1 by omega]; exact h1) w⟩
  have hE := Lib.hid (EntAt.new w e (.slice ad e.map.length cap) 28)
  have hB := Lib.hid (below_alloc1 w (.cells (entC e (.slice ad e.map.length cap)) 28))
  have HM := Lib.hid (fun W (h : Below w.heap.size w W) => hM.below h)
  have CW := Lib.hid (fun w => within_any (e.kind.toNat : Int) 48 54 w)
  have P0 := Lib.hid (fun w => refPlain_int e.name 120 120 rfl (reach_fits z.1) w)
  have P1 := Lib.hid (fun w => refPlain_int e.link 120 120 rfl (reach_fits z.2.1) w)
  have P2 := Lib.hid (fun w => refPlain_int e.user 32 32 rfl (reach_fits z.2.2.1) w)
  have P3 := Lib.hid (fun w => refPlain_int e.group 32 32 rfl (reach_fits z.2.2.2.1) w)
  have W1 := Lib.hid (fun w => within_any e.mode 0 4095 w)
  have W2 := Lib.hid (fun w => within_any e.uid 0 1099511627775 w)
  have W3 := Lib.hid (fun w => within_any e.gid 0 1099511627775 w)
  have W4 := Lib.hid (fun w => within_any e.major 0 (2097151 * (if D then 1 else 0)) w)
  have W5 := Lib.hid (fun w => within_any e.minor 0 (2097151 * (if D then 1 else 0)) w)
  have W6 := Lib.hid (fun w => within_any e.size 0 4000 w)
  have T := Lib.hid (fun w => St.refRight_any e.sec e.nano w)
  have O := Lib.hid (fun w => one_any D w)
  have CP := Lib.hid (fun w => refSparse_any e ad cap (reach_fits z.2.2.2.2) w)
  have CR := Lib.hid (fun W (h : Below w.heap.size w W) => rightB_any ad cap e.map e.size hsz ho.map ho.fits W (HM.out W h))
  have CZ := Lib.hid (fun W (h : Below w.heap.size w W) => sizeB_any ad cap e.map ho.map ho.fits W (HM.out W h))
  rw [hK] at CW
  rw [hb4] at P0
  rw [hb5] at P1
  rw [hb6] at P2
  rw [hb7] at P3
  rw [← fitsI_dec, hm1] at W1
  rw [← fitsI_dec, hm2] at W2
  rw [← fitsI_dec, hm3] at W3
  rw [← fitsI_dec, hmj] at W4
  rw [← fitsI_dec, hmn] at W5
  rw [← fitsI_dec, hm5] at W6
  rw [htR] at T
  rw [hsp] at CP
  rw [hmr] at CR
  clear ho hM z hK hb0 hb1 hb4 hb5 hb6 hb7 hm1 hm2 hm3 htR hbl hmj hmn hm5 hsp hmr hdE
  generalize sizeF 0 e.map = S at *
  unfold entC at hB hE
  unfold entV at CP ⊢
  generalize e.map.length = n at *
  have hD1 : (2097151 : Int) * (if D then 1 else 0) = (if D then 2097151 else 0) := by cases D <;> rfl
  go_enter Tryz.func76, Tryz.ntmps76
  go_upto_region 1 with fail
  go_cut [3] (fun s3 wx => s3 = .bool L ∧ wx = w.alloc (.cells #[.string (mkS e.name), .int .u8 (e.kind.toNat : Int), .int .i64 e.mode, .int .i64 e.uid, .int .i64 e.gid, .int .i64 e.size, .int .i64 e.sec, .int .i64 e.nano, .string (mkS e.link), .string (mkS e.user), .string (mkS e.group), .int .i64 e.major, .int .i64 e.minor, .string (mkS e.data), .slice ad n cap] 28))
  case first =>
    subst hL
    cases x49 <;> cases x50
    all_goals
      go_wp2
      go_meet
      exact ⟨rfl, rfl⟩
  case rest =>
    obtain ⟨rfl, rfl⟩ := hcut
    go_upto_region 2 with fail
    go_cut [4] (fun s4 wx => s4 = .bool D ∧ wx = w.alloc (.cells #[.string (mkS e.name), .int .u8 (e.kind.toNat : Int), .int .i64 e.mode, .int .i64 e.uid, .int .i64 e.gid, .int .i64 e.size, .int .i64 e.sec, .int .i64 e.nano, .string (mkS e.link), .string (mkS e.user), .string (mkS e.group), .int .i64 e.major, .int .i64 e.minor, .string (mkS e.data), .slice ad n cap] 28))
    case first =>
      subst hD
      cases x51 <;> cases x52
      all_goals
        go_wp2
        go_meet
        exact ⟨rfl, rfl⟩
    case rest =>
      obtain ⟨rfl, rfl⟩ := hcut
      clear y49 y50 y51 y52 hL hD hD1
      obtain ⟨q, hq⟩ : ∃ q : Int, (if D then 1 else 0 : Int) = q := ⟨_, rfl⟩
      have hq1 : 0 ≤ q ∧ q ≤ 1 := by rw [← hq]; cases D <;> simp
      rw [hq] at O W4 W5
      clear hq
      obtain ⟨hq0, hq1⟩ := hq1
      obtain ⟨rfl, rfl, rfl, rfl, rfl, rfl, rfl, rfl, rfl, rfl, rfl, rfl, rfl, rfl, rfl, rfl⟩ := HOK.out
      clear HOK
      obtain ⟨c, hp1, hc, hix⟩ := IX rfl
      clear IX
      go_wp2_with (first
        | (go_at_call 29; (with_reducible refine (CW.out _).mono ?_); rintro r w' ⟨rfl, hw⟩; subst hw)
        | (go_at_call 129; (with_reducible refine (P0.out _).mono ?_); rintro r w' ⟨rfl, hw⟩; replace hw := hw.symm; subst hw)
        | (go_at_call 129; (with_reducible refine (P1.out _).mono ?_); rintro r w' ⟨rfl, hw⟩; replace hw := hw.symm; subst hw)
        | (go_at_call 129; (with_reducible refine (P2.out _).mono ?_); rintro r w' ⟨rfl, hw⟩; replace hw := hw.symm; subst hw)
        | (go_at_call 129; (with_reducible refine (P3.out _).mono ?_); rintro r w' ⟨rfl, hw⟩; replace hw := hw.symm; subst hw)
        | (go_at_call 29; (with_reducible refine (W1.out _).mono ?_); rintro r w' ⟨rfl, hw⟩; subst hw)
        | (go_at_call 29; (with_reducible refine (W2.out _).mono ?_); rintro r w' ⟨rfl, hw⟩; subst hw)
        | (go_at_call 29; (with_reducible refine (W3.out _).mono ?_); rintro r w' ⟨rfl, hw⟩; subst hw)
        | (go_at_call 126; (with_reducible refine (T.out _).mono ?_); rintro r w2 ⟨rfl, h2⟩; have hB2 := Lib.hid (hB.out.trans (h2.mono hB.out.size)); have hE2 := Lib.hid (hE.out.below h2 hE.out.lt); clear h2; obtain ⟨c0, c1, c2, c3, c4, c5, c6, c7, c8, c9, c10, c11, c12, c13, c14⟩ := id hE2.out)
        | fail)
      have v0 := fun d os => cell_regrown c0 d os
      have v1 := fun d os => cell_regrown c1 d os
      have v2 := fun d os => cell_regrown c2 d os
      have v3 := fun d os => cell_regrown c3 d os
      have v4 := fun d os => cell_regrown c4 d os
      have v5 := fun d os => cell_regrown c5 d os
      have v6 := fun d os => cell_regrown c6 d os
      have v7 := fun d os => cell_regrown c7 d os
      have v8 := fun d os => cell_regrown c8 d os
      have v9 := fun d os => cell_regrown c9 d os
      have v10 := fun d os => cell_regrown c10 d os
      have v11 := fun d os => cell_regrown c11 d os
      have v12 := fun d os => cell_regrown c12 d os
      have v13 := fun d os => cell_regrown c13 d os
      have v14 := fun d os => cell_regrown c14 d os
      refine wp_region_quiet_below (by kernel_rfl) (by kernel_rfl) ?_
      repeat (go_big_quiet_step (first
        | (go_at_call 125; with_reducible exact Calls.regrown_of (regrown_eq (O.out _)))
        | (go_at_call 29; with_reducible exact Calls.regrown_of (regrown_eq2 (W4.out _)))))
      refine wpQuiet_nil ?_
      intro _ hw'
      obtain ⟨⟨dq, osq⟩, hw''⟩ := hw'
      subst hw''
      have hB3 := Lib.hid (hB2.out.trans ((below_regrown _ dq osq).mono hB2.out.size))
      have hE3 := Lib.hid (hE2.out.regrown dq osq)
      dsimp only at *
      generalize Sort.grow (redrawn _ dq) osq = w3 at *
      clear v0 v1 v2 v3 v4 v5 v6 v7 v8 v9 v10 v11 v12 v13 v14
      clear c0 c1 c2 c3 c4 c5 c6 c7 c8 c9 c10 c11 c12 c13 c14
      obtain ⟨c0, c1, c2, c3, c4, c5, c6, c7, c8, c9, c10, c11, c12, c13, c14⟩ := id hE3.out
      go_wp2_with fail
      have v0 := fun d os => cell_regrown c0 d os
      have v1 := fun d os => cell_regrown c1 d os
      have v2 := fun d os => cell_regrown c2 d os
      have v3 := fun d os => cell_regrown c3 d os
      have v4 := fun d os => cell_regrown c4 d os
      have v5 := fun d os => cell_regrown c5 d os
      have v6 := fun d os => cell_regrown c6 d os
      have v7 := fun d os => cell_regrown c7 d os
      have v8 := fun d os => cell_regrown c8 d os
      have v9 := fun d os => cell_regrown c9 d os
      have v10 := fun d os => cell_regrown c10 d os
      have v11 := fun d os => cell_regrown c11 d os
      have v12 := fun d os => cell_regrown c12 d os
      have v13 := fun d os => cell_regrown c13 d os
      have v14 := fun d os => cell_regrown c14 d os
      refine wp_region_quiet_below (by kernel_rfl) (by kernel_rfl) ?_
      repeat (go_big_quiet_step (first
        | (go_at_call 125; with_reducible exact Calls.regrown_of (regrown_eq (O.out _)))
        | (go_at_call 29; with_reducible exact Calls.regrown_of (regrown_eq2 (W5.out _)))))
      refine wpQuiet_nil ?_
      intro _ hw'
      obtain ⟨⟨dq, osq⟩, hw''⟩ := hw'
      subst hw''
      have hB4 := Lib.hid (hB3.out.trans ((below_regrown _ dq osq).mono hB3.out.size))
      have hE4 := Lib.hid (hE3.out.regrown dq osq)
      dsimp only at *
      generalize Sort.grow (redrawn _ dq) osq = w4 at *
      clear v0 v1 v2 v3 v4 v5 v6 v7 v8 v9 v10 v11 v12 v13 v14
      clear c0 c1 c2 c3 c4 c5 c6 c7 c8 c9 c10 c11 c12 c13 c14
      obtain ⟨c0, c1, c2, c3, c4, c5, c6, c7, c8, c9, c10, c11, c12, c13, c14⟩ := id hE4.out
      cases m5 with
      | false =>
        go_wp2_with (go_at_call 29; (with_reducible refine (W6.out _).mono ?_); rintro r w' ⟨rfl, hw⟩; subst hw)
        go_ret
        exact ⟨rfl, hB4.out⟩
      | true =>
        go_wp2_with (go_at_call 29; (with_reducible refine (W6.out _).mono ?_); rintro r w' ⟨rfl, hw⟩; subst hw)
        have v0 := fun d os => cell_regrown c0 d os
        have v1 := fun d os => cell_regrown c1 d os
        have v2 := fun d os => cell_regrown c2 d os
        have v3 := fun d os => cell_regrown c3 d os
        have v4 := fun d os => cell_regrown c4 d os
        have v5 := fun d os => cell_regrown c5 d os
        have v6 := fun d os => cell_regrown c6 d os
        have v7 := fun d os => cell_regrown c7 d os
        have v8 := fun d os => cell_regrown c8 d os
        have v9 := fun d os => cell_regrown c9 d os
        have v10 := fun d os => cell_regrown c10 d os
        have v11 := fun d os => cell_regrown c11 d os
        have v12 := fun d os => cell_regrown c12 d os
        have v13 := fun d os => cell_regrown c13 d os
        have v14 := fun d os => cell_regrown c14 d os
        have HB5 := Lib.hid (fun d os => hB4.out.trans ((below_regrown w4 d os).mono hB4.out.size))
        cases sp
        case' true => cases mr
        all_goals
          refine wp_region_quiet_below (by kernel_rfl) (by kernel_rfl) ?_
          repeat (go_big_quiet_step (first
            | (go_at_call 88; with_reducible exact Calls.regrown_of (CP.out _))
            | (go_at_call 130; with_reducible exact Calls.regrown_of (CR.out _ (HB5.out _ _)))
            | (go_at_call 131; with_reducible exact Calls.regrown_of (CZ.out _ (HB5.out _ _)))))
          refine wpQuiet_nil ?_
          intro _ hw'
          obtain ⟨⟨dq, osq⟩, hw''⟩ := hw'
          subst hw''
          have hq := Lib.hid (HB5.out dq osq)
          dsimp only at *
          generalize Sort.grow (redrawn _ dq) osq = w5 at *
          go_wp2_with fail
          go_ret
          exact ⟨by first | rfl | (cases eqd <;> rfl) | (simp [endF]), hq.out⟩
set_option maxRecDepth 100000 in
set_option maxHeartbeats 40000000 in
theorem refRight_gf (e : EntL) (ad : Option Addr) (cap : Nat) (ho : EntOk e) (K b0 b1 b4 b5 b6 b7 m1 m2 m3 tR L D bl mj mn x48 m5 sp mr z0 dE mE eqd : Bool) (w : World) (hM : PiecesAt w ad e.map)
    (hK : decide (48 ≤ (e.kind.toNat : Int) ∧ (e.kind.toNat : Int) ≤ 54) = K) (hb0 : decide (e.name = []) = b0) (hb1 : endsS e.name = b1) (hb4 : txtOk e.name 120 = b4) (hb5 : txtOk e.link 120 = b5) (hb6 : txtOk e.user 32 = b6) (hb7 : txtOk e.group 32 = b7)
    (hm1 : fitsI e.mode 4095 = m1) (hm2 : fitsI e.uid 1099511627775 = m2) (hm3 : fitsI e.gid 1099511627775 = m3) (htR : St.rightB e.sec e.nano = tR) (hL : isLinkB e.kind = L) (hD : isDevB e.kind = D) (hbl : decide (e.link = []) = bl)
    (hmj : fitsI e.major (2097151 * (if D then 1 else 0)) = mj) (hmn : fitsI e.minor (2097151 * (if D then 1 else 0)) = mn) (hx : ((e.kind.toNat : Int) == 48) = x48) (hm5 : fitsI e.size 4000 = m5) (hsp : sparseE e = sp) (hmr : mapRight e.map e.size = mr)
    (hz0 : (e.size == 0) = z0) (hdE : decide (e.data = []) = dE) (hmE : ((e.map.length : Int) == 0) = mE) (heqd : (sizeF 0 e.map == (e.data.length : Int)) = eqd) (hok : K = true ∧ b0 = false ∧ b1 = false ∧ b4 = true ∧ b5 = true ∧ b6 = true ∧ b7 = true ∧ m1 = true ∧ m2 = true ∧ m3 = true ∧ tR = true ∧ L = !bl ∧ mj = true ∧ mn = true ∧ x48 = true ∧ bl = false) :
    Calls Tryz.prog 76 #[entV e (.slice ad e.map.length cap)] w fun r w' => r = .returned (.bool (K && (!b0 && (!b1 && (b4 && (b5 && (b6 && (b7 && (m1 && (m2 && (m3 && (tR && ((L != bl) && (mj && (mn && endF x48 m5 sp mr eqd z0 dE mE))))))))))))))) ∧ Below w.heap.size w w' := by
  have z := ho.texts
  have HOK := Lib.hid hok
  clear hok
  have hr := reachBytes_lt
  have s0 := mkS_size e.name
  have hn : (e.name.length : Int) ≤ 200000000000000 := by have := z.1; omega
  have s13 := mkS_size e.data
  have hsz : i64 e.size := ho.ints.2.2.2.1
  have hwr := wrap_u8 e.kind
  have e0 := emp_dec e.name
  have e8 := emp_dec e.link
  have e13 := emp_dec e.data
  rw [hb0] at e0
  rw [hbl] at e8
  rw [hdE] at e13
  have y49 : ((e.kind.toNat : Int) == 49) = (e.kind == 49) := u8_at e.kind 49 (by omega)
  have y50 : ((e.kind.toNat : Int) == 50) = (e.kind == 50) := u8_at e.kind 50 (by omega)
  have y51 : ((e.kind.toNat : Int) == 51) = (e.kind == 51) := u8_at e.kind 51 (by omega)
  have y52 : ((e.kind.toNat : Int) == 52) = (e.kind == 52) := u8_at e.kind 52 (by omega)
  unfold isLinkB at hL
  unfold isDevB at hD
  generalize (e.kind == 49) = x49 at *
  generalize (e.kind == 50) = x50 at *
  generalize (e.kind == 51) = x51 at *
  generalize (e.kind == 52) = x52 at *
  have IX : b0 = false → ∃ c : UInt8, 1 ≤ (e.name.length : Int) ∧ ((c.toNat : Int) == 47) = b1 ∧ ∀ w, (Instr.index 9 (.string (mkS e.name)) (.int .i64 ((e.name.length : Int) - 1))).run Tryz.prog w = .ok (.int .u8 (c.toNat : Int)) w := fun h => by
    subst h
    have hne : e.name ≠ [] := of_decide_eq_false hb0
    obtain ⟨c, h1, h2⟩ := last_index e.name hne
    have hp : 1 ≤ e.name.length := List.length_pos_iff.2 hne
    refine ⟨c, by omega, by rw [show ((c.toNat : Int) == 47) = (c == 47) from u8_at c 47 (by omega), h2, hb1], fun w => mkS_index e.name _ c (by omega) (by rw [show ((e.name.length : Int) - 1).toNat = e.name.length - 1 by omega]; exact h1) w⟩
  have hE := Lib.hid (EntAt.new w e (.slice ad e.map.length cap) 28)
  have hB := Lib.hid (below_alloc1 w (.cells (entC e (.slice ad e.map.length cap)) 28))
  have HM := Lib.hid (fun W (h : Below w.heap.size w W) => hM.below h)
  have CW := Lib.hid (fun w => within_any (e.kind.toNat : Int) 48 54 w)
  have P0 := Lib.hid (fun w => refPlain_int e.name 120 120 rfl (reach_fits z.1) w)
  have P1 := Lib.hid (fun w => refPlain_int e.link 120 120 rfl (reach_fits z.2.1) w)
  have P2 := Lib.hid (fun w => refPlain_int e.user 32 32 rfl (reach_fits z.2.2.1) w)
  have P3 := Lib.hid (fun w => refPlain_int e.group 32 32 rfl (reach_fits z.2.2.2.1) w)
  have W1 := Lib.hid (fun w => within_any e.mode 0 4095 w)
  have W2 := Lib.hid (fun w => within_any e.uid 0 1099511627775 w)
  have W3 := Lib.hid (fun w => within_any e.gid 0 1099511627775 w)
  have W4 := Lib.hid (fun w => within_any e.major 0 (2097151 * (if D then 1 else 0)) w)
  have W5 := Lib.hid (fun w => within_any e.minor 0 (2097151 * (if D then 1 else 0)) w)
  have W6 := Lib.hid (fun w => within_any e.size 0 4000 w)
  have T := Lib.hid (fun w => St.refRight_any e.sec e.nano w)
  have O := Lib.hid (fun w => one_any D w)
  have CP := Lib.hid (fun w => refSparse_any e ad cap (reach_fits z.2.2.2.2) w)
  have CR := Lib.hid (fun W (h : Below w.heap.size w W) => rightB_any ad cap e.map e.size hsz ho.map ho.fits W (HM.out W h))
  have CZ := Lib.hid (fun W (h : Below w.heap.size w W) => sizeB_any ad cap e.map ho.map ho.fits W (HM.out W h))
  rw [hK] at CW
  rw [hb4] at P0
  rw [hb5] at P1
  rw [hb6] at P2
  rw [hb7] at P3
  rw [← fitsI_dec, hm1] at W1
  rw [← fitsI_dec, hm2] at W2
  rw [← fitsI_dec, hm3] at W3
  rw [← fitsI_dec, hmj] at W4
  rw [← fitsI_dec, hmn] at W5
  rw [← fitsI_dec, hm5] at W6
  rw [htR] at T
  rw [hsp] at CP
  rw [hmr] at CR
  clear ho hM z hK hb0 hb1 hb4 hb5 hb6 hb7 hm1 hm2 hm3 htR hbl hmj hmn hm5 hsp hmr hdE
  generalize sizeF 0 e.map = S at *
  unfold entC at hB hE
  unfold entV at CP ⊢
  generalize e.map.length = n at *
  have hD1 : (2097151 : Int) * (if D then 1 else 0) = (if D then 2097151 else 0) := by cases D <;> rfl
  go_enter Tryz.func76, Tryz.ntmps76
  go_upto_region 1 with fail
  go_cut [3] (fun s3 wx => s3 = .bool L ∧ wx = w.alloc (.cells #[.string (mkS e.name), .int .u8 (e.kind.toNat : Int), .int .i64 e.mode, .int .i64 e.uid, .int .i64 e.gid, .int .i64 e.size, .int .i64 e.sec, .int .i64 e.nano, .string (mkS e.link), .string (mkS e.user), .string (mkS e.group), .int .i64 e.major, .int .i64 e.minor, .string (mkS e.data), .slice ad n cap] 28))
  case first =>
    subst hL
    cases x49 <;> cases x50
    all_goals
      go_wp2
      go_meet
      exact ⟨rfl, rfl⟩
  case rest =>
    obtain ⟨rfl, rfl⟩ := hcut
    go_upto_region 2 with fail
    go_cut [4] (fun s4 wx => s4 = .bool D ∧ wx = w.alloc (.cells #[.string (mkS e.name), .int .u8 (e.kind.toNat : Int), .int .i64 e.mode, .int .i64 e.uid, .int .i64 e.gid, .int .i64 e.size, .int .i64 e.sec, .int .i64 e.nano, .string (mkS e.link), .string (mkS e.user), .string (mkS e.group), .int .i64 e.major, .int .i64 e.minor, .string (mkS e.data), .slice ad n cap] 28))
    case first =>
      subst hD
      cases x51 <;> cases x52
      all_goals
        go_wp2
        go_meet
        exact ⟨rfl, rfl⟩
    case rest =>
      obtain ⟨rfl, rfl⟩ := hcut
      clear y49 y50 y51 y52 hL hD hD1
      obtain ⟨q, hq⟩ : ∃ q : Int, (if D then 1 else 0 : Int) = q := ⟨_, rfl⟩
      have hq1 : 0 ≤ q ∧ q ≤ 1 := by rw [← hq]; cases D <;> simp
      rw [hq] at O W4 W5
      clear hq
      obtain ⟨hq0, hq1⟩ := hq1
      obtain ⟨rfl, rfl, rfl, rfl, rfl, rfl, rfl, rfl, rfl, rfl, rfl, rfl, rfl, rfl, rfl, rfl⟩ := HOK.out
      clear HOK
      obtain ⟨c, hp1, hc, hix⟩ := IX rfl
      clear IX
      go_wp2_with (first
        | (go_at_call 29; (with_reducible refine (CW.out _).mono ?_); rintro r w' ⟨rfl, hw⟩; subst hw)
        | (go_at_call 129; (with_reducible refine (P0.out _).mono ?_); rintro r w' ⟨rfl, hw⟩; replace hw := hw.symm; subst hw)
        | (go_at_call 129; (with_reducible refine (P1.out _).mono ?_); rintro r w' ⟨rfl, hw⟩; replace hw := hw.symm; subst hw)
        | (go_at_call 129; (with_reducible refine (P2.out _).mono ?_); rintro r w' ⟨rfl, hw⟩; replace hw := hw.symm; subst hw)
        | (go_at_call 129; (with_reducible refine (P3.out _).mono ?_); rintro r w' ⟨rfl, hw⟩; replace hw := hw.symm; subst hw)
        | (go_at_call 29; (with_reducible refine (W1.out _).mono ?_); rintro r w' ⟨rfl, hw⟩; subst hw)
        | (go_at_call 29; (with_reducible refine (W2.out _).mono ?_); rintro r w' ⟨rfl, hw⟩; subst hw)
        | (go_at_call 29; (with_reducible refine (W3.out _).mono ?_); rintro r w' ⟨rfl, hw⟩; subst hw)
        | (go_at_call 126; (with_reducible refine (T.out _).mono ?_); rintro r w2 ⟨rfl, h2⟩; have hB2 := Lib.hid (hB.out.trans (h2.mono hB.out.size)); have hE2 := Lib.hid (hE.out.below h2 hE.out.lt); clear h2; obtain ⟨c0, c1, c2, c3, c4, c5, c6, c7, c8, c9, c10, c11, c12, c13, c14⟩ := id hE2.out)
        | fail)
      have v0 := fun d os => cell_regrown c0 d os
      have v1 := fun d os => cell_regrown c1 d os
      have v2 := fun d os => cell_regrown c2 d os
      have v3 := fun d os => cell_regrown c3 d os
      have v4 := fun d os => cell_regrown c4 d os
      have v5 := fun d os => cell_regrown c5 d os
      have v6 := fun d os => cell_regrown c6 d os
      have v7 := fun d os => cell_regrown c7 d os
      have v8 := fun d os => cell_regrown c8 d os
      have v9 := fun d os => cell_regrown c9 d os
      have v10 := fun d os => cell_regrown c10 d os
      have v11 := fun d os => cell_regrown c11 d os
      have v12 := fun d os => cell_regrown c12 d os
      have v13 := fun d os => cell_regrown c13 d os
      have v14 := fun d os => cell_regrown c14 d os
      refine wp_region_quiet_below (by kernel_rfl) (by kernel_rfl) ?_
      repeat (go_big_quiet_step (first
        | (go_at_call 125; with_reducible exact Calls.regrown_of (regrown_eq (O.out _)))
        | (go_at_call 29; with_reducible exact Calls.regrown_of (regrown_eq2 (W4.out _)))))
      refine wpQuiet_nil ?_
      intro _ hw'
      obtain ⟨⟨dq, osq⟩, hw''⟩ := hw'
      subst hw''
      have hB3 := Lib.hid (hB2.out.trans ((below_regrown _ dq osq).mono hB2.out.size))
      have hE3 := Lib.hid (hE2.out.regrown dq osq)
      dsimp only at *
      generalize Sort.grow (redrawn _ dq) osq = w3 at *
      clear v0 v1 v2 v3 v4 v5 v6 v7 v8 v9 v10 v11 v12 v13 v14
      clear c0 c1 c2 c3 c4 c5 c6 c7 c8 c9 c10 c11 c12 c13 c14
      obtain ⟨c0, c1, c2, c3, c4, c5, c6, c7, c8, c9, c10, c11, c12, c13, c14⟩ := id hE3.out
      go_wp2_with fail
      have v0 := fun d os => cell_regrown c0 d os
      have v1 := fun d os => cell_regrown c1 d os
      have v2 := fun d os => cell_regrown c2 d os
      have v3 := fun d os => cell_regrown c3 d os
      have v4 := fun d os => cell_regrown c4 d os
      have v5 := fun d os => cell_regrown c5 d os
      have v6 := fun d os => cell_regrown c6 d os
      have v7 := fun d os => cell_regrown c7 d os
      have v8 := fun d os => cell_regrown c8 d os
      have v9 := fun d os => cell_regrown c9 d os
      have v10 := fun d os => cell_regrown c10 d os
      have v11 := fun d os => cell_regrown c11 d os
      have v12 := fun d os => cell_regrown c12 d os
      have v13 := fun d os => cell_regrown c13 d os
      have v14 := fun d os => cell_regrown c14 d os
      refine wp_region_quiet_below (by kernel_rfl) (by kernel_rfl) ?_
      repeat (go_big_quiet_step (first
        | (go_at_call 125; with_reducible exact Calls.regrown_of (regrown_eq (O.out _)))
        | (go_at_call 29; with_reducible exact Calls.regrown_of (regrown_eq2 (W5.out _)))))
      refine wpQuiet_nil ?_
      intro _ hw'
      obtain ⟨⟨dq, osq⟩, hw''⟩ := hw'
      subst hw''
      have hB4 := Lib.hid (hB3.out.trans ((below_regrown _ dq osq).mono hB3.out.size))
      have hE4 := Lib.hid (hE3.out.regrown dq osq)
      dsimp only at *
      generalize Sort.grow (redrawn _ dq) osq = w4 at *
      clear v0 v1 v2 v3 v4 v5 v6 v7 v8 v9 v10 v11 v12 v13 v14
      clear c0 c1 c2 c3 c4 c5 c6 c7 c8 c9 c10 c11 c12 c13 c14
      obtain ⟨c0, c1, c2, c3, c4, c5, c6, c7, c8, c9, c10, c11, c12, c13, c14⟩ := id hE4.out
      cases m5 with
      | false =>
        go_wp2_with (go_at_call 29; (with_reducible refine (W6.out _).mono ?_); rintro r w' ⟨rfl, hw⟩; subst hw)
        go_ret
        exact ⟨rfl, hB4.out⟩
      | true =>
        go_wp2_with (go_at_call 29; (with_reducible refine (W6.out _).mono ?_); rintro r w' ⟨rfl, hw⟩; subst hw)
        have v0 := fun d os => cell_regrown c0 d os
        have v1 := fun d os => cell_regrown c1 d os
        have v2 := fun d os => cell_regrown c2 d os
        have v3 := fun d os => cell_regrown c3 d os
        have v4 := fun d os => cell_regrown c4 d os
        have v5 := fun d os => cell_regrown c5 d os
        have v6 := fun d os => cell_regrown c6 d os
        have v7 := fun d os => cell_regrown c7 d os
        have v8 := fun d os => cell_regrown c8 d os
        have v9 := fun d os => cell_regrown c9 d os
        have v10 := fun d os => cell_regrown c10 d os
        have v11 := fun d os => cell_regrown c11 d os
        have v12 := fun d os => cell_regrown c12 d os
        have v13 := fun d os => cell_regrown c13 d os
        have v14 := fun d os => cell_regrown c14 d os
        have HB5 := Lib.hid (fun d os => hB4.out.trans ((below_regrown w4 d os).mono hB4.out.size))
        cases sp
        case' true => cases mr
        all_goals
          refine wp_region_quiet_below (by kernel_rfl) (by kernel_rfl) ?_
          repeat (go_big_quiet_step (first
            | (go_at_call 88; with_reducible exact Calls.regrown_of (CP.out _))
            | (go_at_call 130; with_reducible exact Calls.regrown_of (CR.out _ (HB5.out _ _)))
            | (go_at_call 131; with_reducible exact Calls.regrown_of (CZ.out _ (HB5.out _ _)))))
          refine wpQuiet_nil ?_
          intro _ hw'
          obtain ⟨⟨dq, osq⟩, hw''⟩ := hw'
          subst hw''
          have hq := Lib.hid (HB5.out dq osq)
          dsimp only at *
          generalize Sort.grow (redrawn _ dq) osq = w5 at *
          go_wp2_with fail
          go_ret
          exact ⟨by first | rfl | (cases eqd <;> rfl) | (simp [endF]), hq.out⟩
set_option maxHeartbeats 4000000 in
theorem refRight_at (e : EntL) (ad : Option Addr) (cap : Nat) (ho : EntOk e) (K b0 b1 b4 b5 b6 b7 m1 m2 m3 tR L D bl mj mn x48 m5 sp mr z0 dE mE eqd : Bool) (w : World) (hM : PiecesAt w ad e.map)
    (hK : decide (48 ≤ (e.kind.toNat : Int) ∧ (e.kind.toNat : Int) ≤ 54) = K) (hb0 : decide (e.name = []) = b0) (hb1 : endsS e.name = b1) (hb4 : txtOk e.name 120 = b4) (hb5 : txtOk e.link 120 = b5) (hb6 : txtOk e.user 32 = b6) (hb7 : txtOk e.group 32 = b7)
    (hm1 : fitsI e.mode 4095 = m1) (hm2 : fitsI e.uid 1099511627775 = m2) (hm3 : fitsI e.gid 1099511627775 = m3) (htR : St.rightB e.sec e.nano = tR) (hL : isLinkB e.kind = L) (hD : isDevB e.kind = D) (hbl : decide (e.link = []) = bl)
    (hmj : fitsI e.major (2097151 * (if D then 1 else 0)) = mj) (hmn : fitsI e.minor (2097151 * (if D then 1 else 0)) = mn) (hx : ((e.kind.toNat : Int) == 48) = x48) (hm5 : fitsI e.size 4000 = m5) (hsp : sparseE e = sp) (hmr : mapRight e.map e.size = mr)
    (hz0 : (e.size == 0) = z0) (hdE : decide (e.data = []) = dE) (hmE : ((e.map.length : Int) == 0) = mE) (heqd : (sizeF 0 e.map == (e.data.length : Int)) = eqd) :
    Calls Tryz.prog 76 #[entV e (.slice ad e.map.length cap)] w fun r w' => r = .returned (.bool (K && (!b0 && (!b1 && (b4 && (b5 && (b6 && (b7 && (m1 && (m2 && (m3 && (tR && ((L != bl) && (mj && (mn && endF x48 m5 sp mr eqd z0 dE mE))))))))))))))) ∧ Below w.heap.size w w' := by
  by_cases hA : K = false ∨ b0 = true ∨ b1 = true ∨ b4 = false ∨ b5 = false ∨ b6 = false ∨ b7 = false
  · exact refRight_a e ad cap ho K b0 b1 b4 b5 b6 b7 m1 m2 m3 tR L D bl mj mn x48 m5 sp mr z0 dE mE eqd w hM hK hb0 hb1 hb4 hb5 hb6 hb7 hm1 hm2 hm3 htR hL hD hbl hmj hmn hx hm5 hsp hmr hz0 hdE hmE heqd hA
  by_cases hBb : m1 = false ∨ m2 = false ∨ m3 = false ∨ tR = false
  · exact refRight_b e ad cap ho K b0 b1 b4 b5 b6 b7 m1 m2 m3 tR L D bl mj mn x48 m5 sp mr z0 dE mE eqd w hM hK hb0 hb1 hb4 hb5 hb6 hb7 hm1 hm2 hm3 htR hL hD hbl hmj hmn hx hm5 hsp hmr hz0 hdE hmE heqd (by simp at hA; simp [hA]) hBb
  have ok : K = true ∧ b0 = false ∧ b1 = false ∧ b4 = true ∧ b5 = true ∧ b6 = true ∧ b7 = true ∧ m1 = true ∧ m2 = true ∧ m3 = true ∧ tR = true := by simp at hA hBb; simp [hA, hBb]
  obtain ⟨k0, k1, k2, k3, k4, k5, k6, k7, k8, k9, k10⟩ := ok
  by_cases hL2 : L = bl
  · exact refRight_c e ad cap ho K b0 b1 b4 b5 b6 b7 m1 m2 m3 tR L D bl mj mn x48 m5 sp mr z0 dE mE eqd w hM hK hb0 hb1 hb4 hb5 hb6 hb7 hm1 hm2 hm3 htR hL hD hbl hmj hmn hx hm5 hsp hmr hz0 hdE hmE heqd ⟨k0, k1, k2, k3, k4, k5, k6, k7, k8, k9, k10⟩ hL2
  have l2 : L = !bl := by revert hL2; cases L <;> cases bl <;> simp
  by_cases hj : mj = false
  · exact refRight_d e ad cap ho K b0 b1 b4 b5 b6 b7 m1 m2 m3 tR L D bl mj mn x48 m5 sp mr z0 dE mE eqd w hM hK hb0 hb1 hb4 hb5 hb6 hb7 hm1 hm2 hm3 htR hL hD hbl hmj hmn hx hm5 hsp hmr hz0 hdE hmE heqd ⟨k0, k1, k2, k3, k4, k5, k6, k7, k8, k9, k10, l2⟩ hj
  replace hj : mj = true := by simpa using hj
  by_cases hn : mn = false
  · exact refRight_e e ad cap ho K b0 b1 b4 b5 b6 b7 m1 m2 m3 tR L D bl mj mn x48 m5 sp mr z0 dE mE eqd w hM hK hb0 hb1 hb4 hb5 hb6 hb7 hm1 hm2 hm3 htR hL hD hbl hmj hmn hx hm5 hsp hmr hz0 hdE hmE heqd ⟨k0, k1, k2, k3, k4, k5, k6, k7, k8, k9, k10, l2, hj⟩ hn
  replace hn : mn = true := by simpa using hn
  by_cases h48 : x48 = false
  · by_cases hl : bl = false
    · exact refRight_ff e ad cap ho K b0 b1 b4 b5 b6 b7 m1 m2 m3 tR L D bl mj mn x48 m5 sp mr z0 dE mE eqd w hM hK hb0 hb1 hb4 hb5 hb6 hb7 hm1 hm2 hm3 htR hL hD hbl hmj hmn hx hm5 hsp hmr hz0 hdE hmE heqd ⟨k0, k1, k2, k3, k4, k5, k6, k7, k8, k9, k10, l2, hj, hn, h48, hl⟩
    · exact refRight_ft e ad cap ho K b0 b1 b4 b5 b6 b7 m1 m2 m3 tR L D bl mj mn x48 m5 sp mr z0 dE mE eqd w hM hK hb0 hb1 hb4 hb5 hb6 hb7 hm1 hm2 hm3 htR hL hD hbl hmj hmn hx hm5 hsp hmr hz0 hdE hmE heqd ⟨k0, k1, k2, k3, k4, k5, k6, k7, k8, k9, k10, l2, hj, hn, h48, by simpa using hl⟩
  replace h48 : x48 = true := by simpa using h48
  by_cases hl : bl = false
  · exact refRight_gf e ad cap ho K b0 b1 b4 b5 b6 b7 m1 m2 m3 tR L D bl mj mn x48 m5 sp mr z0 dE mE eqd w hM hK hb0 hb1 hb4 hb5 hb6 hb7 hm1 hm2 hm3 htR hL hD hbl hmj hmn hx hm5 hsp hmr hz0 hdE hmE heqd ⟨k0, k1, k2, k3, k4, k5, k6, k7, k8, k9, k10, l2, hj, hn, h48, hl⟩
  exact refRight_gt e ad cap ho K b0 b1 b4 b5 b6 b7 m1 m2 m3 tR L D bl mj mn x48 m5 sp mr z0 dE mE eqd w hM hK hb0 hb1 hb4 hb5 hb6 hb7 hm1 hm2 hm3 htR hL hD hbl hmj hmn hx hm5 hsp hmr hz0 hdE hmE heqd ⟨k0, k1, k2, k3, k4, k5, k6, k7, k8, k9, k10, l2, hj, hn, h48, by simpa using hl⟩
theorem rightD_form (e : EntL) : rightD e = (decide (48 ≤ (e.kind.toNat : Int) ∧ (e.kind.toNat : Int) ≤ 54) && endF ((e.kind.toNat : Int) == 48) (fitsI e.size 4000) (sparseE e) (mapRight e.map e.size) (sizeF 0 e.map == (e.data.length : Int)) (e.size == 0) (decide (e.data = [])) ((e.map.length : Int) == 0)) := by
  have hz : ∀ k : UInt8, e.kind = k → (k = 49 ∨ k = 50 ∨ k = 51 ∨ k = 52 ∨ k = 53 ∨ k = 54) → rightD e = (decide (48 ≤ (e.kind.toNat : Int) ∧ (e.kind.toNat : Int) ≤ 54) && endF ((e.kind.toNat : Int) == 48) (fitsI e.size 4000) (sparseE e) (mapRight e.map e.size) (sizeF 0 e.map == (e.data.length : Int)) (e.size == 0) (decide (e.data = [])) ((e.map.length : Int) == 0)) := fun k hk h6 => by
    have h1 : decide (48 ≤ (e.kind.toNat : Int) ∧ (e.kind.toNat : Int) ≤ 54) = true := by rw [hk]; rcases h6 with rfl | rfl | rfl | rfl | rfl | rfl <;> decide
    have h2 : ((e.kind.toNat : Int) == 48) = false := by rw [hk]; rcases h6 with rfl | rfl | rfl | rfl | rfl | rfl <;> decide
    have h3 : ¬ e.kind = 48 := by rw [hk]; rcases h6 with rfl | rfl | rfl | rfl | rfl | rfl <;> decide
    have h4 : 49 ≤ e.kind ∧ e.kind ≤ 54 := by rw [hk]; rcases h6 with rfl | rfl | rfl | rfl | rfl | rfl <;> decide
    unfold rightD endF sparseE
    rw [h1, h2, if_neg h3, if_pos h4]
    by_cases hs : e.size = 0
    · rw [hs]
      by_cases hm : e.map = []
      · rw [hm]
        by_cases hd : e.data = []
        · rw [hd]; rfl
        · have : ¬ e.data.length = 0 := fun h => hd (List.length_eq_zero_iff.1 h)
          simp [hd, this]
      · have : 0 < e.map.length := List.length_pos_iff.2 hm
        simp [this, hm]
    · simp [hs]
  rcases kind_cases e.kind with h | h | h | h | h | h | h | ⟨h0, h1, h2, h3, h4, h5, h6, h7, h8⟩
  · have h1 : decide (48 ≤ (e.kind.toNat : Int) ∧ (e.kind.toNat : Int) ≤ 54) = true := by rw [h]; decide
    have h2 : ((e.kind.toNat : Int) == 48) = true := by rw [h]; decide
    unfold rightD endF
    rw [h1, h2, if_pos h, if_pos rfl, Bool.true_and]
    congr 1
    congr 1
    congr 1
    by_cases hd : (e.data.length : Int) = sizeF 0 e.map
    · rw [decide_eq_true hd, hd]; simp
    · rw [decide_eq_false hd]; symm; rw [beq_eq_false_iff_ne]; exact fun h => hd h.symm
  · exact hz _ h (.inl rfl)
  · exact hz _ h (.inr (.inl rfl))
  · exact hz _ h (.inr (.inr (.inl rfl)))
  · exact hz _ h (.inr (.inr (.inr (.inl rfl))))
  · exact hz _ h (.inr (.inr (.inr (.inr (.inl rfl)))))
  · exact hz _ h (.inr (.inr (.inr (.inr (.inr rfl)))))
  · unfold rightD
    rw [if_neg h7, if_neg h8, decide_eq_false (by omega), Bool.false_and]
theorem refRightE_any (e : EntL) (ad : Option Addr) (cap : Nat) (ho : EntOk e) (w : World) (hM : PiecesAt w ad e.map) :
    Calls Tryz.prog 76 #[entV e (.slice ad e.map.length cap)] w fun r w' => r = .returned (.bool (rightE e)) ∧ Below w.heap.size w w' := by
  refine (refRight_at e ad cap ho _ _ _ _ _ _ _ _ _ _ _ _ _ _ _ _ _ _ _ _ _ _ _ _ w hM rfl rfl rfl rfl rfl rfl rfl rfl rfl rfl rfl rfl rfl rfl rfl rfl rfl rfl rfl rfl rfl rfl rfl rfl).mono fun r w' ⟨hr, hb⟩ => ⟨?_, hb⟩
  rw [hr]
  congr 2
  unfold rightE rightT rightN
  rw [rightD_form, show (2097151 : Int) * (if isDevB e.kind = true then 1 else 0) = devMost e.kind by unfold devMost; cases isDevB e.kind <;> rfl,
    show (!decide (e.link = []) == isLinkB e.kind) = (isLinkB e.kind != decide (e.link = [])) by cases decide (e.link = []) <;> cases isLinkB e.kind <;> rfl]
  ac_rfl
end Go.Proofs.YthnonmniponahaaGreatDoor
end
