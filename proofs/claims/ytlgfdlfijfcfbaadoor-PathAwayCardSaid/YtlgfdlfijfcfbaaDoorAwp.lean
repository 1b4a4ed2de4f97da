/- path.Away. -/
import Derived.Test.YtlgfdlfijfcfbaaDoorRgp
import Derived.Test.YtlgfdlfijfcfbaaDoorPtn
import Derived.Test.YtlgfdlfijfcfbaaDoorSl
import Derived.Lib.MinMax
import Derived.Lib.SmallJoins
namespace Go.Proofs.YtlgfdlfijfcfbaaDoor
open Go.RowKit Go.Joins
set_option linter.unusedVariables false

theorem repeatL_ups : ∀ k, Lib.repeatL [46, 46, 47] k = upsL k
  | 0 => rfl
  | k + 1 => by rw [upsL_succ, ← repeatL_ups k]; rfl
theorem repeat_any (k : Nat) (hk : k ≤ 1000000) (w : World) :
    Calls Tryd.prog 41 #[.string ⟨#[46, 46, 47]⟩, .int .i64 (k : Int)] w fun e w' => e = .returned (.string (mkS (upsL k))) ∧ Below w.heap.size w w' := by
  have h := Tryd.strings_Repeat ⟨#[46, 46, 47]⟩ k w (by omega) (by show 3 * k ≤ _; omega)
  refine h.mono fun e w' ⟨he, hw⟩ => ⟨?_, hw⟩
  rw [he, ← repeatL_ups k]
  rfl

set_option maxRecDepth 100000 in
set_option maxHeartbeats 4000000 in
theorem away_any (a b : List UInt8) (ha : rightB a = true) (hb : rightB b = true) (w : World) :
    Calls Tryd.prog 24 #[.string (mkS a), .string (mkS b)] w fun e w' => e = .returned (.string (mkS (awayL a b))) ∧ Below w.heap.size w w' := by
  obtain ⟨-, a2, -, -, -, -, a7, a8⟩ := right_facts a ha
  obtain ⟨-, b2, -, -, -, -, b7, b8⟩ := right_facts b hb
  have R1 := Lib.hid (show ∀ w, Calls Tryd.prog 17 #[.string (mkS a)] w fun e w' => e = .returned (.bool true) ∧ Below w.heap.size w w' from fun w => by have := right_any a w; rwa [ha] at this)
  have R2 := Lib.hid (show ∀ w, Calls Tryd.prog 17 #[.string (mkS b)] w fun e w' => e = .returned (.bool true) ∧ Below w.heap.size w w' from fun w => by have := right_any b w; rwa [hb] at this)
  have P1 := Lib.hid (fun n hn w => parts_n a (by omega) (partsL a) rfl n hn w)
  have P2 := Lib.hid (fun n hn w => parts_n b (by omega) (partsL b) rfl n hn w)
  have hx1 : 1 ≤ (partsL a).length := List.length_pos_iff.2 a7
  have hy1 : 1 ≤ (partsL b).length := List.length_pos_iff.2 b7
  have hyw : wt (partsL b) ≤ 1000 := by have := wt_parts b; omega
  unfold awayL
  generalize partsL a = X at *
  generalize partsL b = Y at *
  obtain ⟨nx, hnx⟩ : ∃ nx, X.length = nx := ⟨_, rfl⟩
  obtain ⟨ny, hny⟩ : ∃ ny, Y.length = ny := ⟨_, rfl⟩
  obtain ⟨m, hm⟩ : ∃ m : Nat, min (nx : Int) (ny : Int) - 1 = (m : Int) := ⟨(min (nx : Int) (ny : Int) - 1).toNat, by omega⟩
  have hmN : min X.length Y.length - 1 = m := by omega
  have hAw := Lib.hid (show awayP X Y = upsL (nx - 1 - commL m X Y) ++ joinS (Y.drop (commL m X Y)) by unfold awayP; rw [hmN, hnx])
  have hcl := commL_le m X Y
  have hmx : m < nx := by omega
  have hmy : m < ny := by omega
  have HL := Lib.hid (And.intro hnx hny)
  have hx12 : nx ≤ 12 := by omega
  have hy12 : ny ≤ 12 := by omega
  have hm12 : m ≤ 12 := by omega
  have P1 := Lib.hid (P1.out nx hnx)
  have P2 := Lib.hid (P2.out ny hny)
  have HC := Lib.hid (fun k h1 h2 => commL_more m k X Y h1 h2 (by rw [hnx]; omega) (by rw [hny]; omega))
  obtain ⟨cm, hcm⟩ : ∃ cm, commL m X Y = cm := ⟨_, rfl⟩
  rw [hcm] at hAw HC hcl
  clear ha hb a7 b7 hmN hnx hny hcm hx1 hy1 a8 b8
  go_enter Tryd.func24, Tryd.ntmps24
  go_wp2_with fail
  go_at_call 17
  refine (R1.out _).mono ?_
  rintro e w1 ⟨rfl, h1⟩
  go_wp2_with fail
  go_at_call 17
  refine (R2.out _).mono ?_
  rintro e w2 ⟨rfl, h2⟩
  go_wp2_with fail
  go_at_call 13
  refine (P1.out _).mono ?_
  rintro e w3 ⟨⟨d1, c1, rfl, hc1, s1⟩, h3⟩
  have S1 := Lib.hid s1
  clear s1
  go_wp2_with fail
  go_at_call 13
  refine (P2.out _).mono ?_
  rintro e w4 ⟨⟨d2, c2, rfl, hc2, s2⟩, h4⟩
  have S1' := Lib.hid (S1.out.below h4)
  have S2 := Lib.hid s2
  have HB := Lib.hid (show Below w.heap.size w w4 from h1.trans ((h2.trans ((h3.trans (h4.mono h3.size)).mono h2.size)).mono h1.size))
  clear s2 h1 h2 h3 h4 S1 R1 R2 P1 P2
  go_wp2
  clear hm
  obtain ⟨u, hu⟩ : ∃ u : Nat, nx - 1 - cm = u := ⟨_, rfl⟩
  rw [hu] at hAw
  have hup : (nx : Int) - 1 - (cm : Int) = (u : Int) := by omega
  have hu12 : u ≤ 12 := by omega
  have HU := Lib.hid hup
  obtain ⟨ad2, c2', hsl, hdr⟩ := sl_onward _ ny c2 cm Y w4 S2.out (by omega)
  have HDR := Lib.hid hdr
  have HSL := Lib.hid hsl
  have hwd : wt (Y.drop cm) ≤ 1000 := Nat.le_trans (wt_drop cm Y) hyw
  clear hu hup hdr hsl
  go_loopg [8] m (fun g s8 wr => ∃ k : Nat, k ≤ cm ∧ m - k ≤ g ∧ s8 = .int .i64 (k : Int) ∧ Aside (Below w4.heap.size w4 wr))
  case atStart => exact ⟨0, Nat.zero_le _, by omega, rfl, Below.refl _ _⟩
  case round =>
    obtain ⟨k, hk, hg, rfl, A⟩ := hrel
    have hB4 := Lib.hid A.out
    have T1 := Lib.hid (S1'.out.below hB4.out)
    have T2 := Lib.hid (S2.out.below hB4.out)
    clear A
    by_cases hkm : k < m
    · obtain ⟨x, hx⟩ : ∃ x, X[k]? = some x := ⟨_, List.getElem?_eq_getElem (by rw [HL.out.1]; omega)⟩
      obtain ⟨y, hy⟩ : ∃ y, Y[k]? = some y := ⟨_, List.getElem?_eq_getElem (by rw [HL.out.2]; omega)⟩
      obtain ⟨q1, o1, rfl, e1, _⟩ := T1.out.at k x hx
      obtain ⟨q2, o2, rfl, e2, _⟩ := T2.out.at k y hy
      have se := sEq x y
      have hmore := HC.out k hk hkm
      by_cases hxy : x = y
      · rw [decide_eq_true hxy] at se
        have hk2 : k + 1 ≤ cm := hmore.2 (by rw [hx, hy, hxy])
        clear hmore hx hy hxy
        go_wp2
        go_quiet (fail)
        go_wp2
        go_roundg (m - (k + 1))
        case measure => omega
        case rel => exact ⟨k + 1, hk2, by omega, by go_num, hB4.out.trans (below_draws _ _ _)⟩
      · rw [decide_eq_false hxy] at se
        have hk2 : cm = k := by
          by_cases h : k < cm
          · have := hmore.1 h
            rw [hx, hy] at this
            exact absurd (Option.some.inj this) hxy
          · omega
        subst hk2
        clear hmore hx hy hxy
        go_wp2
        go_quiet (fail)
        have hup := HU.out
        go_wp2
        have hB5 : Below w4.heap.size w4 (wr.drewN nq) := hB4.out.trans (below_draws _ _ _)
        generalize wr.drewN nq = W5 at hB5 ⊢
        have J := Lib.hid (show ∀ W, Below W5.heap.size W5 W → Calls Tryd.prog 33 #[.slice ad2 (ny - cm) c2', .string ⟨#[47]⟩] W fun e w'' => e = .returned (.string (mkS (joinS (Y.drop cm)))) ∧ Below W.heap.size W w'' from fun W h => join_mk _ (Y.drop cm) (by omega) W (HDR.out W ((S2.out.below hB5).below h)))
        have Rp := Lib.hid (fun W => repeat_any u (by omega) W)
        have hsl := HSL.out
        have hcat := fun w => mkS_cat (upsL u) (joinS (Y.drop cm)) (by have := joinS_wt (Y.drop cm); rw [upsL_length]; omega) w
        have HB5 := Lib.hid hB5
        clear hB5
        refine wp_region_quiet_below (by kernel_rfl) (by kernel_rfl) ?_
        repeat (go_big_quiet_step ((first
          | (go_at_call 41; with_reducible exact Calls.regrown_of (Rp.out _))
          | (go_at_call 33; with_reducible exact Calls.regrown_of (J.out _ (below_regrown _ _ _))))))
        refine wpQuiet_nil ?_
        intro _ hw'
        obtain ⟨⟨dq, osq⟩, hw''⟩ := hw'
        subst hw''
        go_wp2
        go_ret
        exact ⟨by rw [hAw.out]; rfl, HB.out.trans ((HB5.out.trans ((below_regrown W5 dq osq).mono HB5.out.size)).mono HB.out.size)⟩
    · have hk2 : k = m := by omega
      have hk3 : cm = k := by omega
      subst hk3
      clear hk2
      have hup := HU.out
      go_wp2
      go_quiet (fail)
      go_wp2
      have hB5 : Below w4.heap.size w4 (wr.drewN nq) := hB4.out.trans (below_draws _ _ _)
      generalize wr.drewN nq = W5 at hB5 ⊢
      have J := Lib.hid (show ∀ W, Below W5.heap.size W5 W → Calls Tryd.prog 33 #[.slice ad2 (ny - cm) c2', .string ⟨#[47]⟩] W fun e w'' => e = .returned (.string (mkS (joinS (Y.drop cm)))) ∧ Below W.heap.size W w'' from fun W h => join_mk _ (Y.drop cm) (by omega) W (HDR.out W ((S2.out.below hB5).below h)))
      have Rp := Lib.hid (fun W => repeat_any u (by omega) W)
      have hsl := HSL.out
      have hcat := fun w => mkS_cat (upsL u) (joinS (Y.drop cm)) (by have := joinS_wt (Y.drop cm); rw [upsL_length]; omega) w
      have HB5 := Lib.hid hB5
      clear hB5
      refine wp_region_quiet_below (by kernel_rfl) (by kernel_rfl) ?_
      repeat (go_big_quiet_step ((first
        | (go_at_call 41; with_reducible exact Calls.regrown_of (Rp.out _))
        | (go_at_call 33; with_reducible exact Calls.regrown_of (J.out _ (below_regrown _ _ _))))))
      refine wpQuiet_nil ?_
      intro _ hw'
      obtain ⟨⟨dq, osq⟩, hw''⟩ := hw'
      subst hw''
      go_wp2
      go_ret
      exact ⟨by rw [hAw.out]; rfl, HB.out.trans ((HB5.out.trans ((below_regrown W5 dq osq).mono HB5.out.size)).mono HB.out.size)⟩
end Go.Proofs.YtlgfdlfijfcfbaaDoor
