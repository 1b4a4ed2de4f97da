/- The reference's Merge, walked. -/
import Derived.Test.YtheiamidochooaaLas
import Derived.Test.YtheiamidochooaaSls
namespace Go.Proofs.Ytheiamidochooaa
open Go.RowKit Go.Joins
set_option linter.unusedVariables false

/-- While pairs are being taken: what has been taken (D), in the box Bo. -/
def Taking (w2 W : World) (Bo : Nat) (L : List Pr) (i : Nat) : Prop :=
  Below w2.heap.size w2 W ∧ ∃ D v, D ++ lasts (L.drop i) = lasts L ∧ Boxed W Bo 25 v ∧ W.ownsRow w2.heap.size 23 2 v D.length (pairCells D)
theorem Taking.below {w2 W W' : World} {Bo i : Nat} {L : List Pr} (h : Taking w2 W Bo L i) (hb : Below W.heap.size W W') : Taking w2 W' Bo L i := by
  obtain ⟨h1, D, v, h2, h3, h4⟩ := h
  exact ⟨h1.trans (hb.mono h1.size), D, v, h2, (hb.block Bo h3.lt).trans h3, ownsRow_below h4 hb⟩
theorem Taking.next {w2 W : World} {Bo i : Nat} {L : List Pr} (h : Taking w2 W Bo L i) (e : lasts (L.drop i) = lasts (L.drop (i + 1))) : Taking w2 W Bo L (i + 1) := by
  obtain ⟨h1, D, v, h2, h3, h4⟩ := h
  exact ⟨h1, D, v, by rw [← e]; exact h2, h3, h4⟩
theorem taken_le {L D : List Pr} {i : Nat} (h : D ++ lasts (L.drop i) = lasts L) : D.length ≤ L.length := by
  have h1 := congrArg List.length h
  have h2 := lasts_le L
  rw [List.length_append] at h1
  omega
theorem row_slice {W : World} {base : Nat} {e : TypeId} {v : Value} {L : List Pr} (h : W.ownsRow base e 2 v L.length (pairCells L)) : ∃ ad cap, v = .slice ad L.length cap ∧ L.length ≤ cap ∧ PairsAt W ad L := by
  rcases h.2 with ⟨rfl, h0⟩ | ⟨g, cap, cur, rfl, _, _, h1, _⟩
  · obtain rfl := List.length_eq_zero_iff.1 h0
    exact ⟨none, 0, rfl, Nat.le_refl _, fun i p hi => by simp at hi⟩
  · exact ⟨_, cap, rfl, h1, pairsAt_of_row h⟩
theorem cmp_key (a b : List UInt8) : ((mkS a).toList == (mkS b).toList) = decide (a = b) := by
  rw [ByteArray.toList_eq, ByteArray.toList_eq, mkS_list, mkS_list]
  by_cases h : a = b <;> simp [h]

set_option maxRecDepth 100000 in
set_option maxHeartbeats 4000000 in
theorem refMerge_any (gb : Nat) (cp : Nat) (Ls : List (Value × List Pr)) (hk : Ls.length ≤ 3) (hl : ∀ x ∈ Ls, x.2.length ≤ 1000) (w : World) (hgb : gb < w.heap.size) (hc : ∀ (i : Nat) x, Ls[i]? = some x → w.cell? ⟨gb, i, none⟩ = some x.1 ∧ SliceIs w x.1 x.2) :
    Calls Try.prog 11 #[.slice (some ⟨gb, 0, none⟩) Ls.length cp] w fun e w' => (∃ v M, e = .returned v ∧ SliceIs w' v M ∧ MergedOf M (Ls.flatMap fun y => y.2)) ∧ Below w.heap.size w w' := by
  have htb : ∀ i, (catTo Ls i).length ≤ 3000 := fun i => by
    have := flat_bound (Ls.take i) fun x hx => hl x (List.mem_of_mem_take hx)
    have h2 : (Ls.take i).length ≤ Ls.length := by simp; omega
    unfold catTo
    omega
  have HC := Lib.hid (show ∀ (i : Nat) x W, Below w.heap.size w W → Ls[i]? = some x → W.cell? ⟨gb, i, none⟩ = some x.1 ∧ SliceIs W x.1 x.2 from fun i x W hW hx => ⟨(hW.cell (p := ⟨gb, i, none⟩) hgb).trans (hc i x hx).1, (hc i x hx).2.below hW⟩)
  have HL := Lib.hid hl
  have HT := Lib.hid htb
  obtain ⟨i0, hi, hz0, hz1, hz2⟩ := info_parts Try.infoPair
  have HI := Lib.hid (And.intro hi (And.intro hz0 (And.intro hz1 hz2)))
  clear hc hl htb hi hz0 hz1 hz2
  go_enter Try.func11, Try.ntmps11
  go_wp2
  go_loopg [14, 3] Ls.length (fun g s14 s3 wr => ∃ i : Nat, i ≤ Ls.length ∧ Ls.length - i ≤ g ∧ s14 = .int .i64 i ∧ Aside (Below w.heap.size w wr ∧ wr.ownsRow w.heap.size 23 2 s3 (catTo Ls i).length (pairCells (catTo Ls i))))
  case atStart => exact ⟨0, by omega, by omega, rfl, Below.refl _ _, World.ownsRow_nil _ _ _ _⟩
  case round =>
    obtain ⟨i, hi1, hg, rfl, A⟩ := hrel
    by_cases hil2 : i < Ls.length
    · obtain ⟨x, hx⟩ : ∃ x, Ls[i]? = some x := ⟨_, List.getElem?_eq_getElem hil2⟩
      obtain ⟨c1, ad, cap, hv, hn, hP⟩ := HC.out i x wr A.out.1 hx
      rw [hv] at c1
      have hxl := HL.out x (List.mem_of_getElem? hx)
      have hq := HT.out i
      have HS := Lib.hid (catTo_succ Ls i x hx)
      have hz := A.out.1.size
      have HA := Lib.hid A.out
      cases ad with
      | none =>
        obtain rfl := hn rfl
        have hx0 := pairsAt_none hP
        rw [hx0] at c1
        replace c1 : wr.cell? ⟨gb, i, none⟩ = some (.slice none 0 0) := c1
        have hcs : catTo Ls (i + 1) = catTo Ls i := by rw [HS.out, hx0, List.append_nil]
        have HCS := Lib.hid hcs
        clear hv hn hP hx hx0 hcs A HS hxl
        obtain ⟨hi, hz0, hz1, hz2⟩ := HI.out
        go_wp2_with (at_builtin; refine wpList_append_own_none rfl _ _ 25 rfl w.heap.size 23 i0 2 Try.underlying25 hi _ _ _ rfl HA.out.2 rfl ?_)
        go_roundg (Ls.length - (i + 1))
        case measure => omega
        case rel => exact ⟨i + 1, by omega, by omega, by first | rfl | simp, by rw [HCS.out]; exact HA.out⟩
      | some a =>
        have HP := Lib.hid hP
        obtain ⟨m, hm⟩ : ∃ m, x.2.length = m := ⟨_, rfl⟩
        obtain ⟨S0, hS0⟩ : ∃ S0, (catTo Ls i).length = S0 := ⟨_, rfl⟩
        rw [hm] at c1 hxl
        rw [hS0] at hq
        have HM := Lib.hid (And.intro hS0 hm)
        clear hv hn hP hx A hS0 hm
        obtain ⟨hi, hz0, hz1, hz2⟩ := HI.out
        go_wp2_with (at_builtin; refine wpList_append_own _ rfl _ _ 25 rfl w.heap.size 23 i0 (.agg #[.string { data := #[] }, .string { data := #[] }]) 2 32 Try.underlying25 hi hz0 hz1 hz2 rfl (by decide) _ _ _ rfl HA.out.2 a m cap (pairCells x.2) rfl (by rw [pairCells_length, HM.out.2]) (pairsAt_cells HP.out) (pairCells_one _) (by rw [HM.out.1]; unfold maxLen; omega) (by rw [HM.out.1]; omega) hz ?_; intro v' w1 hown' hgrow _)
        have HO := Lib.hid (show Below w.heap.size w w1 ∧ w1.ownsRow w.heap.size 23 2 v' (catTo Ls (i + 1)).length (pairCells (catTo Ls (i + 1))) from ⟨below_grown HA.out.1 HA.out.2 (Nat.le_refl _) hgrow, by rw [HS.out, pairCells_append, List.length_append, HM.out.2]; exact hown'⟩)
        clear hown' hgrow
        go_roundg (Ls.length - (i + 1))
        case measure => omega
        case rel => exact ⟨i + 1, by omega, by omega, by first | rfl | simp, HO.out⟩
    · obtain rfl : i = Ls.length := by omega
      have hT := HT.out Ls.length
      obtain ⟨L, hLd⟩ : ∃ L, catTo Ls Ls.length = L := ⟨_, rfl⟩
      rw [hLd] at A hT
      have HLd := Lib.hid (show L = Ls.flatMap fun y => y.2 from by rw [← hLd]; unfold catTo; rw [List.take_length])
      clear hLd hg hi1 hil2
      rename World => wa
      obtain ⟨ad, cap, rfl, hcap, hPA⟩ := row_slice A.out.2
      have HPA := Lib.hid hPA
      have HB := Lib.hid A.out.1
      obtain ⟨n, hn⟩ : ∃ n, L.length = n := ⟨_, rfl⟩
      rw [hn] at hcap hT ⊢
      have HN := Lib.hid hn
      clear A hPA hn
      have H0 := Lib.hid (show Taking wa (wa.alloc (.cells #[.slice none 0 0] 25)) wa.heap.size L 0 from ⟨below_alloc1 wa _, [], .slice none 0 0, by simp, Boxed.new _ _ _, World.ownsRow_nil _ _ _ _⟩)
      go_wp2
      go_loopg [24] n (fun g s24 wr => ∃ i : Nat, i ≤ n ∧ n - i ≤ g ∧ s24 = .int .i64 i ∧ Aside (Taking wa wr wa.heap.size L i))
      case atStart => exact ⟨0, by omega, by omega, rfl, H0.out⟩
      case round =>
        rename World => wb
        obtain ⟨i, hi1, hg, rfl, A⟩ := hrel
        by_cases hin : i < n
        · obtain ⟨p, hp⟩ : ∃ p, L[i]? = some p := ⟨_, List.getElem?_eq_getElem (by rw [HN.out]; exact hin)⟩
          obtain ⟨b, off, e0, hlt, d1, d2⟩ := (HPA.out.below A.out.1) i p hp
          subst e0
          obtain ⟨ad2, c2, hsl0, hdr⟩ := slice_onward b off n cap (i + 1) L HN.out (by omega) hcap
          have hsl : ∀ W, (Instr.slice 25 (.slice (some ⟨b, off, none⟩) n cap) (some (.int .i64 ((i : Int) + 1))) none none).run Try.prog W = .ok (.slice ad2 (n - (i + 1)) c2) W := hsl0
          obtain ⟨m, hm⟩ : ∃ m, n - (i + 1) = m := ⟨_, rfl⟩
          rw [hm] at hsl
          obtain ⟨R, hR⟩ : ∃ R, L.drop (i + 1) = R := ⟨_, rfl⟩
          have hRl : R.length = m := by rw [← hR, List.length_drop, HN.out, hm]
          have HR := Lib.hid (And.intro hR hRl)
          have hP2 : PairsAt wb ad2 R := by rw [← hR]; exact hdr _ (HPA.out.below A.out.1)
          have hmm : m ≤ 3000 := by omega
          have hb1 : Below wb.heap.size wb (wb.alloc (.cells #[.string (mkS p.1), .string (mkS p.2)] 23)) := below_alloc1 wb _
          have HP2 := Lib.hid (show ∀ W, Below (wb.alloc (.cells #[.string (mkS p.1), .string (mkS p.2)] 23)).heap.size (wb.alloc (.cells #[.string (mkS p.1), .string (mkS p.2)] 23)) W → PairsAt W ad2 R ∧ Taking wa W wa.heap.size L i ∧ wb.heap.size < W.heap.size ∧ W.cell? ⟨wb.heap.size, 0, none⟩ = some (.string (mkS p.1)) ∧ W.cell? ⟨wb.heap.size, 1, none⟩ = some (.string (mkS p.2)) from fun W hW => by
            have h2 := hb1.trans (hW.mono hb1.size)
            have hs := hW.size
            rw [World.size_alloc] at hs
            exact ⟨hP2.below h2, A.out.below h2, by omega, (hW.cell (p := ⟨wb.heap.size, 0, none⟩) (by simp)).trans (by simp), (hW.cell (p := ⟨wb.heap.size, 1, none⟩) (by simp)).trans (by simp)⟩)
          have HP := Lib.hid hp
          clear hP2 hb1 hRl hR hm hdr hsl0 A hp H0
          go_wp2
          go_loopg [34, 9] m (fun g s34 s9 wr => ∃ (j : Nat) (f : Bool), j ≤ m ∧ m - j ≤ g ∧ s34 = .int .i64 j ∧ s9 = .bool f ∧ Aside (f = allNe p.1 (R.take j) ∧ Below (wb.alloc (.cells #[.string (mkS p.1), .string (mkS p.2)] 23)).heap.size (wb.alloc (.cells #[.string (mkS p.1), .string (mkS p.2)] 23)) wr))
          case atStart => exact ⟨0, true, by omega, by omega, rfl, rfl, by simp [allNe], Below.refl _ _⟩
          case round =>
            rename World => wc
            obtain ⟨j, f, hj1, hgj, rfl, rfl, A⟩ := hrel
            have HA := Lib.hid A.out
            obtain ⟨_, _, hz1, pc1, pc2⟩ := HP2.out wc HA.out.2
            by_cases hjm : j < m
            · obtain ⟨q, hq⟩ : ∃ q, R[j]? = some q := ⟨_, List.getElem?_eq_getElem (by rw [HR.out.2]; exact hjm)⟩
              obtain ⟨b2, off2, e0, hlt2, x1, x2⟩ := (HP2.out wc HA.out.2).1 j q hq
              subst e0
              have HS := Lib.hid (allNe_take p.1 R j q hq)
              have HB3 := Lib.hid (HA.out.2.alloc HA.out.2.size (.cells #[.string (mkS q.1), .string (mkS q.2)] 23))
              have y1 : (wc.alloc (.cells #[.string (mkS q.1), .string (mkS q.2)] 23)).cell? ⟨wb.heap.size, 0, none⟩ = some (.string (mkS p.1)) := ((below_alloc1 wc _).cell (p := ⟨wb.heap.size, 0, none⟩) hz1).trans pc1
              clear A hq hlt hlt2 pc1 pc2
              cases f with
              | false =>
                go_wp2
                go_roundg (m - (j + 1))
                case measure => omega
                case rel => exact ⟨j + 1, false, by omega, by omega, by first | rfl | simp, rfl, by rw [HS.out, ← HA.out.1]; rfl, HB3.out⟩
              | true =>
                by_cases hk2 : q.1 = p.1
                · have k1 : ((mkS q.1).toList == (mkS p.1).toList) = true := by rw [cmp_key]; simp [hk2]
                  have k2 : ((mkS q.1).toList != (mkS p.1).toList) = false := by rw [bne, k1]; rfl
                  have HK := Lib.hid hk2
                  clear hk2
                  go_wp2
                  go_roundg (m - (j + 1))
                  case measure => omega
                  case rel => exact ⟨j + 1, false, by omega, by omega, by first | rfl | simp, rfl, by rw [HS.out]; simp [HK.out], HB3.out⟩
                · have k1 : ((mkS q.1).toList == (mkS p.1).toList) = false := by rw [cmp_key]; simp [hk2]
                  have k2 : ((mkS q.1).toList != (mkS p.1).toList) = true := by rw [bne, k1]; rfl
                  have HK := Lib.hid hk2
                  clear hk2
                  go_wp2
                  go_roundg (m - (j + 1))
                  case measure => omega
                  case rel => exact ⟨j + 1, true, by omega, by omega, by first | rfl | simp, rfl, by rw [HS.out, ← HA.out.1]; simp [HK.out], HB3.out⟩
            · obtain rfl : j = m := by omega
              have hall : f = allNe p.1 (L.drop (i + 1)) := by
                have h := HA.out.1
                rw [← HR.out.2, List.take_length, ← HR.out.1] at h
                exact h
              have HT2 := Lib.hid (HP2.out wc HA.out.2).2.1
              clear A hgj hj1 hjm hlt
              cases f with
              | false =>
                have HX := Lib.hid (HT2.out.next (lasts_drop_key L i p HP.out hall.symm))
                clear hall
                go_wp2
                go_roundg (n - (i + 1))
                case measure => omega
                case rel => exact ⟨i + 1, by omega, by omega, by first | rfl | simp, HX.out⟩
              | true =>
                by_cases hp2 : p.2 = []
                · have HX := Lib.hid (HT2.out.next (lasts_drop_emp L i p HP.out hp2))
                  have E : (mkS p.2).toList = [] := by rw [ByteArray.toList_eq, mkS_list]; exact hp2
                  clear hall hp2
                  go_wp2
                  go_roundg (n - (i + 1))
                  case measure => omega
                  case rel => exact ⟨i + 1, by omega, by omega, by first | rfl | simp, HX.out⟩
                · obtain ⟨x0, r0, hx⟩ : ∃ x r, p.2 = x :: r := by
                    cases h : p.2 with
                    | nil => exact absurd h hp2
                    | cons x r => exact ⟨x, r, rfl⟩
                  have E : (mkS p.2).toList = x0 :: r0 := by rw [ByteArray.toList_eq, mkS_list]; exact hx
                  obtain ⟨hbl, D, v, hD, hbox, hrow⟩ := HT2.out
                  have hD2 : (D ++ [p]) ++ lasts (L.drop (i + 1)) = lasts L := by rw [← hD, lasts_drop_in L i p HP.out hall.symm hp2]; simp
                  have hDl : D.length ≤ 3000 := by have := taken_le hD; rw [HN.out] at this; omega
                  obtain ⟨dl, hdl⟩ : ∃ dl, D.length = dl := ⟨_, rfl⟩
                  rw [hdl] at hrow hDl
                  have bc := hbox.cell
                  have HBX := Lib.hid (And.intro hbl (And.intro hD2 (And.intro hbox (And.intro hrow hdl))))
                  have HC2 := Lib.hid (cell_two_new wc 23 (.string (mkS p.1)) (.string (mkS p.2)))
                  obtain ⟨hi, hz0, hz1', hz2⟩ := HI.out
                  have hI2 := Lib.hid (And.intro hi (And.intro hz0 (And.intro hz1' hz2)))
                  clear hall hp2 hx hD hD2 hbox hrow hdl hbl HT2 hi hz0 hz1' hz2
                  go_wp2_with (at_builtin; refine wpList_append_own _ rfl _ _ 25 rfl wa.heap.size 23 i0 (.agg #[.string { data := #[] }, .string { data := #[] }]) 2 32 Try.underlying25 hI2.out.1 hI2.out.2.1 hI2.out.2.2.1 hI2.out.2.2.2 rfl (by decide) _ _ _ rfl (HBX.out.2.2.2.1.alloc _) ⟨wc.heap.size, 0, none⟩ 1 1 [.string (mkS p.1), .string (mkS p.2)] rfl rfl HC2.out (by simp [Value.oneCell']) (by unfold maxLen; omega) (by omega) (by have := HBX.out.1.size; simp; omega) ?_; intro v' w4 hown' hgrow _; obtain ⟨g4, cap4, hv4⟩ := ownsRow_succ hown'; subst hv4; have HAP := Lib.hid (Boxed.appended HBX.out.2.2.1 (by decide) HBX.out.2.2.2.1 HBX.out.1.size (Nat.le_refl _) hown' hgrow); have bc4 := HAP.out.1.cell; have bf4 := HAP.out.1.frozen; clear hown' hgrow)
                  have HX := Lib.hid (show Taking wa (w4.setCell ⟨wa.heap.size, 0, none⟩ (.slice (some ⟨g4, 0, none⟩) (dl + 1) cap4)) wa.heap.size L (i + 1) from ⟨HBX.out.1.trans HAP.out.2.2.2.2, D ++ [p], _, HBX.out.2.1, HAP.out.2.1, by
                    rw [pairCells_append, List.length_append, HBX.out.2.2.2.2]
                    exact HAP.out.2.2.1⟩)
                  clear HAP HBX
                  go_roundg (n - (i + 1))
                  case measure => omega
                  case rel => exact ⟨i + 1, by omega, by omega, by first | rfl | simp, HX.out⟩
        · obtain rfl : i = n := by omega
          obtain ⟨hbl, D, v, hD, hbox, hrow⟩ := A.out
          rw [List.drop_eq_nil_of_le (by rw [HN.out]; exact Nat.le_refl _), lasts, List.append_nil] at hD
          have hDl : D.length ≤ 100000 := by have := lasts_le L; rw [← hD, HN.out] at this; omega
          have bc := hbox.cell
          have HS := Lib.hid (sort_pairs wa.heap.size wa.heap.size v D hDl wb hbl.size hbox hrow)
          have HD := Lib.hid (And.intro hD hbl)
          clear A hD hbox hrow hDl hbl H0 hi1 hg hin
          go_wp2_with (go_at_call 18; refine HS.out.mono ?_; rintro e w5 ⟨rfl, K, hp, hs, hv, hbox, hb5⟩; have bc5 := hbox.cell; have HK := Lib.hid (And.intro hp (And.intro hs (And.intro hv hb5))); clear hp hs hv hb5 hbox)
          go_ret
          obtain ⟨hp, hs, hv, hb5⟩ := HK.out
          refine ⟨⟨v, K, rfl, hv, ?_⟩, ?_⟩
          · rw [← HLd.out]
            exact merged_sorted (by rw [← HD.out.1]; exact hp) hs
          · exact HB.out.trans ((HD.out.2.trans hb5).mono HB.out.size)
end Go.Proofs.Ytheiamidochooaa
