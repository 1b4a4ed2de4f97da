/- The reference's Clean. -/
import Derived.Test.YtlgfdlfijfcfbaaDoorPrf
import Derived.Test.YtlgfdlfijfcfbaaDoorCln
import Derived.Test.YtlgfdlfijfcfbaaDoorSl
import Derived.Deep.RegionLaw
import Derived.IntWalk
import Derived.Maps.AppendAt
namespace Go.Proofs.YtlgfdlfijfcfbaaDoor
open Go.RowKit Go.Joins
set_option linter.unusedVariables false

theorem stepC_pair (s : St) (y : List UInt8) (hy : y ≠ dd) : stepC (stepC s y) dd = s := by
  rw [stepC_part s y hy, stepC_up _ (by simp)]
  simp
/-- A part and the '..' behind it go. -/
theorem foldC_cancel (L : List (List UInt8)) (i : Nat) (y : List UInt8) (h0 : L[i]? = some y) (h1 : L[i + 1]? = some dd) (hy : y ≠ dd) (s : St) : foldC (L.take i ++ L.drop (i + 1 + 1)) s = foldC L s := by
  obtain ⟨g0, e0⟩ := List.getElem?_eq_some_iff.1 h0
  obtain ⟨g1, e1⟩ := List.getElem?_eq_some_iff.1 h1
  have e : L = L.take i ++ (y :: dd :: L.drop (i + 1 + 1)) := by
    conv => lhs; rw [← List.take_append_drop i L]
    rw [List.drop_eq_getElem_cons g0, e0, List.drop_eq_getElem_cons g1, e1]
  conv => rhs; rw [e]
  rw [foldC_append, foldC_append, foldC_cons, foldC_cons, stepC_pair _ _ hy]
theorem foldC_dds : ∀ (k : Nat) (b : Bool), foldC (List.replicate k dd) ([], b) = ([], b && decide (k = 0))
  | 0, b => by simp [foldC]
  | k + 1, b => by rw [List.replicate_succ, foldC_cons, stepC_none, foldC_dds k false]; simp
/-- No '..' stands behind another part. -/
def NoPair (L : List (List UInt8)) (i : Nat) : Prop := ∀ j y, j + 1 < i → L[j]? = some y → L[j + 1]? = some dd → y = dd
theorem noPair_rest (L : List (List UInt8)) (k : Nat) (h : NoPair L L.length) (hk : ∀ x, L[k]? = some x → x ≠ dd) : ∀ j x, L[k + j]? = some x → x ≠ dd
  | 0, x, hx => hk x hx
  | j + 1, x, hx => by
    intro e
    subst e
    have hlt := (List.getElem?_eq_some_iff.1 hx).1
    obtain ⟨y, hy⟩ : ∃ y, L[k + j]? = some y := ⟨_, List.getElem?_eq_getElem (by omega)⟩
    exact noPair_rest L k h hk j y hy (h (k + j) y (by omega) hy hx)
theorem foldC_stripped (L : List (List UInt8)) (k : Nat) (h : NoPair L L.length) (hd : ∀ j, j < k → L[j]? = some dd) (hk : ∀ x, L[k]? = some x → x ≠ dd) (hkl : k ≤ L.length) : foldC L ([], true) = (L.drop k, decide (k = 0)) := by
  have e : L.take k = List.replicate k dd := by
    apply List.ext_getElem?
    intro j
    rw [List.getElem?_take, List.getElem?_replicate]
    split
    · rw [hd j ‹_›]
    · rfl
  conv => lhs; rw [← List.take_append_drop k L]
  rw [foldC_append, e, foldC_dds, foldC_plain' _ _ _ fun p hp => by
    obtain ⟨j, hj, he⟩ := List.mem_iff_getElem.1 hp
    rw [List.getElem_drop] at he
    exact noPair_rest L k h hk j p (by rw [← he]; exact List.getElem?_eq_getElem _)]
  simp

/-- An append of texts, as a step of a region that draws. -/
theorem step_app {ops : Array Oper} {o : Oper} {a : Act} {w : World} {K : Act → World → Prop} {Q : Exit → Act → World → Prop} {E : Prop}
    (hgd : o.guard = none) (s x : Operand) (ho : o.op = .call { callee := .builtin .append, args := #[s, x], argTypes := #[23, 23] })
    (base : Nat) (v : Value) (n : Nat) (xs : List Value) (hs : a.eval s = v) (hown : w.ownsRow base 9 1 v n xs)
    (ad : Addr) (m c : Nat) (news : List Value) (hx : a.eval x = .slice (some ad) m c) (hl : news.length = m) (hnews : ∀ j u, news[j]? = some u → w.cell? (ad.add j) = some u) (h1 : ∀ u ∈ news, u.oneCell' = true)
    (hm : n + m ≤ 1000000) (hbase : base ≤ w.heap.size)
    (h : ∀ v' w', w'.ownsRow base 9 1 v' (n + m) (xs ++ news) → w.grownBy w' v.ownBlock → K (a.put o.dst v') w') :
    if Region.wanted o (yielded ops a.tmps) = true then Oper.wp Tryd.prog o a w K Q else E := by
  have hw : Region.wanted o (yielded ops a.tmps) = true := by simp [Region.wanted, hgd]
  rw [if_pos hw]
  obtain ⟨i0, hi, hz0, hz1, hz2⟩ := info_parts Tryd.infoStr
  obtain ⟨v', w', hrun, r1, r2, _⟩ := run_append_own_at (P := Tryd.prog) (w := w) base 23 o.type 9 i0 (.string ByteArray.empty) 1 16 Tryd.underlying23 hi hz0 hz1 hz2 rfl (by decide) v n xs hown ad m c news (by omega) hnews h1 (by unfold maxLen; omega) (by omega) hbase
  unfold Oper.wp
  simp [execOp, ho, resolve, invoke, builtin, hs, hx, hrun, Result.andThen]
  exact h v' w' r1 r2
theorem below_own {W0 W w1 : World} {n₀ : Nat} {e : TypeId} {size : Nat} {v : Value} {k : Nat} {xs : List Value} (hb : Below n₀ W0 W) (hn : n₀ ≤ W.heap.size) (hrow : W.ownsRow n₀ e size v k xs) (hg : W.grownBy w1 v.ownBlock) : Below n₀ W0 w1 := by
  refine hb.grown hg hn fun j ej => ?_
  rcases hrow.2 with ⟨rfl, _⟩ | ⟨g, cap, cur, rfl, hb2, _, _⟩
  · simp [Value.ownBlock] at ej
  · obtain rfl : g = j := by simpa [Value.ownBlock] using ej
    exact hb2
/-- The cells of a slice of texts, from an address on. -/
theorem SlIs.cells {w : World} {a : Addr} {n cap : Nat} {L : List (List UInt8)} (h : SlIs w (.slice (some a) n cap) L) : ∀ j u, (L.map encS)[j]? = some u → w.cell? (a.add j) = some u := by
  intro j u hj
  rw [List.getElem?_map] at hj
  obtain ⟨x, h1, h2⟩ := Option.map_eq_some_iff.1 hj
  obtain ⟨b, o, e, hc, _⟩ := h.at j x h1
  injection e with e
  subst e
  rw [Go.WideShapes.add_plain, ← h2]
  exact hc
theorem encS_one (L : List (List UInt8)) : ∀ u ∈ L.map encS, u.oneCell' = true := by
  intro u hu
  obtain ⟨x, _, rfl⟩ := List.mem_map.1 hu
  rfl
theorem SlIs.some {w : World} {ad : Option Addr} {n cap : Nat} {L : List (List UInt8)} (h : SlIs w (.slice ad n cap) L) (hn : 0 < n) : ∃ b off, ad = some ⟨b, off, none⟩ := by
  obtain ⟨ad', cap', e, _, ⟨b, off, e2, _⟩ | ⟨_, _, e3⟩⟩ := h
  · injection e with e1 _ _; subst e1; exact ⟨b, off, e2⟩
  · injection e with _ e2 _; rw [e3] at e2; simp at e2; omega

set_option maxRecDepth 100000 in
set_option maxHeartbeats 8000000 in
theorem refClean_any (l : List UInt8) (hl : l.length ≤ 10000) (w : World) :
    Calls Tryd.prog 15 #[.string (mkS l)] w fun e w' => e = .returned (txB (cleanL l)) ∧ Below w.heap.size w w' := by
  have C1 := Lib.hid (fun w => refParts_any l (by omega) w)
  have hpl := parts_length_le l
  have hwt := wt_parts l
  have HR := Lib.hid (show cleanL l = (joinS (foldC (partsL l) ([], true)).1, (foldC (partsL l) ([], true)).2) from rfl)
  generalize partsL l = P at *
  obtain ⟨F, hF⟩ : ∃ F, foldC P ([], true) = F := ⟨_, rfl⟩
  rw [hF] at HR
  have HF := Lib.hid hF
  have hlit : (⟨#[46, 46]⟩ : ByteArray) = mkS dd := rfl
  clear hF
  go_enter Tryd.func15, Tryd.ntmps15
  go_wp2_with fail
  go_at_call 14
  refine (C1.out _).mono ?_
  rintro e w1 ⟨⟨v1, rfl, s1⟩, h1⟩
  have S1 := Lib.hid (slIs_of_own s1)
  have HB1 := Lib.hid h1
  clear s1 h1 C1
  go_wp2
  go_loopg [5, 4] (P.length * 100002 + P.length) (fun g s5 s4 wr => ∃ (j n : Nat) (L : List (List UInt8)), n ≤ P.length ∧ n * 100002 + (n - j) ≤ g ∧ s5 = .int .i64 ((j : Int) + 1) ∧ (∃ ad cap, s4 = .slice ad n cap ∧ n ≤ cap) ∧ Aside (L.length = n ∧ SlIs wr s4 L ∧ foldC L ([], true) = F ∧ NoPair L (j + 1) ∧ wt L ≤ wt P ∧ Below w1.heap.size w1 wr))
  case atStart =>
    obtain ⟨ad, cap, rfl, hc⟩ := S1.out.len
    exact ⟨0, P.length, P, Nat.le_refl _, by omega, by simp, ⟨ad, cap, rfl, hc⟩, rfl, S1.out, HF.out, fun j y h => by omega, Nat.le_refl _, Below.refl _ _⟩
  case round =>
    obtain ⟨j, n, L, hnP, hg, rfl, ⟨ad, cap, rfl, hcap⟩, A⟩ := hrel
    have HA := Lib.hid A.out
    clear A S1
    by_cases hjn : j + 1 < n
    · obtain ⟨y, hy⟩ : ∃ y, L[j]? = some y := ⟨_, List.getElem?_eq_getElem (by rw [HA.out.1]; omega)⟩
      obtain ⟨x, hx⟩ : ∃ x, L[j + 1]? = some x := ⟨_, List.getElem?_eq_getElem (by rw [HA.out.1]; omega)⟩
      obtain ⟨b, off, rfl, c1, hlt⟩ := HA.out.2.1.at (j + 1) x hx
      obtain ⟨b', off', he, c0, _⟩ := HA.out.2.1.at j y hy
      injection he with he; injection he with he1 he2; subst he1; subst he2
      have e1 := sEq x dd
      have e2 := sEq y dd
      by_cases hxd : x = dd
      · rw [decide_eq_true hxd] at e1
        by_cases hyd : y = dd
        · rw [decide_eq_true hyd] at e2
          have e2' : ((mkS y).toList != (mkS dd).toList) = false := by rw [bne, e2]; rfl
          have HN := Lib.hid (show NoPair L (j + 1 + 1) from fun k z hk hz hd => by
            by_cases hkj : k = j
            · subst hkj; rw [hy] at hz; cases hz; exact hyd
            · exact HA.out.2.2.2.1 k z (by omega) hz hd)
          clear hxd hyd hx hy
          go_wp2
          go_roundg (n * 100002 + (n - (j + 1)))
          case measure => omega
          case rel => exact ⟨j + 1, n, L, hnP, Nat.le_refl _, by go_num, ⟨_, _, rfl, hcap⟩, HA.out.1, HA.out.2.1, HA.out.2.2.1, HN.out, HA.out.2.2.2.2⟩
        · rw [decide_eq_false hyd] at e2
          have e2' : ((mkS y).toList != (mkS dd).toList) = true := by rw [bne, e2]; rfl
          have HX := Lib.hid (show foldC (L.take j ++ L.drop (j + 1 + 1)) ([], true) = F from by rw [foldC_cancel L j y hy (by rw [hx, hxd]) hyd]; exact HA.out.2.2.1)
          have HW := Lib.hid (show wt (L.take j ++ L.drop (j + 1 + 1)) ≤ wt P from by
            have g1 := wt_append (L.take j) (L.drop (j + 1 + 1))
            have g2 : wt (L.drop (j + 1 + 1)) ≤ wt (L.drop j) := by have := wt_drop 2 (L.drop j); rwa [List.drop_drop, show j + 2 = j + 1 + 1 from rfl] at this
            have g3 := wt_append (L.take j) (L.drop j)
            rw [List.take_append_drop] at g3
            have := HA.out.2.2.2.2.1
            omega)
          have HLen := Lib.hid (show (L.take j ++ L.drop (j + 1 + 1)).length = 0 + j + (n - (j + 1 + 1)) from by rw [List.length_append, List.length_take, List.length_drop, HA.out.1]; omega)
          obtain ⟨hs1, ht1⟩ := sl_upto _ n cap j L wr HA.out.2.1 (by omega) (by omega)
          obtain ⟨off2, c2, hs2, ht2⟩ := sl_onward_some b off n cap (j + 1 + 1) L wr HA.out.2.1 (by omega)
          rw [show ((j + 1 + 1 : Nat) : Int) = (j : Int) + 1 + 1 by omega] at hs2
          have HW0 := Lib.hid (show Below wr.heap.size wr (wr.drew.alloc (.cells #[] 9)) from ((Below.refl _ wr).drew).alloc (Nat.le_refl _) _)
          have HM := Lib.hid (show (wr.drew.alloc (.cells #[] 9)).ownsRow wr.heap.size 9 1 (.slice (some ⟨wr.heap.size, 0, none⟩) 0 0) 0 [] from World.ownsRow_made wr.drew #[] 0 (Nat.le_refl _) (Nat.zero_le _) rfl)
          have N1 := Lib.hid (((ht1 wr HA.out.2.1).below HW0.out).cells)
          have N2 := Lib.hid (fun W (h : Below wr.heap.size wr W) => ((ht2 wr HA.out.2.1).below h).cells)
          have L1 := Lib.hid (show ((L.take j).map encS).length = j from by rw [List.length_map, List.length_take, HA.out.1]; omega)
          have L2 := Lib.hid (show ((L.drop (j + 1 + 1)).map encS).length = n - (j + 1 + 1) from by rw [List.length_map, List.length_drop, HA.out.1])
          have HLM := Lib.hid (show (L.take j ++ L.drop (j + 1 + 1)).map encS = ([] ++ (L.take j).map encS) ++ (L.drop (j + 1 + 1)).map encS from by simp)
          obtain ⟨X1, hX1⟩ : ∃ X1, (L.take j).map encS = X1 := ⟨_, rfl⟩
          obtain ⟨X2, hX2⟩ : ∃ X2, (L.drop (j + 1 + 1)).map encS = X2 := ⟨_, rfl⟩
          have O1 := Lib.hid (show ∀ u ∈ X1, u.oneCell' = true from hX1 ▸ encS_one _)
          have O2 := Lib.hid (show ∀ u ∈ X2, u.oneCell' = true from hX2 ▸ encS_one _)
          obtain ⟨L', hL'⟩ : ∃ L', L.take j ++ L.drop (j + 1 + 1) = L' := ⟨_, rfl⟩
          rw [hX1] at N1 L1 HLM
          rw [hX2] at N2 L2 HLM
          rw [hL'] at HX HW HLen HLM
          clear hxd hyd hx hy ht1 ht2 hX1 hX2 hL'
          have q0 : 0 ≤ (j : Int) := by omega
          have q1 : (j : Int) ≤ (cap : Int) := by omega
          have q2 : 0 ≤ (j : Int) + 1 + 1 := by omega
          have q3 : (j : Int) + 1 + 1 ≤ (n : Int) := by omega
          have qb : 0 + j + (n - (j + 1 + 1)) ≤ 1000000 := by omega
          have qc : 0 + j ≤ 1000000 := by omega
          go_wp2
          have wq1 : IntKind.i64.wrap (j : Int) = (j : Int) := IntWalk.i64_in _ (by omega)
          have wq2 : IntKind.i64.wrap ((j : Int) + 1 + 1) = (j : Int) + 1 + 1 := IntWalk.i64_in _ (by omega)
          have wq3 : ((j : Int) + 1 + 1).toNat = j + 1 + 1 := by omega
          go_region_law (first
            | (refine step_app rfl (.tmp 28) (.tmp 32) rfl wr.heap.size (.slice (some ⟨wr.heap.size, 0, none⟩) 0 0) 0 [] (by simp [Act.eval]) HM.out ⟨b, off, none⟩ j cap X1 (by simp [Act.eval]) L1.out N1.out O1.out qc HW0.out.size ?_; intro v1 w2 ho1 hg1; have HB2 := Lib.hid (below_own HW0.out HW0.out.size HM.out hg1); have HO1 := Lib.hid ho1; clear ho1 hg1)
            | (refine step_app rfl (.tmp 33) (.tmp 37) rfl wr.heap.size v1 (0 + j) ([] ++ X1) (by simp [Act.eval]) HO1.out ⟨b, off2, none⟩ (n - (j + 1 + 1)) c2 X2 (by simp [Act.eval]) L2.out (N2.out _ HB2.out) O2.out qb HB2.out.size ?_; intro v2 w3 ho2 hg2; have HB3 := Lib.hid (below_own HB2.out HB2.out.size HO1.out hg2); have HO2 := Lib.hid ho2; clear ho2 hg2))
          all_goals
            clear wq1 wq2 wq3
            obtain ⟨n', hn'⟩ : ∃ n', L'.length = n' := ⟨_, rfl⟩
            have hn2 : n' + 2 ≤ n := by have := HLen.out; omega
            have HS := Lib.hid (show SlIs w3 v2 L' from slIs_of_own (base := wr.heap.size) (by rw [HLen.out, HLM.out]; exact HO2.out))
            obtain ⟨ad', cap', hv, hc'⟩ := HS.out.len
            rw [hn'] at hv hc'
            subst hv
            have HN' := Lib.hid hn'
            clear hn'
            go_wp2
            go_roundg (n' * 100002 + n')
            case measure => omega
            case rel => exact ⟨0, n', L', by omega, Nat.le_of_eq (by rw [Nat.sub_zero]), by simp, ⟨_, _, rfl, hc'⟩, HN'.out, HS.out, HX.out, fun k z hk => by omega, HW.out, HA.out.2.2.2.2.2.trans (HB3.out.mono HA.out.2.2.2.2.2.size)⟩
      · rw [decide_eq_false hxd] at e1
        have HN := Lib.hid (show NoPair L (j + 1 + 1) from fun k z hk hz hd => by
          by_cases hkj : k = j
          · subst hkj; rw [hx] at hd; cases hd; exact absurd rfl hxd
          · exact HA.out.2.2.2.1 k z (by omega) hz hd)
        clear hxd hx hy e2
        go_wp2
        go_roundg (n * 100002 + (n - (j + 1)))
        case measure => omega
        case rel => exact ⟨j + 1, n, L, hnP, Nat.le_refl _, by go_num, ⟨_, _, rfl, hcap⟩, HA.out.1, HA.out.2.1, HA.out.2.2.1, HN.out, HA.out.2.2.2.2⟩
    · have HN := Lib.hid (show NoPair L L.length from fun k z hk hz hd => HA.out.2.2.2.1 k z (by rw [HA.out.1] at hk; omega) hz hd)
      have HBr := Lib.hid HA.out.2.2.2.2.2
      have SL := Lib.hid HA.out.2.1
      have HL := Lib.hid (And.intro HA.out.1 (And.intro HA.out.2.2.1 HA.out.2.2.2.2.1))
      clear HA
      rename World => wa
      go_wp2
      go_loopg [4, 6] n (fun g s4 s6 wr => ∃ (k r : Nat), k + r = n ∧ r ≤ g ∧ (∃ ad cap, s4 = .slice ad r cap) ∧ s6 = .bool (decide (k = 0)) ∧ Aside (SlIs wr s4 (L.drop k) ∧ (∀ i, i < k → L[i]? = some dd) ∧ Below wa.heap.size wa wr))
      case atStart => exact ⟨0, n, by omega, by omega, ⟨_, _, rfl⟩, rfl, SL.out, fun i h => by omega, Below.refl _ _⟩
      case round =>
        obtain ⟨k, r, hk, hg2, ⟨ad2, cap2, rfl⟩, rfl, A⟩ := hrel
        have HA := Lib.hid A.out
        have HK := Lib.hid hk
        have hkn : k ≤ n := by omega
        have hfin : (∀ x, L[k]? = some x → x ≠ dd) → foldC L ([], true) = (L.drop k, decide (k = 0)) := fun h => foldC_stripped L k HN.out HA.out.2.1 h (by rw [HL.out.1]; omega)
        have hwk : wt (L.drop k) ≤ 100000 := by have := wt_drop k L; have := HL.out.2.2; omega
        have HFin := Lib.hid hfin
        clear A hfin hk
        cases r with
        | zero =>
          have HE := Lib.hid (show cleanL l = (joinS (L.drop k), decide (k = 0)) from by
            rw [HR.out, ← HL.out.2.1, HFin.out fun x hx => by
              have := (List.getElem?_eq_some_iff.1 hx).1
              have h1 := HL.out.1
              have h2 := HK.out
              omega])
          have J := Lib.hid (join_mk _ (L.drop k) (by omega) wr HA.out.1)
          have hlit2 : (⟨#[47]⟩ : ByteArray) = mkS [47] := rfl
          clear hwk
          go_wp2_with (go_at_call 33; refine J.out.mono ?_; rintro e w5 ⟨rfl, h5⟩)
          go_ret2
          exact ⟨by rw [HE.out]; rfl, HB1.out.trans ((HBr.out.trans ((HA.out.2.2.trans (h5.mono HA.out.2.2.size)).mono HBr.out.size)).mono HB1.out.size)⟩
        | succ r =>
          obtain ⟨x, hx⟩ : ∃ x, L[k]? = some x := ⟨_, List.getElem?_eq_getElem (by have h1 := HL.out.1; have h2 := HK.out; omega)⟩
          have hx0 : (L.drop k)[0]? = some x := by rw [List.getElem?_drop]; simpa using hx
          obtain ⟨b, off, rfl, c0, hlt⟩ := HA.out.1.at 0 x hx0
          rw [Nat.add_zero] at c0
          have e1 := sEq x dd
          by_cases hxd : x = dd
          · rw [decide_eq_true hxd] at e1
            obtain ⟨off2, c2, hs2, ht2⟩ := sl_onward_some b off (r + 1) cap2 1 (L.drop k) wr HA.out.1 (by omega)
            rw [Nat.add_sub_cancel] at hs2 ht2
            have HS := Lib.hid (show SlIs wr (.slice (some ⟨b, off2, none⟩) r c2) (L.drop (k + 1)) from by
              have := ht2 wr HA.out.1
              rwa [List.drop_drop] at this)
            have HD := Lib.hid (show ∀ i, i < k + 1 → L[i]? = some dd from fun i hi => by
              by_cases e : i = k
              · subst e; rw [hx, hxd]
              · exact HA.out.2.1 i (by omega))
            rw [show ((1 : Nat) : Int) = 1 from rfl] at hs2
            clear hxd hx hx0 ht2 hwk
            go_wp2
            go_roundg r
            case measure => omega
            case rel => exact ⟨k + 1, r, by have := HK.out; omega, Nat.le_refl _, ⟨_, _, rfl⟩, by simp, HS.out, HD.out, HA.out.2.2⟩
          · rw [decide_eq_false hxd] at e1
            have HE := Lib.hid (show cleanL l = (joinS (L.drop k), decide (k = 0)) from by
              rw [HR.out, ← HL.out.2.1, HFin.out fun z hz => by rw [hx] at hz; cases hz; exact hxd])
            have J := Lib.hid (join_mk _ (L.drop k) (by omega) wr HA.out.1)
            have hlit2 : (⟨#[47]⟩ : ByteArray) = mkS [47] := rfl
            clear hwk hxd hx hx0
            go_wp2_with (go_at_call 33; refine J.out.mono ?_; rintro e w5 ⟨rfl, h5⟩)
            go_ret2
            exact ⟨by rw [HE.out]; rfl, HB1.out.trans ((HBr.out.trans ((HA.out.2.2.trans (h5.mono HA.out.2.2.size)).mono HBr.out.size)).mono HB1.out.size)⟩
end Go.Proofs.YtlgfdlfijfcfbaaDoor
