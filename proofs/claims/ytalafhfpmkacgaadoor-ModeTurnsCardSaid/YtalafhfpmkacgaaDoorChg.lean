/- mode.change: a part. -/
import Derived.Test.YtalafhfpmkacgaaDoorAct
import Derived.Test.YtalafhfpmkacgaaDoorMsk
import Derived.Test.YtalafhfpmkacgaaDoorQir
namespace Go.Proofs.YtalafhfpmkacgaaDoor
open Go.RowKit Go.Shelf Go.Joins
set_option linter.unusedVariables false
attribute [local go_sem] Oper.semAt_some

theorem boxed_keep {X Y : World} {row : Option Nat} {b : Nat} {t : TypeId} {v : Value} (h : Boxed X b t v) (hg : X.grownBy Y row) (hr : ∀ r, row = some r → ∃ o : Obj, X.heap[r]? = some o ∧ o.isCells = false) : Boxed Y b t v :=
  h.kept hg (fun e => by obtain ⟨o, ho, hc⟩ := hr b e.symm; rw [show X.heap[b]? = _ from h] at ho; cases ho; cases hc)
theorem boxed_drew {W : World} {b q : Nat} {t : TypeId} {v : Value} (h : Boxed W b t v) : Boxed (W.drewN q) b t v := h
theorem keeps_drewN (W : World) (q : Nat) : KeepsOthers W (W.drewN q) := ⟨Nat.le_refl _, fun _ _ h _ => h⟩
theorem below_drewN (n : Nat) (W : World) (q : Nat) (h : n ≤ W.heap.size) : Below n W (W.drewN q) := ⟨rfl, rfl, rfl, Nat.le_refl _, fun _ _ => rfl⟩
theorem boxed_below {w w' : World} {B : Nat} {t : TypeId} {v : Value} (h : Boxed w B t v) (hb : Below w.heap.size w w') : Boxed w' B t v := (hb.block B h.lt).trans h

theorem below_alloc4 (w : World) (o1 o2 o3 o4 : Obj) : Below w.heap.size w ((((w.alloc o1).alloc o2).alloc o3).alloc o4) := (((((Below.refl _ w).alloc (Nat.le_refl _) o1).alloc (by simp) o2).alloc (by simp; omega) o3).alloc (by simp; omega) o4)
/-- Between two rounds: what the signs that have come make of m. -/
def ChI (B G : Nat) (w : World) (who m : Nat) (dir : Bool) (pre : List Ac) (W : World) : Prop :=
  ∃ k, (foldA who dir m (pre.map (·.1)) = some k ∧ k < 4096) ∧ Boxed W B 3 (.int .i64 (k : Int)) ∧ Boxed W (B + 1) 4 (.bool dir) ∧ Boxed W (B + 1 + 1) 3 (.int .i64 0) ∧ Boxed W (B + 1 + 1 + 1) 4 (.bool false) ∧ Boxed W G 3 (.int .i64 (who : Int)) ∧ Below w.heap.size w W
/-- A round has met another sign. -/
def ChX (B : Nat) (w : World) (who m : Nat) (dir : Bool) (c : Code) (pre : List Ac) (W : World) : Prop :=
  (c = .ret ∧ ∃ q x, q ++ [x] = pre ∧ foldA who dir m (pre.map (·.1)) = none) ∧ Boxed W (B + 1 + 1) 3 (.int .i64 0) ∧ Boxed W (B + 1 + 1 + 1) 4 (.bool false) ∧ Below w.heap.size w W
theorem ChI.own (B G : Nat) (w : World) (who m : Nat) (dir : Bool) (D : Nat) (hD : w.heap.size ≤ D) : OwnFrom D (ChI B G w who m dir) := by
  rintro pre X Y row ⟨k, h0, h1, h2, h3, h4, h5, h6⟩ hg hr
  have hr' : ∀ r, row = some r → ∃ o : Obj, X.heap[r]? = some o ∧ o.isCells = false := fun r e => (hr r e).2
  exact ⟨k, h0, boxed_keep h1 hg hr', boxed_keep h2 hg hr', boxed_keep h3 hg hr', boxed_keep h4 hg hr', boxed_keep h5 hg hr', ownFrom_below (β := Unit) (Nat.le_refl _) (B := D) hD () X Y row h6 hg hr⟩
theorem ChX.own (B : Nat) (w : World) (who m : Nat) (dir : Bool) (c : Code) (D : Nat) (hD : w.heap.size ≤ D) : OwnFrom D (ChX B w who m dir c) := by
  rintro pre X Y row ⟨h0, h3, h4, h6⟩ hg hr
  have hr' : ∀ r, row = some r → ∃ o : Obj, X.heap[r]? = some o ∧ o.isCells = false := fun r e => (hr r e).2
  exact ⟨h0, boxed_keep h3 hg hr', boxed_keep h4 hg hr', ownFrom_below (β := Unit) (Nat.le_refl _) (B := D) hD () X Y row h6 hg hr⟩

/-- What a part answers. -/
def PartOut : Option Nat → Ending → Prop
  | some k, e => e = .returned (.tuple #[.int .i64 (k : Int), .bool true])
  | none, e => ∃ v, e = .returned (.tuple #[.int .i64 v, .bool false])

set_option maxRecDepth 100000 in
set_option maxHeartbeats 4000000 in
theorem change_in (n : Nat) (hn : 6 ≤ n) (m : Nat) (hm : m < 4096) (p : List UInt8) (hp : p.length ≤ 1000000) (dir : Bool) (w : World) :
    CallsIn Fence.wide n Tryd.prog 30 #[.int .i64 (m : Int), .string (mkS p), .bool dir] w fun e W' =>
      PartOut (partF dir m p) e ∧ Below w.heap.size w W' := by
  have h1 : 1 ≤ n := by omega
  obtain ⟨PF, hPF⟩ : ∃ x, partF dir m p = x := ⟨_, rfl⟩
  rw [hPF]
  refine callsIn_of_wp_marks Tryd.func30 rfl trivial ?_ rfl
  simp only [Tryd.ntmps30, List.size_toArray, List.length_cons, List.length_nil, Nat.reduceAdd, Nat.reduceSub, Array.replicate_succ, Array.replicate_zero, List.push_toArray, List.append_toArray, List.nil_append, List.cons_append]
  have hf1 : Fence.wide.fn 27 := trivial
  have hf2 : Fence.wide.fn 48 := trivial
  have hf3 : Fence.wide.fn 49 := trivial
  have hcut : (⟨#[117, 103, 111, 97]⟩ : ByteArray) = mkS whoS := rfl
  have T := Lib.hid (fun w => trimLeft_any whoS p (by decide) (by decide) w)
  have hH := headS_le whoS p
  have hR := restS_le whoS p
  have hlen := head_len whoS p
  have WH := Lib.hid (fun w => whose_any (headS whoS p) (by omega) w)
  have z1 := mkS_size p
  have z2 := mkS_size (restS whoS p)
  obtain ⟨K, hK⟩ : ∃ K, (headS whoS p).length = K := ⟨_, rfl⟩
  have eK : (p.length : Int) - ((restS whoS p).length : Int) = (K : Int) := by omega
  have i2 : ∀ w, (Instr.slice 9 (.string (mkS p)) none (some (.int .i64 (K : Int))) none).run Tryd.prog w = .ok (.string (mkS (headS whoS p))) w := by
    have hx := mkS_upto p K (by omega)
    have e : p.take K = headS whoS p := by
      conv => lhs; rw [← head_rest whoS p]
      rw [List.take_left' hK]
    rw [e] at hx
    exact hx
  have b0 := ((((Boxed.new w 3 (.int .i64 (m : Int))).alloc (.cells #[.bool dir] 4)).alloc (.cells #[.int .i64 0] 3)).alloc (.cells #[.bool false] 4))
  have b1 := (((Boxed.new (w.alloc (.cells #[.int .i64 (m : Int)] 3)) 4 (.bool dir)).alloc (.cells #[.int .i64 0] 3)).alloc (.cells #[.bool false] 4))
  have b2 := ((Boxed.new ((w.alloc (.cells #[.int .i64 (m : Int)] 3)).alloc (.cells #[.bool dir] 4)) 3 (.int .i64 0)).alloc (.cells #[.bool false] 4))
  have b3 := Boxed.new (((w.alloc (.cells #[.int .i64 (m : Int)] 3)).alloc (.cells #[.bool dir] 4)).alloc (.cells #[.int .i64 0] 3)) 4 (.bool false)
  simp only [World.size_alloc] at b1 b2 b3
  have hB0 := below_alloc4 w (.cells #[.int .i64 (m : Int)] 3) (.cells #[.bool dir] 4) (.cells #[.int .i64 0] 3) (.cells #[.bool false] 4)
  have hsz : ((((w.alloc (.cells #[.int .i64 (m : Int)] 3)).alloc (.cells #[.bool dir] 4)).alloc (.cells #[.int .i64 0] 3)).alloc (.cells #[.bool false] 4)).heap.size = w.heap.size + 4 := by simp
  have HBX := Lib.hid (And.intro (And.intro (And.intro b0 b1) (And.intro b2 b3)) (And.intro hB0 hsz))
  clear b0 b1 b2 b3 hB0 hsz
  gi_wp2_with (first
    | (gi_at_call 27; refine (callsIn_wide.2 (T.out _)).mono ?_; rintro e w2 ⟨rfl, h2⟩)
    | (gi_at_call 48; refine (callsIn_wide.2 (WH.out _)).mono ?_; rintro e w3 ⟨rfl, hw⟩; replace hw := hw.symm; subst hw)
    | (gi_at_call 49; refine (actions_in (n - 1) (restS whoS p) _).mono ?_; rintro e w' ⟨rfl, rfl⟩))
  obtain ⟨⟨⟨b0, b1⟩, b2, b3⟩, hB0, hsz⟩ := HBX.out
  have hge := h2.size
  rw [hsz] at hge
  have hwho := whoM_lt (headS whoS p)
  have hpart : (if restS whoS p = [] then none else foldA (whoM (headS whoS p)) dir m (acts (restS whoS p))) = PF := hPF
  have R0 := mkS_emp_any (restS whoS p)
  generalize headS whoS p = H at *
  generalize restS whoS p = R at *
  generalize whoM H = who at *
  have c0 := (((boxed_below b0 h2).alloc (.cells #[.int .i64 (who : Int)] 3)).alloc (.cells #[.string (mkS R)] 9))
  have c1 := (((boxed_below b1 h2).alloc (.cells #[.int .i64 (who : Int)] 3)).alloc (.cells #[.string (mkS R)] 9))
  have c2 := (((boxed_below b2 h2).alloc (.cells #[.int .i64 (who : Int)] 3)).alloc (.cells #[.string (mkS R)] 9))
  have c3 := (((boxed_below b3 h2).alloc (.cells #[.int .i64 (who : Int)] 3)).alloc (.cells #[.string (mkS R)] 9))
  have c4 := (Boxed.new w2 3 (.int .i64 (who : Int))).alloc (.cells #[.string (mkS R)] 9)
  have c5 := Boxed.new (w2.alloc (.cells #[.int .i64 (who : Int)] 3)) 9 (.string (mkS R))
  simp only [World.size_alloc] at c5
  have hB2 : Below w.heap.size w w2 := hB0.trans (h2.mono (by omega))
  have hB3 := (hB2.alloc hB2.size (.cells #[.int .i64 (who : Int)] 3)).alloc (by simp; have := hB2.size; omega) (.cells #[.string (mkS R)] 9)
  have hs3 : ((w2.alloc (.cells #[.int .i64 (who : Int)] 3)).alloc (.cells #[.string (mkS R)] 9)).heap.size = w2.heap.size + 2 := by simp
  have HPF := Lib.hid hpart
  clear b0 b1 b2 b3 h2 HBX hB0 hsz T WH i2 hpart hB2 hPF
  generalize w2.heap.size = G at *
  generalize (w2.alloc (.cells #[.int .i64 (who : Int)] 3)).alloc (.cells #[.string (mkS R)] 9) = W0 at *
  clear hf1 hf2 hf3
  refine wpIn_rangeFunc_ownG_of_H rfl h1 (gf := 72) (lb := #[.pointer (some ⟨G + 1, 0, none⟩)]) rfl trivial (enters_of Tryd.func72 (by kernel_rfl) rfl)
    (actions_stops (n - 1) (by omega) (G + 1) R (by omega) W0 c5) (fun _ _ => trivial) (fun _ _ _ _ _ _ _ _ => trivial) (Below.refl _ _) (fun _ => rfl)
    (ChI w.heap.size G w who m dir) (ChX w.heap.size w who m dir) (ChI.own _ _ w who m dir _ (by omega)) (fun c => ChX.own _ w who m dir c _ (by omega))
    ⟨m, ⟨rfl, hm⟩, c0, c1, c2, c3, c4, hB3⟩
    (fun x => { tmps := #[.int .i64 (m : Int), .string (mkS p), .bool dir, .pointer (some ⟨w.heap.size, 0, none⟩), undef, .pointer (some ⟨w.heap.size + 1, 0, none⟩), .pointer (some ⟨w.heap.size + 1 + 1, 0, none⟩), .pointer (some ⟨w.heap.size + 1 + 1 + 1, 0, none⟩), .string (mkS R), .pointer (some ⟨G, 0, none⟩), .int .u8 (x.1.1.toNat : Int), .string (mkS x.1.2), undef, .string (mkS p), .string (mkS R), .string (mkS p), .string (mkS p), .int .i64 (p.length : Int), .string (mkS R), .int .i64 (R.length : Int), .int .i64 (K : Int), .string (mkS H), .int .i64 (who : Int), .string (mkS R), .func (.func 72) #[] #[.pointer (some ⟨G + 1, 0, none⟩)], .int .u8 (x.1.1.toNat : Int), .string (mkS x.1.2), undef, undef, undef, undef, undef, undef, undef, undef, undef, undef, undef, undef, undef, undef, undef, undef, undef, undef, undef, undef, undef, undef, undef, undef, undef, undef, undef, undef, undef, undef, undef], defers := [] })
    ?assign ?body ?done ?stop (fun _ => trivial)
  case assign =>
    intro lp x W Q hQ
    gi_wp2
    exact hQ
  case body =>
    rintro lp pre x W ⟨k, ⟨hk, hkl⟩, d0, d1, d2, d3, d4, hBW⟩ hlt
    obtain ⟨⟨c, L⟩, hL⟩ := x
    have hcb := c.toNat_lt
    obtain ⟨r, hr⟩ : ∃ r, runsB dir k = r := ⟨_, rfl⟩
    have AL := Lib.hid (fun w => allowed_any L r hL w)
    have hfn : Fence.wide.fn 50 := trivial
    have n1 : 1 ≤ n - 1 - 1 := by omega
    have k0 := d0.cell
    have k1 := d1.cell
    have k4 := d4.cell
    have k2 := d2.cell
    have k3 := d3.cell
    have f0 := d0.frozen
    have f2 := d2.frozen
    have f3 := d3.frozen
    have hlm := letM_lt r L 0 (by decide)
    have a1 : bits .and .i64 (who : Int) (letM r L 0 : Int) = ((who &&& letM r L 0 : Nat) : Int) := i64_and_nat _ _ (by omega) (by omega)
    have hbl := and_lt who _ hlm
    obtain ⟨bt, hbt⟩ : ∃ bt, who &&& letM r L 0 = bt := ⟨_, rfl⟩
    rw [hbt] at a1 hbl
    have a2 : bits .and .i64 (k : Int) 73 = ((k &&& 73 : Nat) : Int) := i64_and_nat k 73 (by omega) (by omega)
    have a3 : dir = false → (((k &&& 73 : Nat) : Int) != 0) = r := by
      intro hd
      rw [← hr, hd]
      unfold runsB
      rw [Bool.false_or]
      by_cases h : k &&& 73 = 0
      · rw [h]; rfl
      · rw [decide_eq_false h]; exact bne_iff_ne.2 (by omega)
    have a5 : dir = true → r = true := by
      intro hd; rw [← hr, hd]; rfl
    have o1 : bits .or .i64 (k : Int) (bt : Int) = ((k ||| bt : Nat) : Int) := i64_or_nat _ _ (by omega) (by omega)
    have o2 : bits .andNot .i64 (k : Int) (bt : Int) = ((less k bt : Nat) : Int) := i64_andNot_nat _ _ (by omega) (by omega)
    have o3 : bits .andNot .i64 (k : Int) (who : Int) = ((less k who : Nat) : Int) := i64_andNot_nat _ _ (by omega) (by omega)
    have hlw := less_lt' k who hkl
    have o4 : bits .or .i64 ((less k who : Nat) : Int) (bt : Int) = ((less k who ||| bt : Nat) : Int) := i64_or_nat _ _ (by omega) (by omega)
    have hv1 := or_lt k bt hkl hbl
    have hv2 := less_lt' k bt hkl
    have hv3 := or_lt _ bt hlw hbl
    have hst : ∀ k', stepA who dir k (c, L) = k' → foldA who dir m ((pre ++ [(⟨(c, L), hL⟩ : Ac)]).map (·.1)) = k' := fun k' h => by
      rw [List.map_append, foldA_append, hk]
      show (stepA who dir k (c, L)).bind _ = k'
      rw [h]; cases k' <;> rfl
    have hsA : stepA who dir k (c, L) = if c = 43 then some (k ||| bt) else if c = 45 then some (less k bt) else if c = 61 then some (less k who ||| bt) else none := by
      unfold stepA
      simp only [hr, hbt]
    have HD := Lib.hid (And.intro (And.intro (And.intro d0 d1) (And.intro d2 d3)) (And.intro d4 hBW))
    have HS := Lib.hid (And.intro hst hsA)
    have HH := Lib.hid hcb
    clear hst hsA d0 d1 d2 d3 d4 hBW hk hr hbt c0 c1 c2 c3 c4 c5 hB3 hlm
    generalize letM r L 0 = lm0 at *
    generalize less k who ||| bt = v3 at *
    generalize k ||| bt = v1 at *
    generalize less k bt = v2 at *
    generalize less k who = v4 at *
    have HN := Lib.hid (show ∀ (q : Nat) (k' : Nat), stepA who dir k (c, L) = some k' → k' < 4096 → KeepsFrom W0.heap.size W ((W.drewN q).setCell ⟨w.heap.size, 0, none⟩ (.int .i64 (k' : Int))) ∧ True ∧ ChI w.heap.size G w who m dir (pre ++ [(⟨(c, L), hL⟩ : Ac)]) ((W.drewN q).setCell ⟨w.heap.size, 0, none⟩ (.int .i64 (k' : Int))) from fun q k' h hk' => by
      obtain ⟨⟨⟨d0, d1⟩, d2, d3⟩, d4, hBW⟩ := HD.out
      exact ⟨((keeps_drewN W q).trans (KeepsOthers.setCell _ _ _)).from _, trivial, k', ⟨HS.out.1 _ h, hk'⟩, (boxed_drew d0).set _, (boxed_drew d1).other (by omega) _, (boxed_drew d2).other (by omega) _, (boxed_drew d3).other (by omega) _, (boxed_drew d4).other (by omega) _, (hBW.trans (below_drewN _ W q hBW.size)).setCell (p := ⟨w.heap.size, 0, none⟩) (Nat.le_refl _) _⟩)
    have HX := Lib.hid (show ∀ (q : Nat), stepA who dir k (c, L) = none → KeepsFrom W0.heap.size W (((W.drewN q).setCell ⟨w.heap.size + 1 + 1, 0, none⟩ (.int .i64 0)).setCell ⟨w.heap.size + 1 + 1 + 1, 0, none⟩ (.bool false)) ∧ ChX w.heap.size w who m dir .ret (pre ++ [(⟨(c, L), hL⟩ : Ac)]) (((W.drewN q).setCell ⟨w.heap.size + 1 + 1, 0, none⟩ (.int .i64 0)).setCell ⟨w.heap.size + 1 + 1 + 1, 0, none⟩ (.bool false)) from fun q h => by
      obtain ⟨⟨⟨d0, d1⟩, d2, d3⟩, d4, hBW⟩ := HD.out
      exact ⟨(((keeps_drewN W q).trans (KeepsOthers.setCell _ _ _)).trans (KeepsOthers.setCell _ _ _)).from _, ⟨rfl, pre, _, rfl, HS.out.1 _ h⟩, ((boxed_drew d2).set _).other (by omega) _, ((boxed_drew d3).other (by omega) _).set _, ((hBW.trans (below_drewN _ W q hBW.size)).setCell (p := ⟨w.heap.size + 1 + 1, 0, none⟩) (by simp; omega) _).setCell (p := ⟨w.heap.size + 1 + 1 + 1, 0, none⟩) (by simp; omega) _⟩)
    have hxu : ∀ v : Nat, c.toNat = v → v < 256 → c = UInt8.ofNat v := fun v h hv => by rw [← h, UInt8.ofNat_toNat]
    have HC : (c.toNat = 43 ∧ stepA who dir k (c, L) = some v1) ∨ (c.toNat = 45 ∧ stepA who dir k (c, L) = some v2) ∨ (c.toNat = 61 ∧ stepA who dir k (c, L) = some v3) ∨ ((¬ c.toNat = 43 ∧ ¬ c.toNat = 45 ∧ ¬ c.toNat = 61) ∧ stepA who dir k (c, L) = none) := by
      rw [HS.out.2]
      by_cases g1 : c = 43
      · subst g1; exact .inl ⟨rfl, by rw [if_pos rfl]⟩
      · by_cases g2 : c = 45
        · subst g2; exact .inr (.inl ⟨rfl, by rw [if_neg (by decide), if_pos rfl]⟩)
        · by_cases g3 : c = 61
          · subst g3; exact .inr (.inr (.inl ⟨rfl, by rw [if_neg (by decide), if_neg (by decide), if_pos rfl]⟩))
          · exact .inr (.inr (.inr ⟨⟨fun h => g1 (hxu 43 h (by omega)), fun h => g2 (hxu 45 h (by omega)), fun h => g3 (hxu 61 h (by omega))⟩, by rw [if_neg g1, if_neg g2, if_neg g3]⟩))
    have HCC := Lib.hid HC
    clear HC hxu HS HD
    gi_wp2
    cases dir
    all_goals (
      first
        | (have a4 := a3 rfl; clear a3 a5)
        | (have a4 := a5 rfl; clear a3 a5; subst a4)
      refine wpIn_region_quiet_round rfl (by kernel_rfl) (by kernel_rfl) (by kernel_rfl) ?_
      repeat (gi_big_quiet_step ((gi_at_call 50; refine CallsIn.quiet_of_same (callsIn_wide.2 (AL.out _)))))
      refine wpQuietIn_nil ?_
      intro _ hw'
      obtain ⟨nq, hw''⟩ := hw'
      subst hw''
      clear AL
      rcases HCC.out with ⟨h, hs⟩ | ⟨h, hs⟩ | ⟨h, hs⟩ | ⟨⟨g1, g2, g3⟩, hs⟩
      · have hx : (c.toNat : Int) = 43 := by omega
        have HF := Lib.hid (HN.out nq _ hs (by assumption))
        rw [hx]
        clear h hs hx HX HN HCC
        gi_wp2
        exact HF.out
      · have hx : (c.toNat : Int) = 45 := by omega
        have HF := Lib.hid (HN.out nq _ hs (by assumption))
        rw [hx]
        clear h hs hx HX HN HCC
        gi_wp2
        exact HF.out
      · have hx : (c.toNat : Int) = 61 := by omega
        have HF := Lib.hid (HN.out nq _ hs (by assumption))
        rw [hx]
        clear h hs hx HX HN HCC
        gi_wp2
        exact HF.out
      · have q1 : ¬ (c.toNat : Int) = 43 := by omega
        have q2 : ¬ (c.toNat : Int) = 45 := by omega
        have q3 : ¬ (c.toNat : Int) = 61 := by omega
        have HF := Lib.hid (HX.out nq hs)
        clear hs HX HN HCC g1 g2 g3
        generalize (c.toNat : Int) = x at *
        gi_wp2
        exact HF.out)
  case done =>
    rintro D xs W hD rfl ⟨k, ⟨hk, hkl⟩, d0, d1, d2, d3, d4, hBW⟩ hK
    rw [actsS_val R.length R (Nat.le_refl _) (by omega)] at hk
    have k0 := d0.cell
    have k2 := d2.cell
    have k3 := d3.cell
    have f2 := d2.frozen
    have f3 := d3.frozen
    have HB := Lib.hid (And.intro (And.intro d2 d3) (And.intro hBW hk))
    have hD' := hD
    clear c0 c1 c2 c3 c4 c5 hB3 d0 d1 d2 d3 d4 hBW hk
    cases hR0 : decide (R = [])
    · rw [hR0] at R0
      gi_wp2
      obtain ⟨⟨d2, d3⟩, hBW, hk⟩ := HB.out
      have hK' := ((KeepsOthers.setCell W ⟨w.heap.size + 1 + 1, 0, none⟩ (.int .i64 (k : Int))).trans (KeepsOthers.setCell _ ⟨w.heap.size + 1 + 1 + 1, 0, none⟩ (.bool true))).same D _ hK rfl
      refine ⟨by simp, .inl ⟨_, _, rfl, run_takeDeferred hK', ?_⟩⟩
      have e2 := cell_kept ((d2.set (.int .i64 (k : Int))).other (B' := w.heap.size + 1 + 1 + 1) (by omega) (.bool true)).cell (grownBy_putObj' _ D (.deferred none)) (fun r e => by cases e; exact ⟨_, hK', rfl⟩)
      have e3 := cell_kept ((d3.other (B' := w.heap.size + 1 + 1) (by omega) (.int .i64 (k : Int))).set (.bool true)).cell (grownBy_putObj' _ D (.deferred none)) (fun r e => by cases e; exact ⟨_, hK', rfl⟩)
      refine ⟨.tuple #[.int .i64 (k : Int), .bool true], by simp [results, Tryd.f30, go_sem, e2, e3], ?_, ((hBW.setCell (p := ⟨w.heap.size + 1 + 1, 0, none⟩) (by simp; omega) _).setCell (p := ⟨w.heap.size + 1 + 1 + 1, 0, none⟩) (by simp; omega) _).trans (belowK_b (w := w) (Nat.le_refl _) _ D _ _ (by omega) hK' rfl rfl)⟩
      rw [← HPF.out, if_neg (of_decide_eq_false hR0), hk]
      exact rfl
    · rw [hR0] at R0
      gi_wp2
      obtain ⟨⟨d2, d3⟩, hBW, hk⟩ := HB.out
      have hK' := ((KeepsOthers.setCell W ⟨w.heap.size + 1 + 1, 0, none⟩ (.int .i64 (k : Int))).trans (KeepsOthers.setCell _ ⟨w.heap.size + 1 + 1 + 1, 0, none⟩ (.bool false))).same D _ hK rfl
      refine ⟨by simp, .inl ⟨_, _, rfl, run_takeDeferred hK', ?_⟩⟩
      have e2 := cell_kept ((d2.set (.int .i64 (k : Int))).other (B' := w.heap.size + 1 + 1 + 1) (by omega) (.bool false)).cell (grownBy_putObj' _ D (.deferred none)) (fun r e => by cases e; exact ⟨_, hK', rfl⟩)
      have e3 := cell_kept ((d3.other (B' := w.heap.size + 1 + 1) (by omega) (.int .i64 (k : Int))).set (.bool false)).cell (grownBy_putObj' _ D (.deferred none)) (fun r e => by cases e; exact ⟨_, hK', rfl⟩)
      refine ⟨.tuple #[.int .i64 (k : Int), .bool false], by simp [results, Tryd.f30, go_sem, e2, e3], ?_, ((hBW.setCell (p := ⟨w.heap.size + 1 + 1, 0, none⟩) (by simp; omega) _).setCell (p := ⟨w.heap.size + 1 + 1 + 1, 0, none⟩) (by simp; omega) _).trans (belowK_b (w := w) (Nat.le_refl _) _ D _ _ (by omega) hK' rfl rfl)⟩
      rw [← HPF.out, if_pos (of_decide_eq_true hR0)]
      exact ⟨_, rfl⟩
  case stop =>
    rintro D cc pre W hD ⟨rr, hrr⟩ ⟨⟨rfl, q, x, hq, hk⟩, d2, d3, hBW⟩ hK
    have hnone : foldA who dir m (acts R) = none := by
      rw [← actsS_val R.length R (Nat.le_refl _) (by omega), ← hrr, List.map_append, foldA_append, hk]; rfl
    have hRne : R ≠ [] := by
      intro h
      rw [h, show actsS [] = [] from rfl] at hrr
      rw [← hq] at hrr
      simp at hrr
    have HB := Lib.hid (And.intro (And.intro d2 d3) (And.intro hBW (And.intro hnone hRne)))
    clear c0 c1 c2 c3 c4 c5 hB3 d2 d3 hBW hk hnone hRne hq hrr
    gi_wp2
    obtain ⟨⟨d2, d3⟩, hBW, hnone, hRne⟩ := HB.out
    refine ⟨by simp, .inl ⟨_, _, rfl, run_takeDeferred hK, ?_⟩⟩
    have e2 := cell_kept d2.cell (grownBy_putObj' _ D (.deferred none)) (fun r e => by cases e; exact ⟨_, hK, rfl⟩)
    have e3 := cell_kept d3.cell (grownBy_putObj' _ D (.deferred none)) (fun r e => by cases e; exact ⟨_, hK, rfl⟩)
    refine ⟨.tuple #[.int .i64 0, .bool false], by simp [results, Tryd.f30, go_sem, e2, e3], ?_, hBW.trans (belowK_b (w := w) (Nat.le_refl _) W D _ _ (by omega) hK rfl rfl)⟩
    rw [← HPF.out, if_neg hRne, hnone]
    exact ⟨_, rfl⟩
end Go.Proofs.YtalafhfpmkacgaaDoor
