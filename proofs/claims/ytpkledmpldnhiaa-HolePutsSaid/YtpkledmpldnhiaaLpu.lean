/- The law HolePuts: its walk. -/
import Derived.Test.YtpkledmpldnhiaaLpp
import Derived.Test.YtpkledmpldnhiaaTak
import Derived.Test.YtpkledmpldnhiaaCtp
namespace Go.Proofs.Ytpkledmpldnhiaa
open Go.RowKit Go.Joins
set_option linter.unusedVariables false

/-- Does the piece hold the place? -/
def hasP (j : Int) (p : Pc) : Bool := decide (p.1 ≤ j) && decide (j < p.1 + p.2)
theorem cov_any (l : List Pc) (j : Int) : l.any (hasP j) = cov l j := rfl
set_option maxHeartbeats 1000000 in
theorem lit_any (B : Nat) (j : Int) (p : Pc) (h0 : 0 ≤ p.1 ∧ 0 ≤ p.2 ∧ p.1 + p.2 ≤ 9223372036854775807) (W : World) (hc : W.cell? ⟨B, 0, none⟩ = some (.int .i64 j)) :
    Calls Try.prog 15 #[pcV p, .pointer (some ⟨B, 0, none⟩)] W fun e w' => e = .returned (.bool (hasP j p)) ∧ Below W.heap.size W w' := by
  have hlt := World.block_lt_of_cell? _ _ hc
  have hc2 : (W.alloc (.cells #[.int .i64 p.1, .int .i64 p.2] 34)).cell? ⟨B, 0, none⟩ = some (.int .i64 j) := (((Below.refl W.heap.size W).alloc (Nat.le_refl _) _).cell (p := ⟨B, 0, none⟩) hlt).trans hc
  have HB := Lib.hid ((Below.refl W.heap.size W).alloc (Nat.le_refl _) (.cells #[.int .i64 p.1, .int .i64 p.2] 34))
  have wq : IntKind.i64.wrap (p.1 + p.2) = p.1 + p.2 := IntWalk.i64_in _ ⟨by omega, by omega⟩
  unfold hasP
  clear hlt
  by_cases h1 : p.1 ≤ j
  · have b1 : decide (p.1 ≤ j) = true := decide_eq_true h1
    clear h1
    go_enter Try.func15, Try.ntmps15
    go_wp2
    go_ret
    exact ⟨by rw [b1]; first | rfl | simp, HB.out⟩
  · have b1 : decide (p.1 ≤ j) = false := decide_eq_false h1
    clear h1
    go_enter Try.func15, Try.ntmps15
    go_wp2
    go_ret
    exact ⟨by rw [b1]; first | rfl | simp, HB.out⟩
set_option maxHeartbeats 4000000 in
theorem holePuts_walk (a0 : ByteArray) (z0 : a0.size ≤ reachBytes) (ad1 : Option Addr) (c1 : Nat) (l1 : List Pc) (z1 : l1.length ≤ maxLen) (u1 : Fits l1) (a2 : Int) (w2 : (Lit.int .i64 a2).wf = true) (a3 : Int) (w3 : (Lit.int .i64 a3).wf = true) (w : World) (hM1 : PiecesAt w ad1 l1) :
    Calls Try.prog 4 #[.string a0, .slice ad1 l1.length c1, .int .i64 a2, .int .i64 a3] w fun e w' => e = .returned (.bool true) ∧ Below w.heap.size w w' := by
  have hs := bounds_i64 w2
  have hr := reachBytes_lt
  have HO := Lib.hid (fun w => holed_true w)
  obtain ⟨d, rfl⟩ : ∃ s, a0 = mkS s := ⟨_, (mkS_self a0).symm⟩
  have hd := mkS_size d
  rw [hd] at z0
  have hb0 : Below w.heap.size w (w.alloc (.cells #[.int .i64 a3] 3)) := (Below.refl _ _).alloc (Nat.le_refl _) _
  have HB0 := Lib.hid hb0
  have HM := Lib.hid (fun W' (hb : Below (w.alloc (.cells #[.int .i64 a3] 3)).heap.size (w.alloc (.cells #[.int .i64 a3] 3)) W') => PiecesAt.below (W' := W') hM1 (hb0.trans (hb.mono hb0.size)))
  have HM2 := Lib.hid (fun W' hb => PiecesAt.below (W' := W') hM1 hb)
  have HK := Lib.hid (fun W' (hb : Below (w.alloc (.cells #[.int .i64 a3] 3)).heap.size (w.alloc (.cells #[.int .i64 a3] 3)) W') => (hb.block w.heap.size (by simp)).trans (heap_alloc_new w (.cells #[.int .i64 a3] 3)))
  have hZ1 := z1
  unfold maxLen at z1
  clear w2 w3 hb0 hM1
  by_cases h6 : (600 : Int) < (d.length : Int)
  · clear HM u1
    go_enter Try.func4, Try.ntmps4
    go_wp2_with (go_at_call 10; with_reducible refine (HO.out _).mono ?_; rintro e w1 ⟨rfl, hb1⟩; have B1 := Lib.hid hb1; clear hb1)
    go_ret
    exact ⟨rfl, HB0.out.trans (B1.out.mono HB0.out.size)⟩
  by_cases h7 : (30 : Int) < (l1.length : Int)
  · clear HM u1
    go_enter Try.func4, Try.ntmps4
    go_wp2_with (go_at_call 10; with_reducible refine (HO.out _).mono ?_; rintro e w1 ⟨rfl, hb1⟩; have B1 := Lib.hid hb1; clear hb1)
    go_ret
    exact ⟨rfl, HB0.out.trans (B1.out.mono HB0.out.size)⟩
  have hd2 : d.length ≤ 1000000 := by omega
  by_cases hbad : mapRight l1 a2 = false ∨ ¬ (d.length : Int) = sizeF 0 l1
  · have U := Lib.hid (fun W h => put_bad d ad1 c1 l1 a2 hd2 hs hZ1 u1 hbad W h)
    clear u1 hbad
    go_enter Try.func4, Try.ntmps4
    go_wp2_with (first
      | (go_at_call 10; with_reducible refine (HO.out _).mono ?_; rintro e w1 ⟨rfl, hb1⟩; have B1 := Lib.hid hb1; clear hb1)
      | (go_at_call 11; with_reducible refine (U.out _ (HM.out _ B1.out)).mono ?_; rintro e w2 ⟨rfl, hb2⟩; have B2 := Lib.hid (B1.out.trans (hb2.mono B1.out.size)); clear hb2))
    go_ret
    exact ⟨rfl, HB0.out.trans (B2.out.mono HB0.out.size)⟩
  have hR : mapRight l1 a2 = true := by
    cases h : mapRight l1 a2 with
    | true => rfl
    | false => exact absurd (Or.inl h) hbad
  have hS : (d.length : Int) = sizeF 0 l1 := Classical.byContradiction fun h => hbad (Or.inr h)
  clear hbad
  by_cases h8 : 4000 < a2
  · have U := Lib.hid (fun W h => put_long d ad1 c1 l1 a2 hd2 hs hZ1 u1 hR hS h8 W h)
    clear u1 hR hS
    go_enter Try.func4, Try.ntmps4
    go_wp2_with (first
      | (go_at_call 10; with_reducible refine (HO.out _).mono ?_; rintro e w1 ⟨rfl, hb1⟩; have B1 := Lib.hid hb1; clear hb1)
      | (go_at_call 11; with_reducible refine (U.out _ (HM.out _ B1.out)).mono ?_; rintro e w2 ⟨rfl, hb2⟩; have B2 := Lib.hid (B1.out.trans (hb2.mono B1.out.size)); clear hb2))
    go_ret
    exact ⟨rfl, HB0.out.trans (B2.out.mono HB0.out.size)⟩
  obtain ⟨h9, h20, hrt⟩ := mapRight_inv hR
  obtain ⟨n, rfl⟩ : ∃ n : Nat, a2 = (n : Int) := ⟨a2.toNat, by omega⟩
  have U := Lib.hid (fun W h => put_ok d ad1 c1 l1 n hd2 hZ1 u1 hR hS (by omega) W h)
  have hsum : (d.length : Int) = sumL l1 := by rw [hS]; exact sizeF_zero (by omega) hrt
  have hlen : (putL d l1 n).length = n := by
    have := putF_length n l1 0 d (by simpa using hrt) (by omega) hsum
    simpa [putL] using this
  have htk : takeL (putL d l1 n) l1 = d := takeL_putF n l1 0 d [] (by simpa using hrt) rfl hsum
  have T := Lib.hid (fun W h => take_ok (putL d l1 n) ad1 c1 l1 (by omega) hZ1 u1 (by rw [hlen]; exact hR) W h)
  rw [htk] at T
  have hzs := mkS_size (putL d l1 n)
  rw [hlen] at hzs
  clear htk
  by_cases h0 : n = 0
  · have hn0 : ((n : Int) == 0) = true := by rw [h0]; rfl
    clear hR hS hsum hrt u1 hlen h0
    generalize mkS (putL d l1 n) = S at *
    go_enter Try.func4, Try.ntmps4
    go_wp2_with (first
      | (go_at_call 10; with_reducible refine (HO.out _).mono ?_; rintro e w1 ⟨rfl, hb1⟩; have B1 := Lib.hid hb1; clear hb1)
      | (go_at_call 11; with_reducible refine (U.out _ (HM.out _ B1.out)).mono ?_; rintro e w2 ⟨rfl, hb2⟩; have B2 := Lib.hid (B1.out.trans (hb2.mono B1.out.size)); clear hb2)
      | (go_at_call 12; with_reducible refine (T.out _ (HM.out _ B2.out)).mono ?_; rintro e w3 ⟨rfl, hb3⟩; have B3 := Lib.hid (B2.out.trans (hb3.mono B2.out.size)); clear hb3))
    go_ret
    exact ⟨rfl, HB0.out.trans (B3.out.mono HB0.out.size)⟩
  obtain ⟨j, hj, PJ⟩ := pick_nat a3 n (by omega) (by omega)
  have PJ := Lib.hid PJ
  have hn0 : ((n : Int) == 0) = false := by simpa using h0
  have CF := Lib.hid (show ∀ W, PiecesAt W ad1 l1 → W.cell? ⟨w.heap.size, 0, none⟩ = some (.int .i64 (j : Int)) → Calls Try.prog 14 #[.slice ad1 l1.length c1, .func (.func 15) #[] #[.pointer (some ⟨w.heap.size, 0, none⟩)]] W fun e w' => e = .returned (.bool (cov l1 j)) ∧ Below W.heap.size W w' from fun W h1 h2 => by
    refine containsFn_any (hasP j) 15 #[.pointer (some ⟨w.heap.size, 0, none⟩)] (fun args w => by go_simp) ad1 c1 l1 (by omega) W h1 fun p hp W' hb => ?_
    have hlt := World.block_lt_of_cell? _ _ h2
    refine lit_any w.heap.size j p ?_ W' ((hb.cell (p := ⟨w.heap.size, 0, none⟩) hlt).trans h2)
    obtain ⟨i, hi⟩ := List.mem_iff_getElem?.1 hp
    have ha := rightF_at hi hrt
    omega)
  cases hcv : cov l1 j with
  | true =>
    rw [hcv] at CF
    clear hR hS hsum hrt u1 hlen h0 hcv
    generalize mkS (putL d l1 n) = S at *
    go_enter Try.func4, Try.ntmps4
    go_wp2_with (first
      | (go_at_call 10; with_reducible refine (HO.out _).mono ?_; rintro e w1 ⟨rfl, hb1⟩; have B1 := Lib.hid hb1; clear hb1)
      | (go_at_call 11; with_reducible refine (U.out _ (HM.out _ B1.out)).mono ?_; rintro e w2 ⟨rfl, hb2⟩; have B2 := Lib.hid (B1.out.trans (hb2.mono B1.out.size)); clear hb2)
      | (go_at_call 12; (with_reducible refine (T.out _ (HM.out _ B2.out)).mono ?_); rintro e w3 ⟨rfl, hb3⟩; have B3 := Lib.hid (B2.out.trans (hb3.mono B2.out.size)); clear hb3; have k3 := HK.out w3 B3.out; have c3 := cell_of_row w3 w.heap.size 0 _ _ _ k3; have f3 := frozen_of_row w3 w.heap.size 0 _ _ k3; simp only [List.getElem?_toArray, List.getElem?_cons_zero] at c3; clear k3)
      | (go_at_call 13; with_reducible refine (PJ.out _).mono ?_; rintro e w' ⟨rfl, hw⟩; replace hw := hw.symm; subst hw)
      | (go_at_call 14; have B4 := Lib.hid ((HB0.out.trans (B3.out.mono HB0.out.size)).setCell (p := ⟨w.heap.size, 0, none⟩) (Nat.le_refl _) (.int .i64 (j : Int))); have c4 := World.cell?_setCell_same w3 ⟨w.heap.size, 0, none⟩ (.int .i64 (j : Int)) c3; (with_reducible refine (CF.out _ (HM2.out _ B4.out) c4).mono ?_); rintro e w5 ⟨rfl, hb5⟩; have B5 := Lib.hid (B4.out.trans (hb5.mono B4.out.size)); have c5 := (hb5.cell (p := ⟨w.heap.size, 0, none⟩) (World.block_lt_of_cell? _ _ c4)).trans c4; clear hb5 c4))
    go_ret
    exact ⟨rfl, B5.out⟩
  | false =>
    have hz0 := putF_zero n l1 0 d j (by simpa using hrt) hsum (by omega) (by rw [Nat.zero_add]; exact hcv)
    have hix := mkS_index (putL d l1 n) (j : Int) 0 (by omega) (by simpa [putL] using hz0)
    clear hz0
    rw [hcv] at CF
    clear hR hS hsum hrt u1 hlen h0 hcv
    generalize mkS (putL d l1 n) = S at *
    go_enter Try.func4, Try.ntmps4
    go_wp2_with (first
      | (go_at_call 10; with_reducible refine (HO.out _).mono ?_; rintro e w1 ⟨rfl, hb1⟩; have B1 := Lib.hid hb1; clear hb1)
      | (go_at_call 11; with_reducible refine (U.out _ (HM.out _ B1.out)).mono ?_; rintro e w2 ⟨rfl, hb2⟩; have B2 := Lib.hid (B1.out.trans (hb2.mono B1.out.size)); clear hb2)
      | (go_at_call 12; (with_reducible refine (T.out _ (HM.out _ B2.out)).mono ?_); rintro e w3 ⟨rfl, hb3⟩; have B3 := Lib.hid (B2.out.trans (hb3.mono B2.out.size)); clear hb3; have k3 := HK.out w3 B3.out; have c3 := cell_of_row w3 w.heap.size 0 _ _ _ k3; have f3 := frozen_of_row w3 w.heap.size 0 _ _ k3; simp only [List.getElem?_toArray, List.getElem?_cons_zero] at c3; clear k3)
      | (go_at_call 13; with_reducible refine (PJ.out _).mono ?_; rintro e w' ⟨rfl, hw⟩; replace hw := hw.symm; subst hw)
      | (go_at_call 14; have B4 := Lib.hid ((HB0.out.trans (B3.out.mono HB0.out.size)).setCell (p := ⟨w.heap.size, 0, none⟩) (Nat.le_refl _) (.int .i64 (j : Int))); have c4 := World.cell?_setCell_same w3 ⟨w.heap.size, 0, none⟩ (.int .i64 (j : Int)) c3; (with_reducible refine (CF.out _ (HM2.out _ B4.out) c4).mono ?_); rintro e w5 ⟨rfl, hb5⟩; have B5 := Lib.hid (B4.out.trans (hb5.mono B4.out.size)); have c5 := (hb5.cell (p := ⟨w.heap.size, 0, none⟩) (World.block_lt_of_cell? _ _ c4)).trans c4; clear hb5 c4))
    go_ret
    exact ⟨by first | rfl | simp, B5.out⟩
end Go.Proofs.Ytpkledmpldnhiaa
