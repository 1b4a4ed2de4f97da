/- glob.Match. -/
import Derived.Test.YtcdoiadmnckccaaDoorFol
namespace Go.Proofs.YtcdoiadmnckccaaDoor
set_option linter.unusedVariables false
set_option linter.unusedSimpArgs false
open Go.RowKit Go.Joins
set_option maxRecDepth 100000

/-- The error of this number. -/
def errI (n : Int) : Value := .iface 22 (.int .i64 n)
theorem endBuilt : Tryd.prog.built 38 [(0, .bool true)] = some (rowA 121 startR) := by kernel_rfl
/-- The element i of a slice of pieces. -/
theorem pcs_at {w : World} {n₀ : Nat} {v : Value} {l : List Pc} (h : PcsAt w n₀ v l) : (v = .slice none 0 0 ∧ l = []) ∨ ∃ g cap, v = .slice (some ⟨g, 0, none⟩) l.length cap ∧ n₀ ≤ g ∧ g < w.heap.size ∧ ∀ i p, l[i]? = some p → w.rangeAt g (i * 257) (pcL p) := by
  obtain ⟨h1, h2 | ⟨g, cap, cur, hv, hg, hh, hn, hc, hs, ht⟩⟩ := h
  · refine Or.inl ⟨h2.1, ?_⟩
    cases l with
    | nil => rfl
    | cons _ _ => simp at h2
  · refine Or.inr ⟨g, cap, hv, hg, (Array.getElem?_eq_some_iff.1 hh).1, fun i p hp j u hu => ?_⟩
    have hj : j < 257 := by rw [← pcL_length p]; exact (List.getElem?_eq_some_iff.1 hu).1
    have hi : i < l.length := (List.getElem?_eq_some_iff.1 hp).1
    rw [cell_of_row w g (i * 257 + j) cur _ (0, 0) hh]
    have e : (cur.toList.take (l.length * 257))[i * 257 + j]? = some u := by
      rw [ht]
      clear h1 ht hh hs hn hc hv
      induction l generalizing i with
      | nil => simp at hi
      | cons q l ih =>
        cases i with
        | zero =>
          obtain rfl : q = p := by simpa using hp
          simp only [pcCells, List.flatMap_cons, Nat.zero_mul, Nat.zero_add]
          rw [List.getElem?_append_left (by rw [pcL_length]; exact hj)]
          exact hu
        | succ i =>
          simp only [pcCells, List.flatMap_cons]
          rw [List.getElem?_append_right (by rw [pcL_length]; omega), pcL_length, show (i + 1) * 257 + j - 257 = i * 257 + j by omega]
          exact ih i (by simpa using hp) (by simpa using hi)
    rw [List.getElem?_take] at e
    split at e
    · simpa using e
    · cases e
theorem pcs_at2 {w : World} {n₀ : Nat} {v : Value} {l : List Pc} (h : PcsAt w n₀ v l) : (v = .slice none 0 0 ∧ Hid (l = [])) ∨ ∃ g cap, v = .slice (some ⟨g, 0, none⟩) l.length cap ∧ Hid (n₀ ≤ g ∧ g < w.heap.size ∧ ∀ i p, l[i]? = some p → w.rangeAt g (i * 257) (pcL p)) := by
  rcases pcs_at h with ⟨h1, h2⟩ | ⟨g, cap, h1, h2⟩
  · exact Or.inl ⟨h1, Lib.hid h2⟩
  · exact Or.inr ⟨g, cap, h1, Lib.hid h2⟩
theorem pcs_below {w w' : World} {n₀ g : Nat} {l : List Pc} (h : ∀ i p, l[i]? = some p → w.rangeAt g (i * 257) (pcL p)) (hb : Below n₀ w w') (hg : g < n₀) : ∀ i p, l[i]? = some p → w'.rangeAt g (i * 257) (pcL p) := fun i p hp j u hu => by
  rw [hb.cell (p := ⟨g, i * 257 + j, none⟩) hg]; exact h i p hp j u hu

/-- What Match tells. -/
def matchV (p n : List UInt8) : Value :=
  if p.length ≤ 120 ∧ n.length ≤ 120 then (match patL p with | none => .tuple #[.bool false, errI 3] | some l => .tuple #[.bool (matL l n), .nilIface]) else .tuple #[.bool false, errI 4]
set_option maxHeartbeats 1000000 in
theorem match_long (p n : List UInt8) (hp : p.length ≤ 1000000) (hn : n.length ≤ 1000000) (h : ¬ (p.length ≤ 120 ∧ n.length ≤ 120)) (w : World) :
    Calls Tryd.prog 5 #[.string (mkS p), .string (mkS n)] w fun e w' => e = .returned (.tuple #[.bool false, errI 4]) ∧ Below w.heap.size w w' := by
  have hsp := mkS_size p
  have hsn := mkS_size n
  unfold errI
  by_cases h1 : p.length ≤ 120
  · have z1 : decide ((120 : Int) < ((mkS p).size : Int)) = false := decide_eq_false (by rw [hsp]; omega)
    have z2 : decide ((120 : Int) < ((mkS n).size : Int)) = true := decide_eq_true (by rw [hsn]; omega)
    clear hsp hsn h h1 hp hn
    generalize mkS p = S at *
    generalize mkS n = N at *
    go_enter Tryd.func5, Tryd.ntmps5
    go_wp2
    go_ret2
    exact ⟨rfl, Below.refl _ _⟩
  · have z1 : decide ((120 : Int) < ((mkS p).size : Int)) = true := decide_eq_true (by rw [hsp]; omega)
    clear hsp hsn h h1 hp hn
    generalize mkS p = S at *
    generalize mkS n = N at *
    go_enter Tryd.func5, Tryd.ntmps5
    go_wp2
    go_ret2
    exact ⟨rfl, Below.refl _ _⟩

set_option maxHeartbeats 1000000 in
theorem match_none (p n : List UInt8) (hp : p.length ≤ 120) (hn : n.length ≤ 120) (h : patL p = none) (w : World) :
    Calls Tryd.prog 5 #[.string (mkS p), .string (mkS n)] w fun e w' => e = .returned (.tuple #[.bool false, errI 3]) ∧ Below w.heap.size w w' := by
  have z1 : decide ((120 : Int) < ((mkS p).size : Int)) = false := decide_eq_false (by rw [mkS_size]; omega)
  have z2 : decide ((120 : Int) < ((mkS n).size : Int)) = false := decide_eq_false (by rw [mkS_size]; omega)
  unfold errI
  have P := Lib.hid (fun (w : World) => pieces_any p (by omega) w)
  unfold PiecesIs at P
  rw [h] at P
  clear hp hn h
  generalize mkS p = S at *
  generalize mkS n = N at *
  go_enter Tryd.func5, Tryd.ntmps5
  go_wp2_with (go_at_call 9; with_reducible refine (P.out _).mono ?_; rintro e w1 ⟨rfl, hb1⟩)
  go_ret2
  exact ⟨rfl, hb1⟩

theorem reach_take (n : List UInt8) (l : List Pc) (R : Nat → Bool) {i : Nat} {p : Pc} (h : l[i]? = some p) : reachL n (l.take (i + 1)) R = followL p n (reachL n (l.take i) R) := by
  unfold reachL
  rw [List.take_add_one, h]
  simp
theorem reach_all (n : List UInt8) (l : List Pc) (R : Nat → Bool) : reachL n (l.take l.length) R = reachL n l R := by rw [List.take_length]

theorem patL_length : ∀ (k : Nat) (s : List UInt8) (l : List Pc), s.length ≤ k → patL s = some l → l.length ≤ s.length
  | k, [], l, _, h => by rw [patL_nil] at h; cases h; simp
  | 0, c :: s, l, hk, h => by simp at hk
  | k + 1, c :: s, l, hk, h => by
    cases hf : firstL (c :: s) with
    | none => rw [patL_none (by simp) hf] at h; cases h
    | some x =>
      obtain ⟨p, r⟩ := x
      rw [patL_some hf] at h
      have hlt := firstL_lt hf
      cases hr : patL r with
      | none => rw [hr] at h; cases h
      | some m =>
        rw [hr] at h
        cases h
        have := patL_length k r m (by omega) hr
        simp only [List.length_cons] at *
        omega
set_option maxHeartbeats 1000000 in
theorem match_some (p n : List UInt8) (hp : p.length ≤ 120) (hn : n.length ≤ 120) (l : List Pc) (h : patL p = some l) (w : World) :
    Calls Tryd.prog 5 #[.string (mkS p), .string (mkS n)] w fun e w' => e = .returned (.tuple #[.bool (matL l n), .nilIface]) ∧ Below w.heap.size w w' := by
  have z1 : decide ((120 : Int) < ((mkS p).size : Int)) = false := decide_eq_false (by rw [mkS_size]; omega)
  have z2 : decide ((120 : Int) < ((mkS n).size : Int)) = false := decide_eq_false (by rw [mkS_size]; omega)
  have P := Lib.hid (fun (w : World) => pieces_any p (by omega) w)
  unfold PiecesIs at P
  rw [h] at P
  have FO := Lib.hid (fun (q : Pc) (R : Nat → Bool) (w : World) => follow_any q R n hn w)
  have ZE := Lib.hid (fun (w : World) => zeroEnd w)
  have ZP := Lib.hid (fun (w : World) => zeroPc w)
  have EB := Lib.hid endBuilt
  have hnz := mkS_size n
  have hll := patL_length _ p l (Nat.le_refl _) h
  have hll2 : l.length ≤ 120 := by omega
  clear hll
  have RM := Lib.hid (reach_mat n l)
  have RA := Lib.hid (reach_all n l startR)
  clear h hp
  generalize mkS p = S at *
  generalize mkS n = N at *
  obtain ⟨M, hM⟩ : ∃ M, n.length = M := ⟨_, rfl⟩
  have HM := Lib.hid hM
  rw [hM] at hnz hn
  clear hM
  go_enter Tryd.func5, Tryd.ntmps5
  go_wp2_with (first
    | (go_at_call 9; with_reducible refine (P.out _).mono ?_; rintro e w1 ⟨⟨v, rfl, hv⟩, hb1⟩; rcases pcs_at2 hv with ⟨rfl, HLZ⟩ | ⟨ga, cap, rfl, HG⟩ <;> clear hv)
    | refine wpList_build1 rfl 38 _ rfl (.bool true) rfl _ EB.out ?_
    | refine wpList_alloc_row rfl _ rfl _ (ZE.out _) ?_
    | refine wpList_store_row rfl _ _ _ rfl _ (rowA 121 startR) rfl rfl _ _ (IsRow.new w1 _ 121 (fun _ => false)) (infoEnd _) (by rw [rowA_size, rowA_size]) (rowA_one _ _) ?_)
  · refine wp_loop_rounds 1 ?_
    rw [rounds_succ]
    have hrow := (IsRow.new w1 38 121 (fun _ => false)).setRow startR
    have hbz : Below w.heap.size w ((w1.alloc (.cells (rowA 121 (fun _ => false)) 38)).setRow w1.heap.size (rowA 121 startR)) := below_setRow (hb1.alloc hb1.size _) hb1.size _
    generalize (w1.alloc (.cells (rowA 121 (fun _ => false)) 38)).setRow w1.heap.size (rowA 121 startR) = W at hrow hbz ⊢
    have hc := hrow.cell (i := M) (by omega)
    have h121 : (M : Int) < 121 := by omega
    have HB := Lib.hid hbz
    clear hrow hbz
    go_wp2
    go_ret2
    refine ⟨?_, HB.out⟩
    have e := RM.out
    rw [HLZ.out, HM.out] at e
    rw [HLZ.out, ← e]; rfl
  · have hrow := (IsRow.new w1 38 121 (fun _ => false)).setRow startR
    have hbz : Below w1.heap.size w1 ((w1.alloc (.cells (rowA 121 (fun _ => false)) 38)).setRow w1.heap.size (rowA 121 startR)) := below_setRow (below_alloc1 w1 _) (Nat.le_refl _) _
    generalize (w1.alloc (.cells (rowA 121 (fun _ => false)) 38)).setRow w1.heap.size (rowA 121 startR) = W at hrow hbz ⊢
    have HW := Lib.hid (And.intro hrow hbz)
    clear hrow hbz
    obtain ⟨L, hL⟩ : ∃ L, l.length = L := ⟨_, rfl⟩
    have HL := Lib.hid hL
    rw [hL] at hll2 ⊢
    clear hL
    go_loopg [31] L (fun g s31 wr => ∃ i : Nat, i + g = L ∧ s31 = .int .i64 (i : Int) ∧ IsRow wr w1.heap.size 38 121 (reachL n (l.take i) startR) ∧ Below w1.heap.size w1 wr)
    case atStart => exact ⟨0, by omega, rfl, HW.out.1, HW.out.2⟩
    case round =>
      obtain ⟨i, hig, rfl, hR, hB⟩ := hrel
      have HB := Lib.hid hB
      cases gk with
      | zero =>
        obtain rfl : i = L := by omega
        have hc := hR.cell (i := M) (by omega)
        have h121 : (M : Int) < 121 := by omega
        have HC := Lib.hid (show reachL n (l.take i) startR M = matL l n by rw [← HL.out, RA.out, ← HM.out]; exact RM.out)
        rw [HC.out] at hc
        clear hR hB HC
        go_wp2
        go_ret2
        exact ⟨rfl, hb1.trans (HB.out.mono hb1.size)⟩
      | succ g =>
        have hi : i < L := by omega
        have hiz : (i : Int) < (L : Int) := by omega
        have h9 : (i : Int) + 1 ≤ 9223372036854775807 := by omega
        obtain ⟨q, hq⟩ : ∃ q, l[i]? = some q := ⟨_, List.getElem?_eq_getElem (by rw [HL.out]; exact hi)⟩
        have hrange := pcs_below HG.out.2.2 hB HG.out.2.1 i q hq
        have NX := Lib.hid (reach_take n l startR hq)
        have HRG := Lib.hid hrange
        have hbR : w1.heap.size < wr.heap.size := hR.lt
        have kn := IsPc.new wr noPc
        have kr0 := Lib.hid (show IsRow ((wr.alloc (.cells (pcA noPc) 42)).setRow wr.heap.size (pcA q)) w1.heap.size 38 121 (reachL n (l.take i) startR) ∧ Below w1.heap.size w1 ((wr.alloc (.cells (pcA noPc) 42)).setRow wr.heap.size (pcA q)) from
          ⟨(hR.alloc _).setRowOther (by omega) _, below_setRow (HB.out.alloc (Nat.le_of_lt hbR) _) (Nat.le_of_lt hbR) _⟩)
        have FQ := Lib.hid (FO.out q (reachL n (l.take i) startR))
        have hrg : ∀ (b o : Nat), b = ga → o = i * 257 → wr.rangeAt b o (pcL q) := fun b o h1 h2 => by rw [h1, h2]; exact HRG.out
        have HRG2 := Lib.hid hrg
        clear hR hB hrange hq hrg
        generalize hX : reachL n (l.take i) startR = X at *
        clear hX
        go_wp2_with (first
          | refine wpList_load_mid rfl 42 _ rfl _ _ rfl (pcL q) _ (HRG2.out _ _ rfl (by omega)) Tryd.underlying42 rfl (infoPc q) ?_
          | refine wpList_alloc_row rfl _ rfl _ (ZP.out _) ?_
          | (refine wpList_store_row rfl _ _ _ rfl _ (pcA q) rfl rfl _ _ kn (infoPc _) (by rw [pcA_size, pcA_size]) (pcA_one _) ?_
             have kp := kn.setRow q
             have kr1 := kr0.out.1
             have KB := Lib.hid kr0.out.2
             clear kn kr0
             generalize (wr.alloc (.cells (pcA noPc) 42)).setRow wr.heap.size (pcA q) = W2 at kp kr1 KB ⊢)
          | refine wpList_load_row rfl _ _ rfl _ rfl _ _ _ _ kp Tryd.underlying42 rfl (infoPc _) ?_
          | refine wpList_load_row rfl _ _ rfl _ rfl _ _ _ _ kr1 Tryd.underlying38 rfl (infoEnd _) ?_
          | (go_at_call 10; with_reducible refine (FQ.out _).mono ?_; rintro e w4 ⟨rfl, hb4⟩; have kr2 := kr1.below hb4 kr1.lt; have KB4 := Lib.hid (KB.out.trans (hb4.mono KB.out.size)); clear hb4)
          | refine wpList_store_row rfl _ _ _ rfl _ (rowA 121 (followL q n X)) rfl rfl _ _ kr2 (infoEnd _) (by rw [rowA_size, rowA_size]) (rowA_one _ _) ?_)
        go_roundg g
        case measure => omega
        case rel => exact ⟨i + 1, by omega, by first | rfl | simp, by rw [NX.out]; exact kr2.setRow _, below_setRow KB4.out (Nat.le_refl _) _⟩

theorem match_any (p n : List UInt8) (hp : p.length ≤ 1000000) (hn : n.length ≤ 1000000) (w : World) :
    Calls Tryd.prog 5 #[.string (mkS p), .string (mkS n)] w fun e w' => e = .returned (matchV p n) ∧ Below w.heap.size w w' := by
  unfold matchV
  by_cases h : p.length ≤ 120 ∧ n.length ≤ 120
  · rw [if_pos h]
    cases hl : patL p with
    | none => exact match_none p n h.1 h.2 hl w
    | some l => exact match_some p n h.1 h.2 l hl w
  · rw [if_neg h]; exact match_long p n hp hn h w
end Go.Proofs.YtcdoiadmnckccaaDoor
