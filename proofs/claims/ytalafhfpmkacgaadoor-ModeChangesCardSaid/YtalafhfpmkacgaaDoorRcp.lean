/- The reference's ModeChange: parts between commas. -/
import Derived.Test.YtalafhfpmkacgaaDoorRsm
import Derived.Test.YtalafhfpmkacgaaDoorRps
import Derived.Test.YtalafhfpmkacgaaDoorLitm
import Derived.Test.YtalafhfpmkacgaaDoorSptc
import Derived.Test.YtalafhfpmkacgaaDoorMix
import Derived.Test.YtalafhfpmkacgaaDoorAct
import Derived.Deep.Cut
import Derived.Deep.DeepCutAuto
namespace Go.Proofs.YtalafhfpmkacgaaDoor
open Go.RowKit Go.Joins
set_option linter.unusedVariables false
set_option linter.unusedSimpArgs false
set_option maxRecDepth 100000

/-- The text of who. -/
def whoT (l : List UInt8) : List UInt8 := if l = [] then [97] else l
theorem whoT_mask (l : List UInt8) : whoN (whoT l) 0 = whoM l := by
  unfold whoT whoM
  by_cases h : l = []
  · rw [if_pos h, if_pos h]; rfl
  · rw [if_neg h, if_neg h]
theorem whoT_in (p : List UInt8) (i : Nat) (c : UInt8) (h : (whoT (headS whoS p))[i]? = some c) : whoS.contains c = true := by
  have hm := List.mem_of_getElem? h
  unfold whoT at hm
  split at hm
  · rw [List.mem_singleton] at hm; subst hm; decide
  · exact List.all_eq_true.1 List.all_takeWhile c hm
theorem permT_in (p : List UInt8) (i : Nat) (c : UInt8) (h : (headS permS p)[i]? = some c) : permS.contains c = true :=
  List.all_eq_true.1 List.all_takeWhile c (List.mem_of_getElem? h)
theorem below_map (w : World) (es : Array MapEntry) (c : Nat) : Below w.heap.size w (w.alloc (.map es c)) := (Below.refl _ w).alloc (Nat.le_refl _) _
theorem lm_other (r : Bool) (c : Nat) (h : ¬ c = 88) : lm r c = lm true c := by
  unfold lm
  simp only [if_neg h]
/-- What is known at a part. -/
def PartI (m0 : Nat) (l : List UInt8) (dir : Bool) (i m : Nat) (w1 wr : World) : Prop := chF dir m0 ((piecesC l).take i) = some m ∧ Below w1.heap.size w1 wr

/-- The last loop's end, by the sign: bit k. -/
theorem step_plus (mk bt k : Nat) : (bt.testBit k = true → mixB mk (mk ||| bt) (k + 1) = mixB mk (mk ||| bt) k ||| 2 ^ k) ∧ (bt.testBit k = false → mixB mk (mk ||| bt) (k + 1) = mixB mk (mk ||| bt) k) :=
  ⟨fun h => mix_on _ _ _ (by rw [Nat.testBit_or, h, Bool.or_true]), fun h => mix_same _ _ _ (by rw [Nat.testBit_or, h, Bool.or_false])⟩
theorem step_minus (mk bt k : Nat) : (bt.testBit k = true → mixB mk (less mk bt) (k + 1) = less (mixB mk (less mk bt) k) (2 ^ k)) ∧ (bt.testBit k = false → mixB mk (less mk bt) (k + 1) = mixB mk (less mk bt) k) :=
  ⟨fun h => mix_off _ _ _ (by rw [less_bit, h, Bool.not_true, Bool.and_false]), fun h => mix_same _ _ _ (by rw [less_bit, h, Bool.not_false, Bool.and_true])⟩
theorem step_just (mk who g k : Nat) : ((who &&& g).testBit k = true → who.testBit k = true ∧ mixB mk (less mk who ||| (who &&& g)) (k + 1) = mixB mk (less mk who ||| (who &&& g)) k ||| 2 ^ k) ∧
    ((who &&& g).testBit k = false → who.testBit k = true → mixB mk (less mk who ||| (who &&& g)) (k + 1) = less (mixB mk (less mk who ||| (who &&& g)) k) (2 ^ k)) ∧
    ((who &&& g).testBit k = false → who.testBit k = false → mixB mk (less mk who ||| (who &&& g)) (k + 1) = mixB mk (less mk who ||| (who &&& g)) k) :=
  ⟨fun h => ⟨by rw [Nat.testBit_and, Bool.and_eq_true] at h; exact h.1, mix_on _ _ _ (by rw [Nat.testBit_or, h, Bool.or_true])⟩,
   fun h h2 => mix_off _ _ _ (by rw [Nat.testBit_or, h, less_bit, h2]; simp),
   fun h h2 => mix_same _ _ _ (by rw [Nat.testBit_or, h, less_bit, h2]; simp)⟩
theorem bit_slot (x k : Nat) (hx : x < 4096) (hk : k < 12) : bits .and .i64 (x : Int) ((2 ^ k : Nat) : Int) = ((x &&& 2 ^ k : Nat) : Int) := by
  have hp : 2 ^ k < 2 ^ 12 := Nat.pow_lt_pow_right (by decide) hk
  exact i64_and_nat _ _ (by omega) (by omega)
theorem bit_pos (x k : Nat) (h : x.testBit k = true) : (0 : Int) < ((x &&& 2 ^ k : Nat) : Int) := by have := pow_pos x k h; omega
theorem bit_non (x k : Nat) (h : x.testBit k = false) : ((x &&& 2 ^ k : Nat) : Int) = 0 := by rw [pow_zero x k h]; rfl
theorem plus_round (mk bt k v : Nat) (hv : v = mixB mk (mk ||| bt) k) : ((0 : Int) < ((bt &&& 2 ^ k : Nat) : Int) ∧ v ||| 2 ^ k = mixB mk (mk ||| bt) (k + 1)) ∨ (((bt &&& 2 ^ k : Nat) : Int) = 0 ∧ v = mixB mk (mk ||| bt) (k + 1)) := by
  cases h : bt.testBit k
  · exact .inr ⟨bit_non _ _ h, by rw [hv]; exact ((step_plus mk bt k).2 h).symm⟩
  · exact .inl ⟨bit_pos _ _ h, by rw [hv]; exact ((step_plus mk bt k).1 h).symm⟩
theorem minus_round (mk bt k v : Nat) (hv : v = mixB mk (less mk bt) k) : ((0 : Int) < ((bt &&& 2 ^ k : Nat) : Int) ∧ less v (2 ^ k) = mixB mk (less mk bt) (k + 1)) ∨ (((bt &&& 2 ^ k : Nat) : Int) = 0 ∧ v = mixB mk (less mk bt) (k + 1)) := by
  cases h : bt.testBit k
  · exact .inr ⟨bit_non _ _ h, by rw [hv]; exact ((step_minus mk bt k).2 h).symm⟩
  · exact .inl ⟨bit_pos _ _ h, by rw [hv]; exact ((step_minus mk bt k).1 h).symm⟩
theorem just_round (mk who g bt k v : Nat) (hb : who &&& g = bt) (hv : v = mixB mk (less mk who ||| bt) k) :
    ((0 : Int) < ((who &&& 2 ^ k : Nat) : Int) ∧ (0 : Int) < ((bt &&& 2 ^ k : Nat) : Int) ∧ v ||| 2 ^ k = mixB mk (less mk who ||| bt) (k + 1)) ∨
    ((0 : Int) < ((who &&& 2 ^ k : Nat) : Int) ∧ ((bt &&& 2 ^ k : Nat) : Int) = 0 ∧ less v (2 ^ k) = mixB mk (less mk who ||| bt) (k + 1)) ∨
    (((who &&& 2 ^ k : Nat) : Int) = 0 ∧ ((bt &&& 2 ^ k : Nat) : Int) = 0 ∧ v = mixB mk (less mk who ||| bt) (k + 1)) := by
  subst hb
  obtain ⟨h1, h2, h3⟩ := step_just mk who g k
  cases h : (who &&& g).testBit k
  · cases hw : who.testBit k
    · exact .inr (.inr ⟨bit_non _ _ hw, bit_non _ _ h, by rw [hv]; exact (h3 h hw).symm⟩)
    · exact .inr (.inl ⟨bit_pos _ _ hw, bit_non _ _ h, by rw [hv]; exact (h2 h hw).symm⟩)
  · exact .inl ⟨bit_pos _ _ (h1 h).1, bit_pos _ _ h, by rw [hv]; exact (h1 h).2.symm⟩

set_option maxHeartbeats 16000000 in
theorem refChange_parts (m0 : Nat) (hm0 : m0 < 4096) (l : List UInt8) (dir : Bool) (hl : l.length ≤ 1000) (ho : octB l = false) (w : World) :
    Calls Tryd.prog 10 #[.int .i64 (m0 : Int), .string (mkS l), .bool dir] w fun e w' => e = .returned (refOut (changeF m0 l dir)) ∧ Below w.heap.size w w' := by
  have WI := Lib.hid (fun w => within_any (m0 : Int) w)
  rw [decide_eq_true (by omega)] at WI
  have O := Lib.hid (fun w => only_any octS l (by decide) (by omega) w)
  have SP := Lib.hid (fun w => split_any l (by omega) w)
  obtain ⟨PF, hPF⟩ : ∃ x, changeF m0 l dir = x := ⟨_, rfl⟩
  rw [hPF]
  have HPF := Lib.hid (show PF = match chF dir m0 (piecesC l) with | some v => (0, v) | none => (3, 0) from by
    rw [← hPF]
    unfold changeF
    rw [if_neg (by omega), if_neg (by rw [ho]; decide)]
    rfl)
  unfold octB at ho
  have hpc := pieces_length_le l
  have hcut0 : (⟨#[48, 49, 50, 51, 52, 53, 54, 55]⟩ : ByteArray) = mkS octS := rfl
  have hcut1 : (⟨#[44]⟩ : ByteArray) = mkS [44] := rfl
  have hcut2 : (⟨#[117, 103, 111, 97]⟩ : ByteArray) = mkS whoS := rfl
  have hcut3 : (⟨#[114, 119, 120, 88, 115, 116]⟩ : ByteArray) = mkS permS := rfl
  have e0 := mkS_emp_any (headS octS l)
  have e1 := mkS_emp_any (restS octS l)
  obtain ⟨n, hn⟩ : ∃ n, (piecesC l).length = n := ⟨_, rfl⟩
  simp only [hn] at SP
  rw [hn] at hpc
  have HN := Lib.hid hn
  have hone : decide (headS octS l = []) = true ∨ (decide (headS octS l = []) = false ∧ decide (restS octS l = []) = false) := by
    by_cases h1 : headS octS l = []
    · exact .inl (decide_eq_true h1)
    · refine .inr ⟨decide_eq_false h1, ?_⟩
      by_cases h2 : restS octS l = []
      · have hh := head_rest octS l
        rw [h2, List.append_nil] at hh
        rw [h2, decide_eq_true rfl, Bool.and_true, Bool.not_eq_false', decide_eq_true_eq] at ho
        rw [hh] at h1
        exact absurd ho h1
      · exact decide_eq_false h2
  have HNB : n ≤ 1001 := by omega
  have HSC := Lib.hid (fun w W i p hi hb => split_cell l w W i p hi hb)
  have HLEN := Lib.hid (fun p hp => pieces_le l p hp)
  generalize headS octS l = H0 at *
  generalize restS octS l = R0 at *
  clear ho hPF hn
  obtain ⟨b0, hb0⟩ : ∃ b, decide (H0 = []) = b := ⟨_, rfl⟩
  obtain ⟨b1, hb1⟩ : ∃ b, decide (R0 = []) = b := ⟨_, rfl⟩
  rw [hb0] at e0
  rw [hb1] at e1
  rw [hb0, hb1] at hone
  clear hb0 hb1
  go_enter Tryd.func10, Tryd.ntmps10
  go_upto_region 4 with (first
    | (go_at_call 23; with_reducible refine (WI.out _).mono ?_; rintro e w' ⟨rfl, hw⟩; replace hw := hw.symm; subst hw)
    | (go_at_call 24; with_reducible refine (O.out _).mono ?_; rintro e w1 ⟨rfl, hb1⟩))
  have HB1 := Lib.hid hb1
  clear hb1 WI O
  go_cut [38] (fun s38 wx => s38 = .bool false ∧ wx = w1)
  case first =>
    rcases hone with rfl | ⟨rfl, rfl⟩
    · go_wp2
      go_meet
      exact ⟨rfl, rfl⟩
    · go_wp2
      go_meet
      exact ⟨rfl, rfl⟩
  case rest =>
    obtain ⟨rfl, rfl⟩ := hcut
    clear hone e0 e1
    go_wp2_with (go_at_call 25; with_reducible refine (SP.out _).mono ?_; rintro e w2 ⟨rfl, rfl⟩)
    have HCL := Lib.hid (fun W i p hi hb => HSC.out wc W i p hi hb)
    have HBS := Lib.hid (HB1.out.trans (((Below.refl _ wc).alloc (Nat.le_refl _) (.cells ((piecesC l).map encS).toArray 9)).mono HB1.out.size))
    clear SP
    generalize wc.alloc (.cells ((piecesC l).map encS).toArray 9) = WS at *
    generalize wc.heap.size = LB at *
    go_loopg [0, 60] n (fun g s0 s60 wr => ∃ (i m : Nat), i ≤ n ∧ n - i ≤ g ∧ m < 4096 ∧ s0 = .int .i64 m ∧ s60 = .int .i64 i ∧ Aside (PartI m0 l dir i m WS wr))
    case atStart => exact ⟨0, m0, by omega, by omega, hm0, rfl, rfl, rfl, Below.refl _ _⟩
    case round =>
      obtain ⟨i, m, hi, hg, hm, rfl, rfl, A⟩ := hrel
      by_cases hin : i < n
      · have hin' : (i : Int) < (n : Int) := by omega
        obtain ⟨p, hp⟩ : ∃ p, (piecesC l)[i]? = some p := ⟨_, List.getElem?_eq_getElem (by rw [HN.out]; exact hin)⟩
        have hcell := HCL.out wr i p hp A.out.2
        have hpl := HLEN.out p (List.mem_of_getElem? hp)
        have hpl2 : p.length ≤ 1000 := by omega
        have O1 := Lib.hid (fun w => only_any whoS p (by decide) (by omega) w)
        have HA := Lib.hid A.out
        have HP := Lib.hid hp
        obtain ⟨bH, hbH⟩ : ∃ b, decide (headS whoS p = []) = b := ⟨_, rfl⟩
        have e2 := mkS_emp_any (headS whoS p)
        rw [hbH] at e2
        have HH := Lib.hid hbH
        have hHl := headS_le whoS p
        have hRl := restS_le whoS p
        clear A hp hpl hbH
        go_upto_if 70 with (go_at_call 24; with_reducible refine (O1.out _).mono ?_; rintro e w3 ⟨rfl, hb3⟩)
        have HB3 := Lib.hid (HA.out.2.trans (hb3.mono HA.out.2.size))
        clear hb3 O1 hcell
        go_cut [14] (fun s14 wx => s14 = .string (mkS (whoT (headS whoS p))) ∧ wx = w3)
        case first =>
          cases bH
          · go_wp2
            go_meet
            exact ⟨by unfold whoT; rw [if_neg (of_decide_eq_false HH.out)], rfl⟩
          · go_wp2
            go_meet
            exact ⟨by unfold whoT; rw [if_pos (of_decide_eq_true HH.out)]; rfl, rfl⟩
        case rest =>
          obtain ⟨rfl, rfl⟩ := hcut
          clear e2 HH
          have hWz := mkS_size (whoT (headS whoS p))
          have HIW := Lib.hid (fun (i : Nat) (c : UInt8) (h : (whoT (headS whoS p))[i]? = some c) => mkS_index (whoT (headS whoS p)) (i : Int) c (by omega) (by simpa using h))
          have HWI := Lib.hid (fun i c h => whoT_in p i c h)
          have HWM := Lib.hid (whoT_mask (headS whoS p))
          have hWl : (whoT (headS whoS p)).length ≤ 1001 := by
            unfold whoT
            split
            · simp
            · omega
          have hmm := @run_makeMap Tryd.prog
          generalize whoT (headS whoS p) = WT at *
          obtain ⟨nW, hnW⟩ : ∃ k, WT.length = k := ⟨_, rfl⟩
          rw [hnW] at hWz hWl
          have HNW := Lib.hid hnW
          clear hnW
          go_wp2
          go_loopg [16, 73] nW (fun g s16 s73 wr => ∃ (j v : Nat), j ≤ nW ∧ nW - j ≤ g ∧ v < 4096 ∧ s16 = .int .i64 v ∧ s73 = .int .i64 j ∧ Aside (whoN (WT.take j) 0 = v ∧ Below WS.heap.size WS wr))
          case atStart => exact ⟨0, 0, by omega, by omega, by omega, rfl, rfl, rfl, HB3.out⟩
          case round =>
            obtain ⟨j, v, hj, hg2, hv, rfl, rfl, A⟩ := hrel
            by_cases hjn : j < nW
            · have hjn' : (j : Int) < (nW : Int) := by omega
              obtain ⟨c, hc⟩ : ∃ c, WT[j]? = some c := ⟨_, List.getElem?_eq_getElem (by rw [HNW.out]; exact hjn)⟩
              have ix := HIW.out j c hc
              have hS := HWI.out j c hc
              have q1 := insW1
              have q2 := insW2
              have q3 := insW3
              have q4 := insW4
              have q5 := lookW c hS
              have hwl := wm_lt c.toNat
              have o1 : bits .or .i64 (v : Int) (wm c.toNat : Int) = ((v ||| wm c.toNat : Nat) : Int) := i64_or_nat _ _ (by omega) (by omega)
              have b1 := or_lt v _ hv hwl
              obtain ⟨v', hv'⟩ : ∃ x, v ||| wm c.toNat = x := ⟨_, rfl⟩
              rw [hv'] at o1 b1
              have HN2 := Lib.hid (show whoN (WT.take (j + 1)) 0 = v' ∧ Below WS.heap.size WS (wr.alloc (.map eW4 4)) from by
                refine ⟨?_, A.out.2.trans ((below_map wr eW4 4).mono A.out.2.size)⟩
                rw [List.take_add_one, hc]
                show whoN (WT.take j ++ [c]) 0 = v'
                rw [whoN_snoc, A.out.1, hv'])
              clear A hc hS hv'
              generalize wm c.toNat = wv at *
              go_wp2
              go_roundg (nW - (j + 1))
              case measure => omega
              case rel => exact ⟨j + 1, v', by omega, Nat.le_refl _, b1, by first | rfl | simp, by first | rfl | simp, HN2.out⟩
            · have hjn' : ¬ (j : Int) < (nW : Int) := by omega
              have hwm : v = whoM (headS whoS p) := by
                rw [← HWM.out, ← A.out.1, List.take_of_length_le (by rw [HNW.out]; omega)]
              have HWV := Lib.hid hwm
              have HBR := Lib.hid A.out.2
              clear A hwm
              clear hmm
              have hwho := whoM_lt (headS whoS p)
              rw [← HWV.out] at hwho
              have e4 := mkS_emp_any (restS whoS p)
              cases hbR : decide (restS whoS p = [])
              case true =>
                rw [hbR] at e4
                have HE := Lib.hid (show PF = (3, 0) ∧ Below w.heap.size w wr from by
                  have h1 : partF dir m p = none := by unfold partF; rw [if_pos (of_decide_eq_true hbR)]
                  have h2 : chF dir m0 ((piecesC l).take (i + 1)) = none := by rw [chF_at dir m0 _ i p HP.out, HA.out.1]; exact h1
                  exact ⟨by rw [HPF.out, chF_stop dir m0 _ _ h2], HBS.out.trans (HBR.out.mono HBS.out.size)⟩)
                clear hbR
                go_wp2
                go_ret2
                exact ⟨by rw [HE.out.1]; rfl, HE.out.2⟩
              case false =>
                rw [hbR] at e4
                have HPT := Lib.hid (show partF dir m p = foldA v dir m (acts (restS whoS p)) from by unfold partF; rw [if_neg (of_decide_eq_false hbR), HWV.out])
                clear hbR HWV
                go_wp2
                clear e4
                go_loopg [0, 15] (restS whoS p).length (fun g s0 s15 wr => ∃ (mk : Nat) (r : List UInt8), r.length ≤ g ∧ r.length ≤ 1000 ∧ mk < 4096 ∧ s0 = .int .i64 mk ∧ s15 = .string (mkS r) ∧ Aside (partF dir m p = foldA v dir mk (acts r) ∧ Below WS.heap.size WS wr))
                case atStart => exact ⟨m, restS whoS p, Nat.le_refl _, by omega, hm, rfl, rfl, HPT.out, HBR.out⟩
                case round =>
                  obtain ⟨mk, r, hg3, hr1, hmk, rfl, rfl, A⟩ := hrel
                  have HR := Lib.hid A.out
                  clear A
                  cases r with
                  | nil =>
                    have e5 := mkS_emp_nil
                    have HN6 := Lib.hid (show PartI m0 l dir (i + 1) mk WS wr from ⟨by rw [chF_at dir m0 _ i p HP.out, HA.out.1]; exact HR.out.1, HR.out.2⟩)
                    go_wp2
                    go_roundg (n - (i + 1))
                    case measure => omega
                    case rel => exact ⟨i + 1, mk, by omega, Nat.le_refl _, hmk, by first | rfl | simp, by first | rfl | simp, HN6.out⟩
                  | cons c r =>
                    have e5 := mkS_emp (c :: r) (by simp)
                    have i0 := mkS_head c r
                    have i1 := mkS_tail c r
                    have hrl : r.length ≤ 1000 := by simp at hr1; omega
                    have hrg : r.length < (c :: r).length := by simp
                    obtain ⟨x, hx⟩ : ∃ x : Int, (c.toNat : Int) = x := ⟨_, rfl⟩
                    rw [hx] at i0
                    have HX := Lib.hid hx
                    clear hx
                    have hsg : (x = 43 ∨ x = 45 ∨ x = 61) ∨ (¬ x = 43 ∧ ¬ x = 45 ∧ ¬ x = 61) := by omega
                    rcases hsg with hgood | ⟨n1, n2, n3⟩
                    · go_upto_region 30 with fail
                      go_cut [100] (fun s100 wx => s100 = .bool false ∧ wx = wr)
                      case first =>
                        rcases hgood with rfl | rfl | rfl
                        all_goals (
                          go_wp2
                          go_meet
                          exact ⟨rfl, rfl⟩)
                      case rest =>
                        obtain ⟨rfl, hwr⟩ := hcut
                        subst hwr
                        have O2 := Lib.hid (fun w => only_any permS r (by decide) (by omega) w)
                        have hLl := headS_le permS r
                        have hRl2 := restS_le permS r
                        go_wp2_with (go_at_call 24; with_reducible refine (O2.out _).mono ?_; rintro e w5 ⟨rfl, hb5⟩)
                        have HB5 := Lib.hid (HR.out.2.trans (hb5.mono HR.out.2.size))
                        clear hb5 O2 e5 i0 i1
                        obtain ⟨LT, hLT⟩ : ∃ t, headS permS r = t := ⟨_, rfl⟩
                        obtain ⟨RT, hRT⟩ : ∃ t, restS permS r = t := ⟨_, rfl⟩
                        have HPI := Lib.hid (fun i c h => permT_in r i c h)
                        rw [hLT] at HPI hLl ⊢
                        rw [hRT] at hRl2 ⊢
                        have HLT := Lib.hid (And.intro hLT hRT)
                        clear hLT hRT
                        have zL := mkS_size LT
                        have HIL := Lib.hid (fun (i : Nat) (c : UInt8) (h : LT[i]? = some c) => mkS_index LT (i : Int) c (by omega) (by simpa using h))
                        obtain ⟨nL, hnL⟩ : ∃ k, LT.length = k := ⟨_, rfl⟩
                        rw [hnL] at zL hLl
                        have HNL := Lib.hid hnL
                        clear hnL
                        obtain ⟨z, hz⟩ : ∃ z, decide (mk &&& 73 = 0) = z := ⟨_, rfl⟩
                        obtain ⟨rr, hrr⟩ : ∃ z, runsB dir mk = z := ⟨_, rfl⟩
                        have hrr2 : rr = (dir || !z) := by rw [← hrr, ← hz]; rfl
                        have HRR := Lib.hid (And.intro hrr hrr2)
                        have a73 : bits .and .i64 (mk : Int) 73 = ((mk &&& 73 : Nat) : Int) := i64_and_nat mk 73 (by omega) (by omega)
                        have z73 : (((mk &&& 73 : Nat) : Int) == 0) = z := by
                          rw [← hz, Bool.beq_eq_decide_eq]
                          exact decide_eq_decide.2 (by omega)
                        obtain ⟨m73, h73⟩ : ∃ y : Int, ((mk &&& 73 : Nat) : Int) = y := ⟨_, rfl⟩
                        rw [h73] at a73 z73
                        have HZ7 := Lib.hid (show (z = true → m73 = 0) ∧ (z = false → ¬ m73 = 0) from ⟨fun h => by rw [h] at z73; exact eq_of_beq z73, fun h e => by rw [h, e] at z73; cases z73⟩)
                        clear h73 hz hrr hrr2 z73
                        have hmm := @run_makeMap Tryd.prog
                        go_loopg [20, 109] nL (fun g s20 s109 wr => ∃ (j gg : Nat), j ≤ nL ∧ nL - j ≤ g ∧ gg < 4096 ∧ s20 = .int .i64 gg ∧ s109 = .int .i64 j ∧ Aside (letM rr (LT.take j) 0 = gg ∧ Below WS.heap.size WS wr))
                        case atStart => exact ⟨0, 0, by omega, by omega, by omega, rfl, rfl, rfl, HB5.out⟩
                        case round =>
                          obtain ⟨j, gg, hj, hg5, hgg, rfl, rfl, A⟩ := hrel
                          have HA5 := Lib.hid A.out
                          clear A
                          by_cases hjn : j < nL
                          · have hjn' : (j : Int) < (nL : Int) := by omega
                            obtain ⟨d, hd⟩ : ∃ d, LT[j]? = some d := ⟨_, List.getElem?_eq_getElem (by rw [HNL.out]; exact hjn)⟩
                            have ix := HIL.out j d hd
                            have hS := HPI.out j d hd
                            have q1 := insL1
                            have q2 := insL2
                            have q3 := insL3
                            have q4 := insL4
                            have q5 := insL5
                            have q6 := insL6
                            have q7 := lookL d hS
                            have hll := lm_lt true d.toNat
                            obtain ⟨nv, hnv⟩ : ∃ k, lm true d.toNat = k := ⟨_, rfl⟩
                            rw [hnv] at q7 hll
                            have o1 : bits .or .i64 (gg : Int) (nv : Int) = ((gg ||| nv : Nat) : Int) := i64_or_nat _ _ (by omega) (by omega)
                            have o0 : bits .or .i64 (gg : Int) 0 = (gg : Int) := by have := i64_or_nat gg 0 (by omega) (by omega); rw [Nat.or_zero] at this; exact this
                            have b1 := or_lt gg nv hgg hll
                            obtain ⟨g', hg'⟩ : ∃ y, gg ||| nv = y := ⟨_, rfl⟩
                            rw [hg'] at o1 b1
                            have HNX := Lib.hid (show ∀ y, gg ||| lm rr d.toNat = y → letM rr (LT.take (j + 1)) 0 = y ∧ Below WS.heap.size WS (wr.alloc (.map eL6 6)) from fun y hy => by
                              refine ⟨?_, HA5.out.2.trans ((below_map wr eL6 6).mono HA5.out.2.size)⟩
                              rw [List.take_add_one, hd]
                              show letM rr (LT.take j ++ [d]) 0 = y
                              rw [letM_snoc, HA5.out.1, hy])
                            have HLO := Lib.hid (fun (h : ¬ d.toNat = 88) => (lm_other rr d.toNat h).trans hnv)
                            have HNV := Lib.hid hnv
                            have HG' := Lib.hid hg'
                            obtain ⟨y, hy⟩ : ∃ y : Int, (d.toNat : Int) = y := ⟨_, rfl⟩
                            rw [hy] at ix q7
                            have HY := Lib.hid hy
                            clear hd hS hnv hg' hy
                            by_cases h88 : y = 88
                            · have h88n : d.toNat = 88 := by have := HY.out; omega
                              subst h88
                              cases hdd : dir
                              · cases hzz : z
                                · have HN7 := Lib.hid (HNX.out g' (by rw [HRR.out.2, hdd, hzz]; show gg ||| lm true d.toNat = g'; rw [HNV.out, HG'.out]))
                                  have hm7 := HZ7.out.2 hzz
                                  have hm7b : (m73 == 0) = false := beq_eq_false_iff_ne.2 hm7
                                  clear HNX h88n hzz
                                  subst hdd
                                  go_wp2
                                  go_roundg (nL - (j + 1))
                                  case measure => omega
                                  case rel => exact ⟨j + 1, g', by omega, Nat.le_refl _, b1, by first | rfl | simp, by first | rfl | simp, HN7.out⟩
                                · have HN7 := Lib.hid (HNX.out gg (by rw [HRR.out.2, hdd, hzz, h88n]; show gg ||| 0 = gg; exact Nat.or_zero gg))
                                  have hm7 := HZ7.out.1 hzz
                                  clear HNX h88n hzz
                                  subst hdd
                                  go_wp2
                                  go_roundg (nL - (j + 1))
                                  case measure => omega
                                  case rel => exact ⟨j + 1, gg, by omega, Nat.le_refl _, hgg, by first | rfl | simp, by first | rfl | simp, HN7.out⟩
                              · have HN7 := Lib.hid (HNX.out g' (by rw [HRR.out.2, hdd]; show gg ||| lm true d.toNat = g'; rw [HNV.out, HG'.out]))
                                clear HNX h88n
                                subst hdd
                                go_wp2
                                go_roundg (nL - (j + 1))
                                case measure => omega
                                case rel => exact ⟨j + 1, g', by omega, Nat.le_refl _, b1, by first | rfl | simp, by first | rfl | simp, HN7.out⟩
                            · have HN7 := Lib.hid (HNX.out g' (by rw [HLO.out (fun h => h88 (by rw [← HY.out, h]; rfl)), HG'.out]))
                              have h88b : (y == 88) = false := beq_eq_false_iff_ne.2 h88
                              clear HNX
                              go_wp2
                              go_roundg (nL - (j + 1))
                              case measure => omega
                              case rel => exact ⟨j + 1, g', by omega, Nat.le_refl _, b1, by first | rfl | simp, by first | rfl | simp, HN7.out⟩
                          · have hjn' : ¬ (j : Int) < (nL : Int) := by omega
                            have hgl : letM rr LT 0 = gg := by
                              have := HA5.out.1
                              rwa [List.take_of_length_le (by rw [HNL.out]; omega)] at this
                            have HGL := Lib.hid hgl
                            have HBL := Lib.hid HA5.out.2
                            have a9 : bits .and .i64 (gg : Int) (v : Int) = ((v &&& gg : Nat) : Int) := by rw [i64_and_nat _ _ (by omega) (by omega), Nat.and_comm]
                            have hbt := and_lt v gg hgg
                            obtain ⟨bt, hbe⟩ : ∃ y, v &&& gg = y := ⟨_, rfl⟩
                            rw [hbe] at a9 hbt
                            have HBT := Lib.hid hbe
                            have HSG := Lib.hid hgood
                            clear hgl HA5 hbe hgood a73 hmm HZ7
                            have HSX := Lib.hid (show ∀ (o : Nat) F, o < 256 → (x = (o : Int)) → stepA v dir mk (UInt8.ofNat o, headS permS r) = some F → stepA v dir mk (c, headS permS r) = some F from fun o F ho h1 h2 => by
                              have h3 : c = UInt8.ofNat o := by
                                have := HX.out
                                rw [← UInt8.ofNat_toNat (x := c)]
                                congr 1; omega
                              rw [h3]; exact h2)
                            go_upto_region 44 with fail
                            rcases HSG.out with rfl | rfl | rfl
                            · have HST := Lib.hid (show stepA v dir mk (c, headS permS r) = some (mk ||| bt) from HSX.out 43 _ (by omega) rfl (by
                                unfold stepA
                                rw [HRR.out.1, HLT.out.1, HGL.out, HBT.out]
                                rfl))
                              have hF : mk ||| bt < 4096 := by first | exact or_lt _ _ hmk hbt | exact less_lt' _ _ hmk | exact or_lt _ _ (less_lt' _ _ hmk) hbt
                              have HFL := Lib.hid hF
                              clear hF HSX
                              go_wp2
                              go_loopg [0, 138] 12 (fun g s0 s138 wr => ∃ (k u : Nat), k ≤ 12 ∧ 12 - k ≤ g ∧ u < 4096 ∧ s0 = .int .i64 u ∧ s138 = .int .i64 k ∧ Aside (u = mixB mk (mk ||| bt) k ∧ Below WS.heap.size WS wr))
                              case atStart => exact ⟨0, mk, by omega, by omega, hmk, rfl, rfl, (mix_zero _ _).symm, HBL.out⟩
                              case round =>
                                obtain ⟨k, u, hk, hg4, hu, rfl, rfl, A⟩ := hrel
                                by_cases hk12 : k < 12
                                · have hk12' : (k : Int) < 12 := by omega
                                  have PW := Lib.hid (fun w => power_any k (by omega) w)
                                  have s1 := bit_slot bt k hbt hk12
                                  have s2 := bit_slot v k hwho hk12
                                  have hp2 : 2 ^ k < 4096 := Nat.pow_lt_pow_right (n := 12) (by decide) hk12
                                  have o1 : bits .or .i64 (u : Int) ((2 ^ k : Nat) : Int) = ((u ||| 2 ^ k : Nat) : Int) := i64_or_nat _ _ (by omega) (by omega)
                                  have o2 : bits .andNot .i64 (u : Int) ((2 ^ k : Nat) : Int) = ((less u (2 ^ k) : Nat) : Int) := i64_andNot_nat _ _ (by omega) (by omega)
                                  have l1 := or_lt u _ hu hp2
                                  have l2 := less_lt' u (2 ^ k) hu
                                  have HC := plus_round mk bt k u A.out.1
                                  obtain ⟨u1, hu1⟩ : ∃ x, u ||| 2 ^ k = x := ⟨_, rfl⟩
                                  obtain ⟨u2, hu2⟩ : ∃ x, less u (2 ^ k) = x := ⟨_, rfl⟩
                                  simp only [hu1, hu2] at HC
                                  rw [hu1] at o1 l1
                                  rw [hu2] at o2 l2
                                  have HBA := Lib.hid A.out.2
                                  clear A hu1 hu2
                                  obtain ⟨g1, hg1⟩ : ∃ x : Int, ((bt &&& 2 ^ k : Nat) : Int) = x := ⟨_, rfl⟩
                                  obtain ⟨g2, hg2⟩ : ∃ x : Int, ((v &&& 2 ^ k : Nat) : Int) = x := ⟨_, rfl⟩
                                  simp only [hg1, hg2] at HC
                                  rw [hg1] at s1
                                  rw [hg2] at s2
                                  clear hg1 hg2
                                  generalize 2 ^ k = pk at *
                                  rcases HC with ⟨z1, hnew⟩ | ⟨z1, hnew⟩
                                  · have HN4 := Lib.hid (And.intro hnew HBA.out)
                                    clear hnew
                                    go_wp2_with (go_at_call 26; with_reducible refine (PW.out _).mono ?_; rintro e w9 ⟨rfl, hw⟩; replace hw := hw.symm; subst hw)
                                    go_roundg (12 - (k + 1))
                                    case measure => omega
                                    case rel => exact ⟨k + 1, u1, by omega, Nat.le_refl _, l1, by first | rfl | simp, by first | rfl | simp, HN4.out⟩
                                  · have HN4 := Lib.hid (And.intro hnew HBA.out)
                                    clear hnew
                                    go_wp2_with (go_at_call 26; with_reducible refine (PW.out _).mono ?_; rintro e w9 ⟨rfl, hw⟩; replace hw := hw.symm; subst hw)
                                    go_roundg (12 - (k + 1))
                                    case measure => omega
                                    case rel => exact ⟨k + 1, u, by omega, Nat.le_refl _, hu, by first | rfl | simp, by first | rfl | simp, HN4.out⟩
                                · have hk12' : ¬ (k : Int) < 12 := by omega
                                  have HN5 := Lib.hid (show partF dir m p = foldA v dir u (acts RT) ∧ Below WS.heap.size WS wr from by
                                    refine ⟨?_, A.out.2⟩
                                    have hk : k = 12 := by omega
                                    subst hk
                                    rw [HR.out.1, A.out.1, mix_end _ _ hmk HFL.out, acts_cons, ← HLT.out.2]
                                    show (stepA v dir mk (c, headS permS r)).bind _ = _
                                    rw [HST.out]
                                    rfl)
                                  clear A
                                  go_wp2
                                  go_roundg RT.length
                                  case measure => omega
                                  case rel => exact ⟨u, RT, Nat.le_refl _, by omega, hu, by first | rfl | simp, by first | rfl | simp, HN5.out⟩
                            · have HST := Lib.hid (show stepA v dir mk (c, headS permS r) = some (less mk bt) from HSX.out 45 _ (by omega) rfl (by
                                unfold stepA
                                rw [HRR.out.1, HLT.out.1, HGL.out, HBT.out]
                                rfl))
                              have hF : less mk bt < 4096 := by first | exact or_lt _ _ hmk hbt | exact less_lt' _ _ hmk | exact or_lt _ _ (less_lt' _ _ hmk) hbt
                              have HFL := Lib.hid hF
                              clear hF HSX
                              go_wp2
                              go_loopg [0, 138] 12 (fun g s0 s138 wr => ∃ (k u : Nat), k ≤ 12 ∧ 12 - k ≤ g ∧ u < 4096 ∧ s0 = .int .i64 u ∧ s138 = .int .i64 k ∧ Aside (u = mixB mk (less mk bt) k ∧ Below WS.heap.size WS wr))
                              case atStart => exact ⟨0, mk, by omega, by omega, hmk, rfl, rfl, (mix_zero _ _).symm, HBL.out⟩
                              case round =>
                                obtain ⟨k, u, hk, hg4, hu, rfl, rfl, A⟩ := hrel
                                by_cases hk12 : k < 12
                                · have hk12' : (k : Int) < 12 := by omega
                                  have PW := Lib.hid (fun w => power_any k (by omega) w)
                                  have s1 := bit_slot bt k hbt hk12
                                  have s2 := bit_slot v k hwho hk12
                                  have hp2 : 2 ^ k < 4096 := Nat.pow_lt_pow_right (n := 12) (by decide) hk12
                                  have o1 : bits .or .i64 (u : Int) ((2 ^ k : Nat) : Int) = ((u ||| 2 ^ k : Nat) : Int) := i64_or_nat _ _ (by omega) (by omega)
                                  have o2 : bits .andNot .i64 (u : Int) ((2 ^ k : Nat) : Int) = ((less u (2 ^ k) : Nat) : Int) := i64_andNot_nat _ _ (by omega) (by omega)
                                  have l1 := or_lt u _ hu hp2
                                  have l2 := less_lt' u (2 ^ k) hu
                                  have HC := minus_round mk bt k u A.out.1
                                  obtain ⟨u1, hu1⟩ : ∃ x, u ||| 2 ^ k = x := ⟨_, rfl⟩
                                  obtain ⟨u2, hu2⟩ : ∃ x, less u (2 ^ k) = x := ⟨_, rfl⟩
                                  simp only [hu1, hu2] at HC
                                  rw [hu1] at o1 l1
                                  rw [hu2] at o2 l2
                                  have HBA := Lib.hid A.out.2
                                  clear A hu1 hu2
                                  obtain ⟨g1, hg1⟩ : ∃ x : Int, ((bt &&& 2 ^ k : Nat) : Int) = x := ⟨_, rfl⟩
                                  obtain ⟨g2, hg2⟩ : ∃ x : Int, ((v &&& 2 ^ k : Nat) : Int) = x := ⟨_, rfl⟩
                                  simp only [hg1, hg2] at HC
                                  rw [hg1] at s1
                                  rw [hg2] at s2
                                  clear hg1 hg2
                                  generalize 2 ^ k = pk at *
                                  rcases HC with ⟨z1, hnew⟩ | ⟨z1, hnew⟩
                                  · have HN4 := Lib.hid (And.intro hnew HBA.out)
                                    clear hnew
                                    go_wp2_with (go_at_call 26; with_reducible refine (PW.out _).mono ?_; rintro e w9 ⟨rfl, hw⟩; replace hw := hw.symm; subst hw)
                                    go_roundg (12 - (k + 1))
                                    case measure => omega
                                    case rel => exact ⟨k + 1, u2, by omega, Nat.le_refl _, l2, by first | rfl | simp, by first | rfl | simp, HN4.out⟩
                                  · have HN4 := Lib.hid (And.intro hnew HBA.out)
                                    clear hnew
                                    go_wp2_with (go_at_call 26; with_reducible refine (PW.out _).mono ?_; rintro e w9 ⟨rfl, hw⟩; replace hw := hw.symm; subst hw)
                                    go_roundg (12 - (k + 1))
                                    case measure => omega
                                    case rel => exact ⟨k + 1, u, by omega, Nat.le_refl _, hu, by first | rfl | simp, by first | rfl | simp, HN4.out⟩
                                · have hk12' : ¬ (k : Int) < 12 := by omega
                                  have HN5 := Lib.hid (show partF dir m p = foldA v dir u (acts RT) ∧ Below WS.heap.size WS wr from by
                                    refine ⟨?_, A.out.2⟩
                                    have hk : k = 12 := by omega
                                    subst hk
                                    rw [HR.out.1, A.out.1, mix_end _ _ hmk HFL.out, acts_cons, ← HLT.out.2]
                                    show (stepA v dir mk (c, headS permS r)).bind _ = _
                                    rw [HST.out]
                                    rfl)
                                  clear A
                                  go_wp2
                                  go_roundg RT.length
                                  case measure => omega
                                  case rel => exact ⟨u, RT, Nat.le_refl _, by omega, hu, by first | rfl | simp, by first | rfl | simp, HN5.out⟩
                            · have HST := Lib.hid (show stepA v dir mk (c, headS permS r) = some (less mk v ||| bt) from HSX.out 61 _ (by omega) rfl (by
                                unfold stepA
                                rw [HRR.out.1, HLT.out.1, HGL.out, HBT.out]
                                rfl))
                              have hF : less mk v ||| bt < 4096 := by first | exact or_lt _ _ hmk hbt | exact less_lt' _ _ hmk | exact or_lt _ _ (less_lt' _ _ hmk) hbt
                              have HFL := Lib.hid hF
                              clear hF HSX
                              go_wp2
                              go_loopg [0, 138] 12 (fun g s0 s138 wr => ∃ (k u : Nat), k ≤ 12 ∧ 12 - k ≤ g ∧ u < 4096 ∧ s0 = .int .i64 u ∧ s138 = .int .i64 k ∧ Aside (u = mixB mk (less mk v ||| bt) k ∧ Below WS.heap.size WS wr))
                              case atStart => exact ⟨0, mk, by omega, by omega, hmk, rfl, rfl, (mix_zero _ _).symm, HBL.out⟩
                              case round =>
                                obtain ⟨k, u, hk, hg4, hu, rfl, rfl, A⟩ := hrel
                                by_cases hk12 : k < 12
                                · have hk12' : (k : Int) < 12 := by omega
                                  have PW := Lib.hid (fun w => power_any k (by omega) w)
                                  have s1 := bit_slot bt k hbt hk12
                                  have s2 := bit_slot v k hwho hk12
                                  have hp2 : 2 ^ k < 4096 := Nat.pow_lt_pow_right (n := 12) (by decide) hk12
                                  have o1 : bits .or .i64 (u : Int) ((2 ^ k : Nat) : Int) = ((u ||| 2 ^ k : Nat) : Int) := i64_or_nat _ _ (by omega) (by omega)
                                  have o2 : bits .andNot .i64 (u : Int) ((2 ^ k : Nat) : Int) = ((less u (2 ^ k) : Nat) : Int) := i64_andNot_nat _ _ (by omega) (by omega)
                                  have l1 := or_lt u _ hu hp2
                                  have l2 := less_lt' u (2 ^ k) hu
                                  have HC := just_round mk v gg bt k u HBT.out A.out.1
                                  obtain ⟨u1, hu1⟩ : ∃ x, u ||| 2 ^ k = x := ⟨_, rfl⟩
                                  obtain ⟨u2, hu2⟩ : ∃ x, less u (2 ^ k) = x := ⟨_, rfl⟩
                                  simp only [hu1, hu2] at HC
                                  rw [hu1] at o1 l1
                                  rw [hu2] at o2 l2
                                  have HBA := Lib.hid A.out.2
                                  clear A hu1 hu2
                                  obtain ⟨g1, hg1⟩ : ∃ x : Int, ((bt &&& 2 ^ k : Nat) : Int) = x := ⟨_, rfl⟩
                                  obtain ⟨g2, hg2⟩ : ∃ x : Int, ((v &&& 2 ^ k : Nat) : Int) = x := ⟨_, rfl⟩
                                  simp only [hg1, hg2] at HC
                                  rw [hg1] at s1
                                  rw [hg2] at s2
                                  clear hg1 hg2
                                  generalize 2 ^ k = pk at *
                                  rcases HC with ⟨z1, z2, hnew⟩ | ⟨z1, z2, hnew⟩ | ⟨z1, z2, hnew⟩
                                  · have HN4 := Lib.hid (And.intro hnew HBA.out)
                                    clear hnew
                                    go_wp2_with (go_at_call 26; with_reducible refine (PW.out _).mono ?_; rintro e w9 ⟨rfl, hw⟩; replace hw := hw.symm; subst hw)
                                    go_roundg (12 - (k + 1))
                                    case measure => omega
                                    case rel => exact ⟨k + 1, u1, by omega, Nat.le_refl _, l1, by first | rfl | simp, by first | rfl | simp, HN4.out⟩
                                  · have HN4 := Lib.hid (And.intro hnew HBA.out)
                                    clear hnew
                                    go_wp2_with (go_at_call 26; with_reducible refine (PW.out _).mono ?_; rintro e w9 ⟨rfl, hw⟩; replace hw := hw.symm; subst hw)
                                    go_roundg (12 - (k + 1))
                                    case measure => omega
                                    case rel => exact ⟨k + 1, u2, by omega, Nat.le_refl _, l2, by first | rfl | simp, by first | rfl | simp, HN4.out⟩
                                  · have HN4 := Lib.hid (And.intro hnew HBA.out)
                                    clear hnew
                                    go_wp2_with (go_at_call 26; with_reducible refine (PW.out _).mono ?_; rintro e w9 ⟨rfl, hw⟩; replace hw := hw.symm; subst hw)
                                    go_roundg (12 - (k + 1))
                                    case measure => omega
                                    case rel => exact ⟨k + 1, u, by omega, Nat.le_refl _, hu, by first | rfl | simp, by first | rfl | simp, HN4.out⟩
                                · have hk12' : ¬ (k : Int) < 12 := by omega
                                  have HN5 := Lib.hid (show partF dir m p = foldA v dir u (acts RT) ∧ Below WS.heap.size WS wr from by
                                    refine ⟨?_, A.out.2⟩
                                    have hk : k = 12 := by omega
                                    subst hk
                                    rw [HR.out.1, A.out.1, mix_end _ _ hmk HFL.out, acts_cons, ← HLT.out.2]
                                    show (stepA v dir mk (c, headS permS r)).bind _ = _
                                    rw [HST.out]
                                    rfl)
                                  clear A
                                  go_wp2
                                  go_roundg RT.length
                                  case measure => omega
                                  case rel => exact ⟨u, RT, Nat.le_refl _, by omega, hu, by first | rfl | simp, by first | rfl | simp, HN5.out⟩
                    · have HE := Lib.hid (show PF = (3, 0) ∧ Below w.heap.size w wr from by
                        have h0 : stepA v dir mk (c, headS permS r) = none := by
                          unfold stepA
                          have hx := HX.out
                          rw [if_neg (fun h : (c, headS permS r).1 = 43 => n1 (by rw [← hx, show c = 43 from h]; rfl)), if_neg (fun h : (c, headS permS r).1 = 45 => n2 (by rw [← hx, show c = 45 from h]; rfl)), if_neg (fun h : (c, headS permS r).1 = 61 => n3 (by rw [← hx, show c = 61 from h]; rfl))]
                        have h1 : partF dir m p = none := by
                          rw [HR.out.1, acts_cons]
                          show (stepA v dir mk (c, headS permS r)).bind _ = none
                          rw [h0]; rfl
                        have h2 : chF dir m0 ((piecesC l).take (i + 1)) = none := by rw [chF_at dir m0 _ i p HP.out, HA.out.1]; exact h1
                        exact ⟨by rw [HPF.out, chF_stop dir m0 _ _ h2], HBS.out.trans (HR.out.2.mono HBS.out.size)⟩)
                      have nb1 : (x != 43) = true := bne_iff_ne.2 n1
                      have nb2 : (x != 45) = true := bne_iff_ne.2 n2
                      have nb3 : (x != 61) = true := bne_iff_ne.2 n3
                      go_wp2
                      go_ret2
                      exact ⟨by rw [HE.out.1]; rfl, HE.out.2⟩
      · have hin' : ¬ (i : Int) < (n : Int) := by omega
        have HE := Lib.hid (show PF = (0, m) ∧ Below w.heap.size w wr from by
          have h1 := A.out.1
          rw [List.take_of_length_le (by rw [HN.out]; omega)] at h1
          exact ⟨by rw [HPF.out, h1], HBS.out.trans (A.out.2.mono HBS.out.size)⟩)
        clear A
        go_wp2
        go_ret2
        exact ⟨by rw [HE.out.1]; rfl, HE.out.2⟩
end Go.Proofs.YtalafhfpmkacgaaDoor
