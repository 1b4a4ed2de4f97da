/- mode.Parse. -/
import Derived.Test.YtalafhfpmkacgaaDoorTxm
import Derived.Test.YtalafhfpmkacgaaDoorTrm
import Derived.Test.YtalafhfpmkacgaaDoorErv
namespace Go.Proofs.YtalafhfpmkacgaaDoor
open Go.RowKit Go.Joins
set_option linter.unusedVariables false
set_option linter.unusedSimpArgs false
set_option maxRecDepth 100000

theorem fin_no : ∀ n : Fin 256, ([45, 83, 84] : List UInt8).contains (UInt8.ofNat n.val) = isNo n.val := by decide +kernel
theorem fin_sp : ∀ n : Fin 256, ([115, 83, 116, 84] : List UInt8).contains (UInt8.ofNat n.val) = isSp n.val := by decide +kernel
theorem no_byte (c : UInt8) : ([45, 83, 84] : List UInt8).contains c = isNo c.toNat := by
  have := fin_no ⟨c.toNat, c.toNat_lt⟩
  rwa [UInt8.ofNat_toNat] at this
theorem sp_byte (c : UInt8) : ([115, 83, 116, 84] : List UInt8).contains c = isSp c.toNat := by
  have := fin_sp ⟨c.toNat, c.toNat_lt⟩
  rwa [UInt8.ofNat_toNat] at this
theorem shl_one (j : Nat) (h : j ≤ 11) : wrap64 ((2 : Int) ^ j) = ((2 ^ j : Nat) : Int) ∧ 2 ^ j < 4096 := by
  have hp : 2 ^ j < 2 ^ 12 := Nat.pow_lt_pow_right (by decide) (by omega)
  have hc : (2 : Int) ^ j = ((2 ^ j : Nat) : Int) := by simp
  refine ⟨?_, hp⟩
  rw [hc]
  generalize 2 ^ j = p at *
  rw [IntWalk.wrap64_in _ (by omega)]
/-- What Parse answers. -/
def parsR (l : List UInt8) : Nat × Nat := if textL (Nat.testBit (parseN l)) = l then (0, parseN l) else (3, 0)

set_option maxHeartbeats 4000000 in
theorem parse_any (l : List UInt8) (hl : l.length ≤ 9223372036854775807) (w : World) :
    Calls Tryd.prog 16 #[.string (mkS l)] w fun e w' => e = .returned (modOut (parsR l)) ∧ Below w.heap.size w w' := by
  have hz := mkS_size l
  obtain ⟨K, hK⟩ : ∃ K, min l.length 9 = K := ⟨_, rfl⟩
  have hmin : min (l.length : Int) 9 = (K : Int) := by omega
  have hK9 : K ≤ 9 := by omega
  have HI := Lib.hid (fun (i : Nat) (c : UInt8) (h : l[i]? = some c) => mkS_index l (i : Int) c (by omega) (by simpa using h))
  have HL := Lib.hid (show min l.length 9 = K from hK)
  have hcut1 : (⟨#[45, 83, 84]⟩ : ByteArray) = mkS [45, 83, 84] := rfl
  have hcut2 : (⟨#[115, 83, 116, 84]⟩ : ByteArray) = mkS [115, 83, 116, 84] := rfl
  obtain ⟨PF, hPF⟩ : ∃ x, parsR l = x := ⟨_, rfl⟩
  rw [hPF]
  have HPF := Lib.hid hPF
  have HT := Lib.hid (fun m w => text_any m w)
  clear hK hPF
  go_enter Tryd.func16, Tryd.ntmps16
  go_wp2
  go_loopg [4, 9] K (fun g s4 s9 wr => ∃ (i m : Nat), i ≤ K ∧ K - i ≤ g ∧ m < 4096 ∧ s4 = .int .i64 m ∧ s9 = .int .i64 i ∧ Aside (parseN l = parseR ((l.map UInt8.toNat).drop i) i m ∧ wr = w))
  case atStart => exact ⟨0, 0, by omega, by omega, by omega, rfl, rfl, rfl, rfl⟩
  case round =>
    obtain ⟨i, m, hi, hg, hm, rfl, rfl, A⟩ := hrel
    by_cases hin : i < K
    · have hin' : (i : Int) < (K : Int) := by omega
      obtain ⟨c, hc⟩ : ∃ c, l[i]? = some c := ⟨_, List.getElem?_eq_getElem (by have := HL.out; omega)⟩
      have ix := HI.out i c hc
      obtain ⟨j, hj⟩ : ∃ j, 8 - i = j := ⟨_, rfl⟩
      have e8 : (8 : Int) - (i : Int) = (j : Int) := by omega
      obtain ⟨d, hd⟩ : ∃ d, i / 3 = d := ⟨_, rfl⟩
      have ed : (i : Int) / 3 = (d : Int) := by omega
      have ed2 : (i : Int).tdiv 3 = (d : Int) := by rw [Int.tdiv_eq_ediv_of_nonneg (by omega)]; exact ed
      obtain ⟨q, hq⟩ : ∃ q, 11 - d = q := ⟨_, rfl⟩
      have e11 : (11 : Int) - (d : Int) = (q : Int) := by omega
      obtain ⟨s1, t1⟩ := shl_one j (by omega)
      obtain ⟨s2, t2⟩ := shl_one q (by omega)
      have N1 := Lib.hid (indexB_any [45, 83, 84] c)
      have N2 := Lib.hid (indexB_any [115, 83, 116, 84] c)
      have y1 := (indexByte_in [45, 83, 84] c).1
      have y2 := (indexByte_in [115, 83, 116, 84] c).2
      rw [no_byte] at y1
      rw [sp_byte] at y2
      have HN := Lib.hid (show parseN l = parseR ((l.map UInt8.toNat).drop (i + 1)) (i + 1) (pstep c.toNat i m) ∧ wr = w from by
        refine ⟨?_, A.out.2⟩
        have hd : (l.map UInt8.toNat).drop i = c.toNat :: (l.map UInt8.toNat).drop (i + 1) := by
          have hlt : i < (l.map UInt8.toNat).length := by rw [List.length_map]; exact (List.getElem?_eq_some_iff.1 hc).1
          rw [List.drop_eq_getElem_cons hlt, List.getElem_map]
          congr 2
          exact (List.getElem?_eq_some_iff.1 hc).2
        rw [A.out.1, hd]
        show (if Nat.blt i 9 = true then _ else _) = _
        rw [if_pos (by rw [Nat.blt_eq]; omega)])
      have hps : pstep c.toNat i m = if isSp c.toNat then (if isNo c.toNat then m else m ||| 2 ^ j) ||| 2 ^ q else (if isNo c.toNat then m else m ||| 2 ^ j) := by
        unfold pstep; rw [hj, hd, hq]
      rw [hps] at HN
      generalize 2 ^ j = p1 at *
      generalize 2 ^ q = p2 at *
      have o1 : bits .or .i64 (m : Int) (p1 : Int) = ((m ||| p1 : Nat) : Int) := i64_or_nat _ _ (by omega) (by omega)
      have o2 : bits .or .i64 (m : Int) (p2 : Int) = ((m ||| p2 : Nat) : Int) := i64_or_nat _ _ (by omega) (by omega)
      have b1 := or_lt m p1 hm t1
      have b2 := or_lt m p2 hm t2
      have b3 := or_lt _ p2 b1 t2
      have o3 : bits .or .i64 ((m ||| p1 : Nat) : Int) (p2 : Int) = ((m ||| p1 ||| p2 : Nat) : Int) := i64_or_nat _ _ (by omega) (by omega)
      obtain ⟨m3, d3⟩ : ∃ x, m ||| p1 ||| p2 = x := ⟨_, rfl⟩
      rw [d3] at o3 b3
      obtain ⟨m2, d2⟩ : ∃ x, m ||| p2 = x := ⟨_, rfl⟩
      rw [d2] at o2 b2
      obtain ⟨m1, d1⟩ : ∃ x, m ||| p1 = x := ⟨_, rfl⟩
      rw [d1] at o1 b1 o3 d3
      have D := Lib.hid (And.intro d1 (And.intro d2 d3))
      clear hps hc hj hd hq A ed d1 d2 d3
      cases hn : isNo c.toNat <;> cases hs : isSp c.toNat
      · have HM := Lib.hid (show parseN l = parseR ((l.map UInt8.toNat).drop (i + 1)) (i + 1) m1 ∧ wr = w from ⟨by
          rw [HN.out.1, hn, hs]
          simp [D.out.1, D.out.2.1, D.out.2.2], HN.out.2⟩)
        rw [hn] at y1
        rw [hs] at y2
        generalize Lib.indexByte [45, 83, 84] c = x1 at *
        generalize Lib.indexByte [115, 83, 116, 84] c = x2 at *
        generalize (c.toNat : Int) = ci at *
        simp only [Bool.not_true, Bool.not_false, decide_eq_true_eq, decide_eq_false_iff_not] at y1 y2
        clear hn hs HN
        go_wp2_with (first
          | (go_at_call 35; with_reducible refine (N1.out _).mono ?_; rintro e w' ⟨rfl, hw⟩; replace hw := hw.symm; subst hw)
          | (go_at_call 35; with_reducible refine (N2.out _).mono ?_; rintro e w' ⟨rfl, hw⟩; replace hw := hw.symm; subst hw))
        go_roundg (K - (i + 1))
        case measure => omega
        case rel => exact ⟨i + 1, m1, by omega, Nat.le_refl _, b1, by first | rfl | simp, by first | rfl | simp, HM.out⟩
      · have HM := Lib.hid (show parseN l = parseR ((l.map UInt8.toNat).drop (i + 1)) (i + 1) m3 ∧ wr = w from ⟨by
          rw [HN.out.1, hn, hs]
          simp [D.out.1, D.out.2.1, D.out.2.2], HN.out.2⟩)
        rw [hn] at y1
        rw [hs] at y2
        generalize Lib.indexByte [45, 83, 84] c = x1 at *
        generalize Lib.indexByte [115, 83, 116, 84] c = x2 at *
        generalize (c.toNat : Int) = ci at *
        simp only [Bool.not_true, Bool.not_false, decide_eq_true_eq, decide_eq_false_iff_not] at y1 y2
        clear hn hs HN
        go_wp2_with (first
          | (go_at_call 35; with_reducible refine (N1.out _).mono ?_; rintro e w' ⟨rfl, hw⟩; replace hw := hw.symm; subst hw)
          | (go_at_call 35; with_reducible refine (N2.out _).mono ?_; rintro e w' ⟨rfl, hw⟩; replace hw := hw.symm; subst hw))
        go_roundg (K - (i + 1))
        case measure => omega
        case rel => exact ⟨i + 1, m3, by omega, Nat.le_refl _, b3, by first | rfl | simp, by first | rfl | simp, HM.out⟩
      · have HM := Lib.hid (show parseN l = parseR ((l.map UInt8.toNat).drop (i + 1)) (i + 1) m ∧ wr = w from ⟨by
          rw [HN.out.1, hn, hs]
          simp [D.out.1, D.out.2.1, D.out.2.2], HN.out.2⟩)
        rw [hn] at y1
        rw [hs] at y2
        generalize Lib.indexByte [45, 83, 84] c = x1 at *
        generalize Lib.indexByte [115, 83, 116, 84] c = x2 at *
        generalize (c.toNat : Int) = ci at *
        simp only [Bool.not_true, Bool.not_false, decide_eq_true_eq, decide_eq_false_iff_not] at y1 y2
        clear hn hs HN
        go_wp2_with (first
          | (go_at_call 35; with_reducible refine (N1.out _).mono ?_; rintro e w' ⟨rfl, hw⟩; replace hw := hw.symm; subst hw)
          | (go_at_call 35; with_reducible refine (N2.out _).mono ?_; rintro e w' ⟨rfl, hw⟩; replace hw := hw.symm; subst hw))
        go_roundg (K - (i + 1))
        case measure => omega
        case rel => exact ⟨i + 1, m, by omega, Nat.le_refl _, hm, by first | rfl | simp, by first | rfl | simp, HM.out⟩
      · have HM := Lib.hid (show parseN l = parseR ((l.map UInt8.toNat).drop (i + 1)) (i + 1) m2 ∧ wr = w from ⟨by
          rw [HN.out.1, hn, hs]
          simp [D.out.1, D.out.2.1, D.out.2.2], HN.out.2⟩)
        rw [hn] at y1
        rw [hs] at y2
        generalize Lib.indexByte [45, 83, 84] c = x1 at *
        generalize Lib.indexByte [115, 83, 116, 84] c = x2 at *
        generalize (c.toNat : Int) = ci at *
        simp only [Bool.not_true, Bool.not_false, decide_eq_true_eq, decide_eq_false_iff_not] at y1 y2
        clear hn hs HN
        go_wp2_with (first
          | (go_at_call 35; with_reducible refine (N1.out _).mono ?_; rintro e w' ⟨rfl, hw⟩; replace hw := hw.symm; subst hw)
          | (go_at_call 35; with_reducible refine (N2.out _).mono ?_; rintro e w' ⟨rfl, hw⟩; replace hw := hw.symm; subst hw))
        go_roundg (K - (i + 1))
        case measure => omega
        case rel => exact ⟨i + 1, m2, by omega, Nat.le_refl _, b2, by first | rfl | simp, by first | rfl | simp, HM.out⟩
    · have hil : ¬ (i : Int) < (K : Int) := by omega
      have hend : parseN l = m ∧ wr = w := by
        refine ⟨?_, A.out.2⟩
        rw [A.out.1]
        have hL := HL.out
        by_cases h9 : l.length ≤ 9
        · rw [List.drop_eq_nil_of_le (by rw [List.length_map]; omega)]; rfl
        · obtain rfl : i = 9 := by omega
          cases hd : (l.map UInt8.toNat).drop 9 with
          | nil => rfl
          | cons c r => rfl
      obtain ⟨hp, rfl⟩ := hend
      have T := Lib.hid (fun w => HT.out (m : Int) w)
      rw [bitI_fun] at T
      have hPF := HPF.out
      unfold parsR at hPF
      rw [hp] at hPF
      have hq : ((mkS (textL (Nat.testBit m))).toList == (mkS l).toList) = decide (textL (Nat.testBit m) = l) := by
        rw [ByteArray.toList_eq, ByteArray.toList_eq, mkS_list, mkS_list, Bool.beq_eq_decide_eq]
      by_cases h : textL (Nat.testBit m) = l
      · rw [decide_eq_true h] at hq
        rw [if_pos h] at hPF
        have HF := Lib.hid hPF
        clear hPF h A hp
        go_wp2_with (go_at_call 13; with_reducible refine (T.out _).mono ?_; rintro e w1 ⟨rfl, hb⟩)
        go_ret2
        exact ⟨by rw [← HF.out]; rfl, hb⟩
      · rw [decide_eq_false h] at hq
        rw [if_neg h] at hPF
        have HF := Lib.hid hPF
        clear hPF h A hp
        go_wp2_with (go_at_call 13; with_reducible refine (T.out _).mono ?_; rintro e w1 ⟨rfl, hb⟩)
        go_ret2
        exact ⟨by rw [← HF.out]; rfl, hb⟩
end Go.Proofs.YtalafhfpmkacgaaDoor
