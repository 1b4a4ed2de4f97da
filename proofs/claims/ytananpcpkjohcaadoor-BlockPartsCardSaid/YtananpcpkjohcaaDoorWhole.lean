/- block.Zero, the reference's Fill and Zero: what each returns; the law BlockWhole's walk. -/
import Derived.Test.YtananpcpkjohcaaDoorFill
namespace Go.Proofs.YtananpcpkjohcaaDoor
open Go.RowKit
set_option linter.unusedVariables false
set_option linter.unusedSimpArgs false

set_option maxRecDepth 100000 in
theorem zero_size (l : List UInt8) (w : World) (h : l.length ≠ 512) (hl : l.length ≤ 1000000) :
    Calls Tryd.prog 36 #[.string (mkS l)] w fun e w' => e = .returned (.bool false) ∧ w' = w := by
  have hsz := mkS_size l
  have q1 : ((l.length : Int) == 512) = false := by rw [beq_eq_false_iff_ne]; omega
  have q2 : ((l.length : Int) != 512) = true := by rw [bne_iff_ne]; omega
  clear h
  go_enter Tryd.func36, Tryd.ntmps36
  go_wp2
  go_ret
  exact ⟨rfl, rfl⟩

def allZ (l : List UInt8) : Prop := ∀ c ∈ l, c = 0

set_option maxRecDepth 100000 in
set_option maxHeartbeats 1000000 in
theorem zero_any (l : List UInt8) (b : Bool) (hb : b = true ↔ allZ l) (w : World) (h : l.length = 512) :
    Calls Tryd.prog 36 #[.string (mkS l)] w fun e w' => e = .returned (.bool b) ∧ w' = w := by
  have hsz := mkS_size l
  have q1 : ((l.length : Int) == 512) = true := by rw [beq_iff_eq]; omega
  have q2 : ((l.length : Int) != 512) = false := by rw [bne_eq_false_iff_eq]; omega
  have hl : l.length ≤ 512 := by omega
  have Hb := Lib.hid hb
  clear h hb
  go_enter Tryd.func36, Tryd.ntmps36
  go_wp2
  go_loop [9] (fun i => ∃ k : Nat, k ≤ l.length ∧ i = .int .i64 (k : Int) ∧ (∀ j c, j < k → l[j]? = some c → c = 0)) (fun i => l.length - (intOf i).toNat)
  case atStart => exact ⟨0, by omega, rfl, fun j c h => by omega⟩
  case round =>
    obtain ⟨k, hk, rfl, hz⟩ := hrel
    have Hz := Lib.hid hz
    clear hz
    by_cases hlt : k < l.length
    · generalize hcc : l[k] = c
      have hc? : l[k]? = some c := by rw [List.getElem?_eq_getElem hlt, hcc]
      have z1 := mkS_index l (k : Int) c (by omega) (by rw [Int.toNat_natCast]; exact hc?)
      have Hc := Lib.hid hc?
      clear hc? hcc
      by_cases h0 : (c.toNat : Int) = 0
      · have n1 : ((c.toNat : Int) == 0) = true := by rw [beq_iff_eq]; exact h0
        have n2 : ((c.toNat : Int) != 0) = false := by rw [bne_eq_false_iff_eq]; exact h0
        have N := Lib.hid h0
        clear h0
        go_wp2
        go_round
        case rel =>
          refine ⟨k + 1, by omega, by go_num, fun j d hj hd => ?_⟩
          rcases Nat.lt_or_ge j k with h | h
          · exact Hz.out j d h hd
          · obtain rfl : j = k := by omega
            rw [Hc.out] at hd
            obtain rfl := Option.some.inj hd
            exact (c_eq c 0 (by omega)).2 N.out
        case measure => simp [intOf]; omega
      · have n1 : ((c.toNat : Int) == 0) = false := by rw [beq_eq_false_iff_ne]; exact h0
        have n2 : ((c.toNat : Int) != 0) = true := by rw [bne_iff_ne]; exact h0
        have hbf : b = false := by
          cases b with
          | false => rfl
          | true =>
            have := Hb.out.1 rfl c (List.mem_of_getElem? Hc.out)
            exact absurd ((c_eq c 0 (by omega)).1 this) h0
        have N := Lib.hid hbf
        clear hbf h0
        go_wp2
        go_ret
        exact ⟨by rw [N.out]; rfl, rfl⟩
    · obtain rfl : k = l.length := by omega
      have hbt : b = true := Hb.out.2 (fun c hc => by
        obtain ⟨j, hj⟩ := List.getElem?_of_mem hc
        exact Hz.out j c (List.getElem?_eq_some_iff.1 hj).1 hj)
      have N := Lib.hid hbt
      clear hbt
      go_wp2
      go_ret
      exact ⟨by rw [N.out]; rfl, rfl⟩

theorem dropWhile_nil {p : UInt8 → Bool} : ∀ (l : List UInt8), l.dropWhile p = [] → ∀ x ∈ l, p x = true
  | [], _, x, hx => by cases hx
  | y :: r, h, x, hx => by
    by_cases hy : p y = true
    · rw [List.dropWhile_cons_of_pos hy] at h
      rcases List.mem_cons.1 hx with rfl | hx
      · exact hy
      · exact dropWhile_nil r h x hx
    · rw [List.dropWhile_cons_of_neg hy] at h
      cases h
theorem trimB_all (l : List UInt8) (h : allZ l) : Lib.trimB l 0 = [] := by
  have e : l = List.replicate l.length 0 := List.eq_replicate_iff.2 ⟨rfl, h⟩
  have h2 : Lib.trimRightB l 0 = [] := by
    unfold Lib.trimRightB
    rw [e, List.reverse_replicate]
    have := dropWhile_rep (p := fun x => x == (0 : UInt8)) 0 rfl l.length [] (by intro x hx; cases hx)
    rw [List.append_nil] at this
    rw [this]; rfl
  unfold Lib.trimB
  rw [h2]; rfl
theorem trimB_some (l : List UInt8) (h : ¬ allZ l) : Lib.trimB l 0 ≠ [] := by
  intro e
  refine h fun c hc => ?_
  have hmem : ∀ x ∈ Lib.trimRightB l 0, x = 0 := by
    intro x hx
    unfold Lib.trimB Lib.trimLeftB at e
    have := dropWhile_nil _ e x hx
    simpa using this
  have h3 : Lib.trimRightB l 0 = [] := by
    cases hr : (l.reverse.dropWhile (· == (0 : UInt8))) with
    | nil => unfold Lib.trimRightB; rw [hr]; rfl
    | cons x r =>
      have hx : (x == (0 : UInt8)) = false := by
        have := List.head_dropWhile_not (· == (0 : UInt8)) (l := l.reverse) (by rw [hr]; simp)
        simpa [hr] using this
      have : x = 0 := hmem x (by unfold Lib.trimRightB; rw [hr]; simp)
      rw [this] at hx; simp at hx
  unfold Lib.trimRightB at h3
  have h4 : l.reverse.dropWhile (· == (0 : UInt8)) = [] := by simpa using h3
  have := dropWhile_nil _ h4 c (by simpa using hc)
  simpa using this

theorem trim_any (l : List UInt8) (w : World) (hl : l.length ≤ 1000000) :
    Calls Tryd.prog 48 #[.string (mkS l), .string ⟨#[0]⟩] w fun e w' => e = .returned (.string (mkS (Lib.trimB l 0))) ∧ Below w.heap.size w w' := by
  have h := Any.strings_Trim_one Tryd.lays160 (mkS l) 0 (by decide) w (by rw [mkS_size]; omega)
  rw [mkS_list] at h
  exact h.mono fun e w' ⟨a, b⟩ => ⟨a, by rcases b with rfl | rfl; exact Below.refl _ _; exact (Below.refl _ _).drew⟩

set_option maxRecDepth 100000 in
theorem refZero_size (l : List UInt8) (w : World) (h : l.length ≠ 512) (hl : l.length ≤ 1000000) :
    Calls Tryd.prog 37 #[.string (mkS l)] w fun e w' => e = .returned (.bool false) ∧ w' = w := by
  have hsz := mkS_size l
  have q1 : ((l.length : Int) == 512) = false := by rw [beq_eq_false_iff_ne]; omega
  clear h
  go_enter Tryd.func37, Tryd.ntmps37
  go_wp2_with fail
  go_ret
  exact ⟨rfl, rfl⟩

set_option maxRecDepth 100000 in
theorem refZero_any (l : List UInt8) (b : Bool) (hb : b = true ↔ allZ l) (w : World) (h : l.length = 512) :
    Calls Tryd.prog 37 #[.string (mkS l)] w fun e w' => e = .returned (.bool b) ∧ Below w.heap.size w w' := by
  have hsz := mkS_size l
  have q1 : ((l.length : Int) == 512) = true := by rw [beq_iff_eq]; omega
  have hl : l.length ≤ 512 := by omega
  have ht : (mkS (Lib.trimB l 0)).toList.isEmpty = b := by
    by_cases hz : allZ l
    · rw [trimB_all l hz, mkS_emp_nil, hb.2 hz]
    · rw [mkS_emp _ (trimB_some l hz)]
      cases b with
      | false => rfl
      | true => exact absurd (hb.1 rfl) hz
  clear h hb
  go_enter Tryd.func37, Tryd.ntmps37
  go_wp2_with (go_at_call 48; refine (trim_any l _ (by omega)).mono ?_; rintro x w1 ⟨rfl, hb1⟩)
  go_ret
  exact ⟨rfl, hb1⟩

set_option maxRecDepth 100000 in
theorem refFill_any (l : List UInt8) (w : World) (hl : l.length ≤ 100000) :
    Calls Tryd.prog 35 #[.string (mkS l)] w fun e w' => e = .returned (.string (mkS (fillL l))) ∧ Below w.heap.size w w' := by
  obtain ⟨hp1, hp2⟩ := padF_range (l.length : Int)
  have hsz := mkS_size l
  obtain ⟨P, hP⟩ := Int.eq_ofNat_of_zero_le hp1
  have hfill : fillL l = l ++ List.replicate P 0 := by unfold fillL; rw [hP]; rfl
  have hcat := fun w => cat_mkS l (List.replicate P 0) (by rw [List.length_replicate]; omega) w
  rw [← hfill] at hcat
  have hP2 : P ≤ 511 := by omega
  have HP := Lib.hid hP
  clear hfill hP
  go_enter Tryd.func35, Tryd.ntmps35
  go_wp2_with fail
  refine (refPad_any _ _ (by omega)).mono ?_; rintro x w2 ⟨rfl, hw⟩; replace hw := hw.symm; subst hw
  rw [HP.out]
  go_wp2_with fail
  refine (repeat_any 0 P _ (by omega)).mono ?_; rintro x w3 ⟨rfl, hb⟩
  go_wp2_with fail
  go_ret
  exact ⟨rfl, hb⟩

set_option maxRecDepth 100000 in
set_option maxHeartbeats 1000000 in
theorem blockWhole_walk (a0 : ByteArray) (w0 : a0.size ≤ maxLen) (w : World) :
    Calls Tryd.prog 11 #[.string a0] w fun e w' => e = .returned (.bool true) ∧ Below w.heap.size w w' := by
  have hm : a0.size ≤ 9223372036854775807 := by unfold maxLen at w0; omega
  clear w0
  by_cases hlen : (1200 : Int) < (a0.size : Int)
  · go_enter Tryd.func11, Tryd.ntmps11
    go_wp2_with fail
    go_ret
    exact ⟨rfl, Below.refl _ _⟩
  · obtain ⟨l, rfl⟩ : ∃ l, a0 = mkS l := ⟨a0.data.toList, (mkS_self a0).symm⟩
    have hsz := mkS_size l
    rw [hsz] at hlen hm
    have d : decide ((1200 : Int) < (l.length : Int)) = false := by simpa using hlen
    by_cases h : l.length = 512
    · have hb : ∃ b : Bool, b = true ↔ allZ l := ⟨@decide (allZ l) (Classical.propDecidable _), by simp⟩
      obtain ⟨b, hb⟩ := hb
      have Hb := Lib.hid hb
      have H := Lib.hid h
      have hl : l.length ≤ 512 := by omega
      clear hb h
      go_enter Tryd.func11, Tryd.ntmps11
      go_wp2_with (first
        | (go_at_call 34; refine (fill_any l _ (by omega)).mono ?_; rintro x w1 ⟨rfl, hb1⟩)
        | (go_at_call 35; refine (refFill_any l _ (by omega)).mono ?_; rintro x w2 ⟨rfl, hb2⟩)
        | (go_at_call 36; refine (zero_any l b Hb.out _ H.out).mono ?_; rintro x w3 ⟨rfl, hw⟩; replace hw := hw.symm; subst hw)
        | (go_at_call 37; refine (refZero_any l b Hb.out _ H.out).mono ?_; rintro x w4 ⟨rfl, hb4⟩))
      go_ret
      exact ⟨rfl, chain (chain hb1 hb2) hb4⟩
    · have H := Lib.hid h
      have hl : l.length ≤ 1200 := by omega
      clear h
      go_enter Tryd.func11, Tryd.ntmps11
      go_wp2_with (first
        | (go_at_call 34; refine (fill_any l _ (by omega)).mono ?_; rintro x w1 ⟨rfl, hb1⟩)
        | (go_at_call 35; refine (refFill_any l _ (by omega)).mono ?_; rintro x w2 ⟨rfl, hb2⟩)
        | (go_at_call 36; refine (zero_size l _ H.out (by omega)).mono ?_; rintro x w3 ⟨rfl, hw⟩; replace hw := hw.symm; subst hw)
        | (go_at_call 37; refine (refZero_size l _ H.out (by omega)).mono ?_; rintro x w4 ⟨rfl, hw⟩; replace hw := hw.symm; subst hw))
      go_ret
      exact ⟨rfl, chain hb1 hb2⟩
end Go.Proofs.YtananpcpkjohcaaDoor
