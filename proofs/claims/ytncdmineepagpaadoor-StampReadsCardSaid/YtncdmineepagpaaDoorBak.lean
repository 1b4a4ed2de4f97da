/- StampBack's pieces: digits behind a time's text; the library's functions over such texts; stepDown. -/
import Derived.Test.YtncdmineepagpaaDoorStm
import Derived.Test.YtncdmineepagpaaDoorInv
import Derived.Shelf.Strings.SlTrimAscii
namespace Go.Proofs.YtncdmineepagpaaDoor
open Go.RowKit Go.Joins

/-! ### What is trimmed away wholly -/
theorem drop_nil {p : UInt8 → Bool} : ∀ (l : List UInt8), l.dropWhile p = [] ↔ l.all p = true
  | [] => by simp
  | c :: l => by
    cases hc : p c with
    | true => simp [hc, drop_nil l]
    | false => simp [hc]
theorem trim_nil (p : UInt8 → Bool) (l : List UInt8) : ((l.reverse.dropWhile p).reverse).dropWhile p = [] ↔ l.all p = true := by
  rw [drop_nil, List.all_reverse]
  constructor
  · intro h
    have h1 : l.reverse = l.reverse.takeWhile p ++ l.reverse.dropWhile p := (List.takeWhile_append_dropWhile).symm
    have h2 : (l.reverse.takeWhile p).all p = true := List.all_takeWhile
    have h3 : l.reverse.all p = true := by rw [h1, List.all_append, h2, h]; rfl
    rwa [List.all_reverse] at h3
  · intro h
    have h1 : l.reverse.all p = true := by rw [List.all_reverse]; exact h
    rw [(drop_nil _).2 h1]
    rfl
def digitsL : List UInt8 := [48, 49, 50, 51, 52, 53, 54, 55, 56, 57]
theorem digitsL_dig (c : UInt8) : digitsL.contains c = dig c := by
  have h : ∀ n : Fin 256, digitsL.contains (UInt8.ofNat n.1) = dig (UInt8.ofNat n.1) := by decide +kernel
  have := h ⟨c.toNat, c.toNat_lt⟩
  simpa using this
theorem trimS_nil (l : List UInt8) : Lib.trimS l digitsL = [] ↔ l.all dig = true := by
  have h := trim_nil (digitsL.contains ·) l
  rw [show (fun x => digitsL.contains x) = dig from funext digitsL_dig] at h
  unfold Lib.trimS Lib.trimLeftS Lib.trimRightS
  rw [show (fun x => digitsL.contains x) = dig from funext digitsL_dig]
  exact h
theorem trimB_nil (l : List UInt8) : Lib.trimB l 48 = [] ↔ Lib.trimLeftB l 48 = [] := by
  rw [show Lib.trimB l 48 = ((l.reverse.dropWhile (· == 48)).reverse).dropWhile (· == 48) from rfl, trim_nil, ← drop_nil]
  rfl

/-! ### The library over such texts -/
theorem Tryd.infoSet : (Tryd.prog.info? 74).map (fun i => (i.zero, i.size)) = some (some (.agg (Array.replicate 256 (.bool false))), 256) := by kernel_rfl
theorem trimDigits_any (l : List UInt8) (w : World) (hl : l.length ≤ 1000) :
    Calls Tryd.prog 21 #[.string (mkS l), .string { data := #[48, 49, 50, 51, 52, 53, 54, 55, 56, 57] }] w fun e w' => e = .returned (.string (mkS (Lib.trimS l digitsL))) ∧ Below w.heap.size w w' := by
  have h := Any.strings_Trim_laid Tryd.lays160 Tryd.infoSet (mkS l) ⟨#[48, 49, 50, 51, 52, 53, 54, 55, 56, 57]⟩ w (by rw [mkS_size]; omega) (by decide) (ascii_of_all (by decide))
  rw [mkS_list] at h
  exact h
theorem trimZero_any (l : List UInt8) (w : World) (hl : l.length ≤ 1000) :
    Calls Tryd.prog 21 #[.string (mkS l), .string { data := #[48] }] w fun e w' => e = .returned (.string (mkS (Lib.trimB l 48))) ∧ Below w.heap.size w w' := by
  have h := Tryd.strings_Trim_one (mkS l) 48 (by decide) w (by rw [mkS_size]; omega)
  rw [mkS_list] at h
  refine h.mono ?_
  rintro e w' ⟨rfl, rfl | rfl⟩
  · exact ⟨rfl, Below.refl _ _⟩
  · exact ⟨rfl, (Below.refl _ _).drew⟩
theorem trimPrefix_any (l : List UInt8) (w : World) :
    Calls Tryd.prog 23 #[.string (mkS l), .string { data := #[45] }] w fun e w' => e = .returned (.string (mkS (Lib.trimPrefix l [45]))) ∧ w' = w := by
  have h := Tryd.strings_TrimPrefix (mkS l) (mkS [45]) w
  rwa [mkS_list, mkS_list] at h
theorem contains_any (l : List UInt8) (w : World) :
    Calls Tryd.prog 24 #[.string (mkS l), .string { data := #[46] }] w fun e w' => e = .returned (.bool (decide (0 ≤ Lib.indexByte l 46))) ∧ w' = w := by
  have h := Tryd.strings_Contains_one (mkS l) 46 w
  rwa [mkS_list] at h
theorem repeatL_one (c : UInt8) : ∀ n, Lib.repeatL [c] n = List.replicate n c
  | 0 => rfl
  | n + 1 => by rw [Lib.repeatL, repeatL_one c n]; rfl
theorem repeat_any (n : Nat) (w : World) (hn : n ≤ 1000) :
    Calls Tryd.prog 26 #[.string { data := #[48] }, .int .i64 n] w fun e w' => e = .returned (.string (mkS (List.replicate n 48))) ∧ Below w.heap.size w w' := by
  have h := Tryd.strings_Repeat ⟨#[48]⟩ n w (by omega) (by show (⟨#[48]⟩ : ByteArray).size * n ≤ _; rw [show (⟨#[48]⟩ : ByteArray).size = 1 from rfl]; omega)
  rw [show (⟨#[48]⟩ : ByteArray).data.toList = [48] from rfl, repeatL_one] at h
  exact h

/-! ### A step down -/
def stepS (s n : Int) : Int := if 0 < n then s else s - 1
def stepN (n : Int) : Int := if 0 < n then n - 1 else 999999999
theorem stepDown_any (s n : Int) (w : World) (h1 : -1099511627776 ≤ s) (h2 : s ≤ 1099511627776) (h3 : 0 ≤ n) (h4 : n < 1000000000) :
    Calls Tryd.prog 28 #[tmV s n] w fun e w' => e = .returned (tmV (stepS s n) (stepN n)) ∧ Below w.heap.size w w' := by
  by_cases h : 0 < n
  · rw [show stepS s n = s from if_pos h, show stepN n = n - 1 from if_pos h]
    go_enter Tryd.func28, Tryd.ntmps28
    go_wp2
    refine bodyPost_ret (v := tmV s (n - 1)) (by simp [results, Tryd.results28, go_sem]) rfl ⟨rfl, by first | exact below_alloc2 _ _ _ | (trace_state; fail)⟩
  · rw [show stepS s n = s - 1 from if_neg h, show stepN n = 999999999 from if_neg h]
    go_enter Tryd.func28, Tryd.ntmps28
    go_wp2
    refine bodyPost_ret (v := tmV (s - 1) 999999999) (by simp [results, Tryd.results28, go_sem]) rfl ⟨rfl, by first | exact below_alloc2 _ _ _ | (trace_state; fail)⟩

/-! ### The text, and what is put together of it -/
def part (P : Nat) : List UInt8 := if P = 0 then [] else Lib.trimRightB (digs 9 P) 48
theorem frac_part (P : Nat) (h : 0 < P) : fracL P = 46 :: part P := by
  unfold fracL part
  rw [if_neg (by omega), if_neg (by omega)]
theorem part_len (P : Nat) : (part P).length ≤ 9 := by
  unfold part
  split
  · simp
  · exact Nat.le_trans (trimRightB_length _ _) (Nat.le_of_eq (digs_length 9 P))
theorem part_pad (P : Nat) : part P ++ List.replicate (9 - (part P).length) 48 = digs 9 P := by
  unfold part
  split
  · rename_i h; subst h; rw [digs_zero]; rfl
  · obtain ⟨j, hj⟩ := trimR_split 9 (digs 9 P) (digs_length 9 P)
    have hl := congrArg List.length hj
    rw [digs_length, List.length_append, List.length_replicate] at hl
    rw [show 9 - (Lib.trimRightB (digs 9 P) 48).length = j by omega]
    exact hj.symm
theorem nano_more (P : Nat) (h : P < 1000000000) (m : List UInt8) : nanoD (digs 9 P ++ m) = (P : Int) ∧ moreD (digs 9 P ++ m) = !decide (Lib.trimLeftB m 48 = []) := by
  have hl := digs_length 9 P
  constructor
  · unfold nanoD
    rw [show (digs 9 P ++ m).take 9 = digs 9 P from by rw [← hl]; exact List.take_left' rfl, valD_digs 9 P (by omega), show 9 - (digs 9 P ++ m).length = 0 by rw [List.length_append]; omega]
    simp
  · unfold moreD
    rw [show (digs 9 P ++ m).drop 9 = m from by rw [← hl]; exact List.drop_left' rfl]
theorem parse_more (neg : Bool) (S P z : Nat) (hS : S ≤ 1099511627776) (hP : P < 1000000000) (m : List UInt8) (hm : m.all dig = true) :
    parseF (sgL neg ++ (List.replicate z 48 ++ Lib.decDigits S) ++ 46 :: (digs 9 P ++ m)) = timeF neg S P (!decide (Lib.trimLeftB m 48 = [])) := by
  have hA : isDig (List.replicate z 48 ++ Lib.decDigits S) = true := by
    have h := isDig_dec S
    unfold isDig at h ⊢
    rw [Bool.and_eq_true] at h ⊢
    refine ⟨?_, ?_⟩
    · rw [List.all_append, h.1, Bool.and_true, List.all_replicate]; simp [dig]
    · simp at h ⊢
      exact .inr h.2
  have hF : isDig (digs 9 P ++ m) = true := by
    unfold isDig
    rw [List.all_append, all_digs, hm]
    have : digs 9 P ++ m ≠ [] := fun h => by have := congrArg List.length h; rw [List.length_append, digs_length] at this; simp at this
    simp [this]
  have hz : ∀ z, Lib.trimLeftB (List.replicate z 48 ++ Lib.decDigits S) 48 = Lib.trimLeftB (Lib.decDigits S) 48 := by
    intro z
    induction z with
    | zero => rfl
    | succ z ih => rw [← ih]; simp [Lib.trimLeftB, List.replicate_succ]
  have h := parse_point neg _ _ hA hF (by rw [hz]; exact Nat.le_trans (trimL_len _) (by have := dec_len15 S hS; omega))
  rw [hz, valD_zeros, valD_dec, (nano_more P hP m).1, (nano_more P hP m).2] at h
  exact h

/-- What Parse says of the longer text: the time itself, or a step down, or nothing. -/
theorem time_more (s n : Int) (hr : rightB s n = true) (neg : Bool) (S P : Nat) (hP : P < 1000000000)
    (hc : (neg = false ∧ s = S ∧ n = P) ∨ (neg = true ∧ s < 0 ∧ P = 0 ∧ n = 0 ∧ s = -(S : Int)) ∨ (neg = true ∧ s < 0 ∧ 0 < P ∧ n = 1000000000 - (P : Int) ∧ s = -(S : Int) - 1)) (b : Bool) :
    ((b = false ∨ neg = false) ∧ timeF neg S P b = (0, s, n)) ∨ (b = true ∧ neg = true ∧ (timeF neg S P b = (0, stepS s n, stepN n) ∨ timeF neg S P b = (2, 0, 0))) := by
  have hb := rightB_true s n hr
  rcases hc with ⟨rfl, rfl, rfl⟩ | ⟨rfl, h1, rfl, rfl, rfl⟩ | ⟨rfl, h1, h2, rfl, rfl⟩
  · exact .inl ⟨.inr rfl, by unfold timeF; simp [hr]⟩
  · cases b
    · refine .inl ⟨.inl rfl, ?_⟩
      unfold timeF
      simp only [Bool.and_false, Bool.false_eq_true, if_false, if_true]
      rw [show negS (S : Int) ((0 : Nat) : Int) = -(S : Int) from rfl, show negN ((0 : Nat) : Int) = 0 from rfl, if_pos hr]
    · refine .inr ⟨rfl, rfl, ?_⟩
      unfold timeF
      simp only [Bool.and_self, if_true]
      rw [show negS (S : Int) (((0 : Nat) : Int) + 1) = -(S : Int) - 1 from rfl, show negN (((0 : Nat) : Int) + 1) = 999999999 from rfl]
      rw [show stepS (-(S : Int)) 0 = -(S : Int) - 1 from rfl, show stepN 0 = 999999999 from rfl]
      by_cases hq : rightB (-(S : Int) - 1) 999999999 = true
      · rw [if_pos hq]; exact .inl rfl
      · rw [if_neg hq]; exact .inr rfl
  · cases b
    · refine .inl ⟨.inl rfl, ?_⟩
      unfold timeF
      simp only [Bool.and_false, Bool.false_eq_true, if_false, if_true]
      rw [show negS (S : Int) (P : Int) = -(S : Int) - 1 by unfold negS; rw [if_neg (by omega)], show negN (P : Int) = 1000000000 - (P : Int) by unfold negN; rw [if_neg (by omega)], if_pos hr]
    · refine .inr ⟨rfl, rfl, ?_⟩
      unfold timeF
      simp only [Bool.and_self, if_true]
      rw [show negS (S : Int) ((P : Int) + 1) = -(S : Int) - 1 by unfold negS; rw [if_neg (by omega)], show negN ((P : Int) + 1) = 1000000000 - (P : Int) - 1 by unfold negN; rw [if_neg (by omega)]; omega]
      have hp9 : (P : Int) < 1000000000 := by omega
      rw [show stepS (-(S : Int) - 1) (1000000000 - (P : Int)) = -(S : Int) - 1 from if_pos (by omega), show stepN (1000000000 - (P : Int)) = 1000000000 - (P : Int) - 1 from if_pos (by omega)]
      by_cases hq : rightB (-(S : Int) - 1) (1000000000 - (P : Int) - 1) = true
      · rw [if_pos hq]; exact .inl rfl
      · rw [if_neg hq]; exact .inr rfl
end Go.Proofs.YtncdmineepagpaaDoor
