/- strings.Cut at one byte: what it returns. -/
import Derived.Test.YtheiamidochooaaDoorMk
import Derived.Test.YtheiamidochooaaDoorShelf
import Derived.Lib.Bytealg
namespace Go.Proofs.YtheiamidochooaaDoor
open Go.RowKit Go.Joins

def wholeOf (c : UInt8) (u : List UInt8) : List UInt8 := u.takeWhile (· != c)
def fracOf (c : UInt8) (u : List UInt8) : List UInt8 := (u.dropWhile (· != c)).drop 1
def pointOf (c : UInt8) (u : List UInt8) : Bool := u.contains c

theorem index_no (c : UInt8) : ∀ (u : List UInt8), u.contains c = false → Lib.indexByte u c = -1
  | [], _ => rfl
  | b :: u, h => by
    rw [List.contains_cons, Bool.or_eq_false_iff] at h
    have hb : (b == c) = false := by rw [Bool.beq_comm]; exact h.1
    rw [Lib.indexByte, hb, index_no c u h.2]; rfl
theorem index_yes (c : UInt8) : ∀ (u : List UInt8), u.contains c = true → Lib.indexByte u c = ((wholeOf c u).length : Int) ∧ u = wholeOf c u ++ c :: fracOf c u
  | [], h => by cases h
  | b :: u, h => by
    by_cases hb : b = c
    · subst hb
      exact ⟨by simp [wholeOf, Lib.indexByte], by simp [wholeOf, fracOf]⟩
    · have hb' : (b == c) = false := by simpa using hb
      rw [List.contains_cons, show (c == b) = false by rw [Bool.beq_comm]; exact hb', Bool.false_or] at h
      obtain ⟨i1, i2⟩ := index_yes c u h
      have e1 : wholeOf c (b :: u) = b :: wholeOf c u := by simp [wholeOf, hb]
      have e2 : fracOf c (b :: u) = fracOf c u := by simp [fracOf, hb]
      rw [e1, e2, Lib.indexByte, hb', i1]
      refine ⟨?_, by rw [List.cons_append, ← i2]⟩
      rw [if_neg (by simp), if_neg (by simp)]
      rfl
theorem whole_no (c : UInt8) : ∀ (u : List UInt8), u.contains c = false → wholeOf c u = u ∧ fracOf c u = []
  | [], _ => ⟨rfl, rfl⟩
  | b :: u, h => by
    rw [List.contains_cons, Bool.or_eq_false_iff] at h
    have hb : ¬ b = c := by intro e; subst e; simp at h
    obtain ⟨i1, i2⟩ := whole_no c u h.2
    exact ⟨by simp [wholeOf, hb]; exact i1, by simp [fracOf, hb]; simpa [fracOf] using i2⟩

theorem indexLite (c : UInt8) (u : List UInt8) (w : World) :
    Calls Tryd.prog 67 #[.string (mkS u), .string { data := #[c] }] w fun e w' => e = .returned (.int .i64 (Lib.indexByte u c)) ∧ w' = w := by
  have h := Tryd.stringslite_Index_one (mkS u) c w
  rwa [mkS_list] at h

theorem cutLite (c : UInt8) (u : List UInt8) (w : World) (hl : u.length ≤ 6000) :
    Calls Tryd.prog 52 #[.string (mkS u), .string { data := #[c] }] w fun e w' => e = .returned (.tuple #[.string (mkS (wholeOf c u)), .string (mkS (fracOf c u)), .bool (pointOf c u)]) ∧ ∃ n, w' = w.drewN n := by
  have hI := Lib.hid (fun w => indexLite c u w)
  cases hp : u.contains c
  · rw [index_no c u hp] at hI
    obtain ⟨e1, e2⟩ := whole_no c u hp
    have e3 : pointOf c u = false := hp
    rw [e1, e2, e3]
    clear e1 e2 e3 hp
    go_enter Tryd.func52, Tryd.ntmps52
    go_wp2_with (go_at_call 67; refine (hI.out _).mono ?_; rintro e w' ⟨rfl, hw⟩; replace hw := hw.symm; subst hw)
    refine bodyPost_ret (results_tmp3 rfl _ _ _) rfl ?_
    exact ⟨rfl, 0, rfl⟩
  · obtain ⟨i1, i2⟩ := index_yes c u hp
    rw [i1] at hI
    have e3 : pointOf c u = true := hp
    rw [e3]
    have hlen : (wholeOf c u).length + 1 + (fracOf c u).length = u.length := by
      have := congrArg List.length i2
      simp at this; omega
    have t1 : u.take (wholeOf c u).length = wholeOf c u := by
      have := congrArg (List.take (wholeOf c u).length) i2
      rwa [List.take_left'] at this; rfl
    have t2 : u.drop ((wholeOf c u).length + 1) = fracOf c u := by
      have := congrArg (List.drop ((wholeOf c u).length + 1)) i2
      rw [this, ← List.drop_drop, List.drop_left']
      · rfl
      · rfl
    have s1 := fun w => mkS_upto u (wholeOf c u).length (by omega) w
    have s2 := fun w => mkS_onward u ((wholeOf c u).length + 1) (by omega) w
    rw [t1] at s1
    rw [t2] at s2
    clear i1 i2 e3 hp t1 t2
    generalize hk : (wholeOf c u).length = k at *
    generalize wholeOf c u = a at *
    generalize fracOf c u = b at *
    have hk1 : k + 1 ≤ 6000 := by omega
    simp only [Int.natCast_add, Int.natCast_one] at s2
    clear hk hlen hl
    go_enter Tryd.func52, Tryd.ntmps52
    go_wp2_with (go_at_call 67; refine (hI.out _).mono ?_; rintro e w' ⟨rfl, hw⟩; replace hw := hw.symm; subst hw)
    go_quiet (fail)
    go_wp2
    refine bodyPost_ret (results_tmp3 rfl _ _ _) rfl ?_
    exact ⟨rfl, nq, rfl⟩

theorem cut_any (c : UInt8) (u : List UInt8) (w : World) (hl : u.length ≤ 6000) :
    Calls Tryd.prog 25 #[.string (mkS u), .string { data := #[c] }] w fun e w' => e = .returned (.tuple #[.string (mkS (wholeOf c u)), .string (mkS (fracOf c u)), .bool (pointOf c u)]) ∧ ∃ n, w' = w.drewN n := by
  have hC := Lib.hid (cutLite c u w hl)
  go_enter Tryd.func25, Tryd.ntmps25
  go_wp2_with (go_at_call 52; refine hC.out.mono ?_; rintro e w' ⟨rfl, n, rfl⟩)
  refine bodyPost_ret (results_tmp3 rfl _ _ _) rfl ?_
  exact ⟨rfl, n, rfl⟩

end Go.Proofs.YtheiamidochooaaDoor
