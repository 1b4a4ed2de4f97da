/- path.Up: the texts before and after the last slash. -/
import Derived.Test.YtlgfdlfijfcfbaaDoorShelf
import Derived.Test.YtlgfdlfijfcfbaaDoorMk
import Derived.Test.YtlgfdlfijfcfbaaDoorPn
import Derived.Lib.MinMax
namespace Go.Proofs.YtlgfdlfijfcfbaaDoor
open Go.RowKit Go.Joins
set_option linter.unusedVariables false

theorem mkS_at (l : List UInt8) (j : Nat) (c : UInt8) (h : l[j]? = some c) : (mkS l).data[j]! = c := by
  obtain ⟨h1, h2⟩ := List.getElem?_eq_some_iff.1 h
  show l.toArray[j]! = c
  rw [getElem!_pos l.toArray j (by simpa using h1)]
  simpa using h2
/-- The last slash: there is none, or it parts the text. -/
theorem last_cases (l : List UInt8) : ((47 : UInt8) ∉ l ∧ Lib.lastIndexByte (mkS l) 47 = -1) ∨ ∃ i : Nat, i < l.length ∧ l[i]? = some 47 ∧ (47 : UInt8) ∉ l.drop (i + 1) ∧ Lib.lastIndexByte (mkS l) 47 = i := by
  have hb : ∀ c : UInt8, ((c.toNat : Nat) : Int) = 47 → c = 47 := fun c h => UInt8.toNat_inj.1 (by show c.toNat = 47; omega)
  rcases Lib.lastIndexByte_spec (mkS l) 47 with ⟨e, hn⟩ | ⟨i, hi, e, hc, hn⟩
  · left
    refine ⟨fun hm => ?_, e⟩
    obtain ⟨j, hj, he⟩ := List.mem_iff_getElem.1 hm
    have := hn j (by rw [mkS_size]; exact hj)
    rw [mkS_at l j 47 (by rw [List.getElem?_eq_getElem hj, he])] at this
    exact this rfl
  · right
    rw [mkS_size] at hi hn
    have hg : ∀ j, (h : j < l.length) → (mkS l).data[j]! = l[j] := fun j h => mkS_at l j _ (List.getElem?_eq_getElem h)
    refine ⟨i, hi, ?_, fun hm => ?_, e⟩
    · rw [hg i hi] at hc
      rw [List.getElem?_eq_getElem hi, hb _ hc]
    · obtain ⟨j, hj, he⟩ := List.mem_iff_getElem.1 hm
      rw [List.getElem_drop] at he
      rw [List.length_drop] at hj
      have := hn (i + 1 + j) (by omega) (by omega)
      rw [hg (i + 1 + j) (by omega), he] at this
      exact this rfl
theorem lastIndex_mk (l : List UInt8) (hl : l.length ≤ 1000000) (w : World) :
    Calls Tryd.prog 52 #[.string (mkS l), .int .u8 47] w fun e w' => e = .returned (.int .i64 (Lib.lastIndexByte (mkS l) 47)) ∧ w' = w :=
  Tryd.strings_LastIndexByte (mkS l) 47 (by rw [mkS_size]; omega) w
/-- Two texts, as a result. -/
abbrev twoV (x y : List UInt8) : Value := .tuple #[.string (mkS x), .string (mkS y)]
theorem two_ret {a b : ByteArray} {x y : List UInt8} (h1 : a = mkS x) (h2 : b = mkS y) : Ending.returned (.tuple #[.string a, .string b]) = .returned (twoV x y) := by rw [h1, h2]
theorem mkS_ext (l : List UInt8) (i j : Nat) : (mkS l).extract i j = mkS ((l.take j).drop i) := by
  rw [← mkS_self ((mkS l).extract i j), Lib.extract_data, mkS_list]
  rw [List.drop_take]

set_option maxHeartbeats 1000000 in
theorem up_any (l : List UInt8) (hl : l.length ≤ 1000000) (w : World) :
    Calls Tryd.prog 40 #[.string (mkS l)] w fun e w' => e = .returned (twoV (upL l).1 (upL l).2) ∧ Below w.heap.size w w' := by
  have s1 := mkS_size l
  rcases last_cases l with ⟨hn, e1⟩ | ⟨i, hi, hc, hn, e1⟩
  · have C := Lib.hid (show ∀ w, Calls Tryd.prog 52 #[.string (mkS l), .int .u8 47] w fun e w' => e = .returned (.int .i64 (-1)) ∧ w = w' from
      fun w => (lastIndex_mk l hl w).mono fun e w' ⟨he, hw⟩ => ⟨by rw [he, e1], hw.symm⟩)
    have hu := upL_none l hn
    have h1 := fun w => mkS_upto l 0 (Nat.zero_le _) w
    have h2 := fun w => mkS_onward l 0 (Nat.zero_le _) w
    rw [List.take_zero] at h1
    rw [List.drop_zero] at h2
    simp only [Int.natCast_zero] at h1 h2
    rw [hu]
    have HE := Lib.hid (show (mkS l).extract 0 (max (-1 : Int) 0).toNat = mkS [] by rw [mkS_ext, show (max (-1 : Int) 0).toNat = 0 from rfl]; simp)
    clear hu hn e1
    go_enter Tryd.func40, Tryd.ntmps40
    go_wp2_with (go_at_call 52; refine (C.out _).mono ?_; rintro e w' ⟨rfl, rfl⟩)
    go_region
    go_wp2
    go_ret2
    exact ⟨two_ret HE.out rfl, (Below.refl _ _).drew⟩
  · have C := Lib.hid (show ∀ w, Calls Tryd.prog 52 #[.string (mkS l), .int .u8 47] w fun e w' => e = .returned (.int .i64 (i : Int)) ∧ w = w' from
      fun w => (lastIndex_mk l hl w).mono fun e w' ⟨he, hw⟩ => ⟨by rw [he, e1], hw.symm⟩)
    have hu : upL l = (l.take i, l.drop (i + 1)) := by
      have := upL_slash (l.take i) (l.drop (i + 1)) hn
      rwa [take_slash l i hc] at this
    have h1 := fun w => mkS_upto l i (by omega) w
    have h2 := fun w => mkS_onward l (i + 1) (by omega) w
    rw [hu]
    have HE := Lib.hid (show (mkS l).extract (i + 1) l.length = mkS (l.drop (i + 1)) by rw [mkS_ext, List.take_length])
    clear hu hn e1 hc
    go_enter Tryd.func40, Tryd.ntmps40
    go_wp2_with (go_at_call 52; refine (C.out _).mono ?_; rintro e w' ⟨rfl, rfl⟩)
    go_region
    go_wp2
    go_ret2
    exact ⟨two_ret rfl HE.out, (Below.refl _ _).drew⟩
end Go.Proofs.YtlgfdlfijfcfbaaDoor
