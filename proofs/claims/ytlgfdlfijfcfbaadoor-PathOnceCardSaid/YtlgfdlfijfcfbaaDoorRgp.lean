/- path.Right. -/
import Derived.Test.YtlgfdlfijfcfbaaDoorCln
namespace Go.Proofs.YtlgfdlfijfcfbaaDoor
open Go.RowKit Go.Joins
set_option linter.unusedVariables false

theorem indexByte_mem (l : List UInt8) (c : UInt8) : 0 ≤ Lib.indexByte l c ↔ c ∈ l := by
  have hge := Lib.indexByte_ge l c
  constructor
  · intro h
    obtain ⟨o, ho⟩ : ∃ o : Nat, Lib.indexByte l c = o := ⟨(Lib.indexByte l c).toNat, by omega⟩
    obtain ⟨h1, _⟩ := Lib.indexByte_some ho
    exact List.mem_of_getElem? h1
  · intro hm
    by_cases h : Lib.indexByte l c = -1
    · obtain ⟨j, hj, he⟩ := List.mem_iff_getElem.1 hm
      exact absurd (by rw [List.getElem?_eq_getElem hj, he]) (Lib.indexByte_none h j)
    · omega
theorem contains0 (l : List UInt8) (w : World) :
    Calls Tryd.prog 35 #[.string (mkS l), .string ⟨#[0]⟩] w fun e w' => e = .returned (.bool (decide ((0 : UInt8) ∈ l))) ∧ w = w' := by
  have h := Tryd.strings_Contains_one (mkS l) 0 w
  rw [mkS_list] at h
  refine h.mono fun e w' ⟨he, hw⟩ => ⟨?_, hw.symm⟩
  rw [he]
  congr 2
  rw [decide_eq_decide]
  exact indexByte_mem l 0

theorem rightB_nil : rightB [] = false := by
  cases h : rightB [] with
  | false => rfl
  | true => exact absurd rfl ((right_iff []).1 h).1
theorem rightB_no (l : List UInt8) (h : ¬ (l ≠ [] ∧ l.length ≤ 120 ∧ (0 : UInt8) ∉ l ∧ cleanL l = (l, true) ∧ (partsL l).length ≤ 12)) : rightB l = false := by
  cases hr : rightB l with
  | false => rfl
  | true => exact absurd ((right_iff l).1 hr) h

set_option maxHeartbeats 2000000 in
theorem right_any (l : List UInt8) (w : World) :
    Calls Tryd.prog 17 #[.string (mkS l)] w fun e w' => e = .returned (.bool (rightB l)) ∧ Below w.heap.size w w' := by
  have s1 := mkS_size l
  have hlit0 : (⟨#[]⟩ : ByteArray) = mkS [] := rfl
  have e1 := sEq l []
  by_cases h0 : l = []
  · rw [decide_eq_true h0] at e1
    have HB := Lib.hid (show rightB l = false by rw [h0]; exact rightB_nil)
    clear h0
    go_enter Tryd.func17, Tryd.ntmps17
    go_wp2
    go_ret
    exact ⟨by rw [HB.out]; rfl, Below.refl _ _⟩
  rw [decide_eq_false h0] at e1
  by_cases hlen : (120 : Int) < (l.length : Int)
  · have HB := Lib.hid (rightB_no l (fun h => by have := h.2.1; omega))
    clear h0
    go_enter Tryd.func17, Tryd.ntmps17
    go_wp2
    go_ret
    exact ⟨by rw [HB.out]; rfl, Below.refl _ _⟩
  have C1 := Lib.hid (fun w => contains0 l w)
  have hdec : decide ((120 : Int) < (l.length : Int)) = false := decide_eq_false hlen
  by_cases hz : (0 : UInt8) ∈ l
  · have HB := Lib.hid (rightB_no l (fun h => h.2.2.1 hz))
    rw [decide_eq_true hz] at C1
    clear h0 hz hlen
    go_enter Tryd.func17, Tryd.ntmps17
    go_wp2_with (go_at_call 35; with_reducible refine (C1.out _).mono ?_; rintro e w' ⟨rfl, rfl⟩)
    go_ret
    exact ⟨by rw [HB.out]; rfl, Below.refl _ _⟩
  rw [decide_eq_false hz] at C1
  have C2 := Lib.hid (fun w => clean_any l (by omega) w)
  have C3 := Lib.hid (fun w => parts_any l (by omega) w)
  have e2 := sEq (cleanL l).1 l
  have HR := Lib.hid (right_iff l)
  have HN := Lib.hid (rightB_no l)
  by_cases hok : (cleanL l).2 = true
  · by_cases hc : (cleanL l).1 = l
    · have HB := Lib.hid (show rightB l = decide ((partsL l).length ≤ 12) by
        rw [Bool.eq_iff_iff, HR.out, decide_eq_true_eq]
        exact ⟨fun h => h.2.2.2.2, fun h => ⟨h0, by omega, hz, Prod.ext hc hok, h⟩⟩)
      rw [decide_eq_true hc] at e2
      rw [show cleanL l = ((cleanL l).1, true) from Prod.ext rfl hok] at C2
      generalize (cleanL l).1 = c at *
      clear h0 hz hlen hok hc HR HN
      go_enter Tryd.func17, Tryd.ntmps17
      go_wp2_with (first
        | (go_at_call 35; with_reducible refine (C1.out _).mono ?_; rintro e w' ⟨rfl, rfl⟩)
        | (go_at_call 16; with_reducible refine (C2.out _).mono ?_; rintro e w1 ⟨rfl, h1⟩)
        | (go_at_call 13; with_reducible refine (C3.out _).mono ?_; rintro e w3 ⟨⟨v, rfl, hs⟩, h3⟩; obtain ⟨ad, cap, rfl, _⟩ := hs.len))
      go_ret
      refine ⟨?_, h1.trans (h3.mono h1.size)⟩
      rw [HB.out, show decide ((partsL l).length ≤ 12) = decide (((partsL l).length : Int) ≤ 12) from by rw [decide_eq_decide]; omega]
      rfl
    · have HB := Lib.hid (show rightB l = false from HN.out (fun h => hc (congrArg Prod.fst h.2.2.2.1)))
      rw [decide_eq_false hc] at e2
      rw [show cleanL l = ((cleanL l).1, true) from Prod.ext rfl hok] at C2
      generalize (cleanL l).1 = c at *
      clear h0 hz hlen hok hc HR HN
      go_enter Tryd.func17, Tryd.ntmps17
      go_wp2_with (first
        | (go_at_call 35; with_reducible refine (C1.out _).mono ?_; rintro e w' ⟨rfl, rfl⟩)
        | (go_at_call 16; with_reducible refine (C2.out _).mono ?_; rintro e w1 ⟨rfl, h1⟩))
      go_ret
      exact ⟨by rw [HB.out]; rfl, h1⟩
  · have HB := Lib.hid (show rightB l = false from HN.out (fun h => hok (congrArg Prod.snd h.2.2.2.1)))
    rw [show cleanL l = ((cleanL l).1, false) from Prod.ext rfl (by simpa using hok)] at C2
    generalize (cleanL l).1 = c at *
    clear h0 hz hlen hok HR HN
    go_enter Tryd.func17, Tryd.ntmps17
    go_wp2_with (first
      | (go_at_call 35; with_reducible refine (C1.out _).mono ?_; rintro e w' ⟨rfl, rfl⟩)
      | (go_at_call 16; with_reducible refine (C2.out _).mono ?_; rintro e w1 ⟨rfl, h1⟩))
    go_ret
    exact ⟨by rw [HB.out]; rfl, h1⟩
end Go.Proofs.YtlgfdlfijfcfbaaDoor
