/- The first slash of a text; strings.Index at a slash. -/
import Derived.Test.YtlgfdlfijfcfbaaDoorShelf
import Derived.Test.YtlgfdlfijfcfbaaDoorMk
import Derived.Test.YtlgfdlfijfcfbaaDoorPn
import Derived.Lib.IndexLaws
namespace Go.Proofs.YtlgfdlfijfcfbaaDoor
open Go.RowKit Go.Joins
set_option linter.unusedVariables false

theorem first_cases (l : List UInt8) : ((47 : UInt8) ∉ l ∧ Lib.indexByte l 47 = -1) ∨ ∃ i : Nat, i < l.length ∧ l[i]? = some 47 ∧ (47 : UInt8) ∉ l.take i ∧ Lib.indexByte l 47 = i := by
  have hge := Lib.indexByte_ge l 47
  by_cases h : Lib.indexByte l 47 = -1
  · left
    refine ⟨fun hm => ?_, h⟩
    obtain ⟨j, hj, he⟩ := List.mem_iff_getElem.1 hm
    exact Lib.indexByte_none h j (by rw [List.getElem?_eq_getElem hj, he])
  · right
    obtain ⟨o, ho⟩ : ∃ o : Nat, Lib.indexByte l 47 = o := ⟨(Lib.indexByte l 47).toNat, by omega⟩
    obtain ⟨h1, h2⟩ := Lib.indexByte_some ho
    refine ⟨o, (List.getElem?_eq_some_iff.1 h1).1, h1, fun hm => ?_, ho⟩
    obtain ⟨j, hj, he⟩ := List.mem_iff_getElem.1 hm
    rw [List.length_take] at hj
    rw [List.getElem_take] at he
    exact h2 j (by omega) (by rw [List.getElem?_eq_getElem (by omega), he])
theorem pieces_none (l : List UInt8) (h : (47 : UInt8) ∉ l) : piecesL l = [l] := pieces_one l h
theorem pieces_at (l : List UInt8) (i : Nat) (h : l[i]? = some 47) (hn : (47 : UInt8) ∉ l.take i) : piecesL l = l.take i :: piecesL (l.drop (i + 1)) := by
  have := pieces_head (l.take i) (l.drop (i + 1)) hn
  rwa [take_slash l i h] at this
theorem index_mk (l : List UInt8) (w : World) :
    Calls Tryd.prog 48 #[.string (mkS l), .string (mkS [47])] w fun e w' => e = .returned (.int .i64 (Lib.indexByte l 47)) ∧ w = w' := by
  have h := Tryd.strings_Index_one (mkS l) 47 w
  rw [mkS_list] at h
  exact h.mono fun e w' ⟨he, hw⟩ => ⟨he, hw.symm⟩
end Go.Proofs.YtlgfdlfijfcfbaaDoor
