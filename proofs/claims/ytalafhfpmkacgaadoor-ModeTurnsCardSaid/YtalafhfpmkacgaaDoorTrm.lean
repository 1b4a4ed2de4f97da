/- strings.TrimLeft and Trim at a set of bytes; strings.IndexByte in one; strings.ToUpper at one byte. -/
import Derived.Test.YtalafhfpmkacgaaDoorMm
import Derived.Test.YtalafhfpmkacgaaDoorShelf
import Derived.Shelf.Strings.SlTrimAscii
namespace Go.Proofs.YtalafhfpmkacgaaDoor
open Go.RowKit Go.Joins
set_option linter.unusedVariables false

theorem mkS_emp_any (l : List UInt8) : (mkS l).toList.isEmpty = decide (l = []) := by
  cases l with
  | nil => rw [mkS_emp_nil]; rfl
  | cons c r => rw [mkS_emp _ (by simp)]; rfl
theorem trimLeft_any (S l : List UInt8) (hS : S.length ≤ 100) (ha : ∀ c ∈ S, c.toNat < 128) (w : World) :
    Calls Tryd.prog 27 #[.string (mkS l), .string (mkS S)] w fun e w' => e = .returned (.string (mkS (restS S l))) ∧ Below w.heap.size w w' := by
  have h := Any.strings_TrimLeft_laid (P := Tryd.prog) Tryd.lays161 (by kernel_rfl) (mkS l) (mkS S) w (by rw [mkS_size]; omega)
    (fun j b hb => by rw [mkS_list] at hb; exact ha b (List.mem_of_getElem? hb))
  rw [mkS_list, mkS_list] at h
  exact h
theorem trim_empty (S l : List UInt8) (hS : S.length ≤ 100) (hl : l.length ≤ 1000000) (ha : ∀ c ∈ S, c.toNat < 128) (w : World) :
    Calls Tryd.prog 21 #[.string (mkS l), .string (mkS S)] w fun e w' => (∃ T, e = .returned (.string (mkS T)) ∧ (T = [] ↔ restS S l = [])) ∧ Below w.heap.size w w' := by
  have h := Any.strings_Trim_laid (P := Tryd.prog) Tryd.lays160 (by kernel_rfl) (mkS l) (mkS S) w (by rw [mkS_size]; omega) (by rw [mkS_size]; omega)
    (fun j b hb => by rw [mkS_list] at hb; exact ha b (List.mem_of_getElem? hb))
  rw [mkS_list, mkS_list] at h
  refine h.mono fun e w' ⟨he, hw⟩ => ⟨⟨Lib.trimS l S, he, ?_⟩, hw⟩
  have e1 : Lib.trimS l S = restS S (restS S l.reverse).reverse := rfl
  rw [e1, restS_nil]
  constructor
  · intro k
    rw [restS_nil]
    intro c hc
    have hr := head_rest S l.reverse
    have hm : c ∈ headS S l.reverse ++ restS S l.reverse := by rw [hr]; exact List.mem_reverse.2 hc
    rcases List.mem_append.1 hm with hm | hm
    · exact List.all_eq_true.1 List.all_takeWhile c hm
    · exact k c (List.mem_reverse.2 hm)
  · intro k c hc
    rw [restS_nil] at k
    have hs : (restS S l.reverse).Sublist l.reverse := List.dropWhile_sublist _
    exact k c (List.mem_reverse.1 (hs.subset (List.mem_reverse.1 hc)))
theorem indexByte_in (S : List UInt8) (c : UInt8) : decide (Lib.indexByte S c < 0) = !S.contains c ∧ decide (0 ≤ Lib.indexByte S c) = S.contains c := by
  have key : decide (0 ≤ Lib.indexByte S c) = S.contains c := by
    induction S with
    | nil => rfl
    | cons b s ih =>
      rw [List.contains_cons, ← ih, Lib.indexByte]
      by_cases h : b = c
      · subst h; simp
      · have h1 : (b == c) = false := by simpa using h
        have h2 : (c == b) = false := by rw [Bool.beq_comm]; exact h1
        rw [h1, h2]
        by_cases h3 : Lib.indexByte s c = -1
        · rw [h3]; simp
        · have h4 : (Lib.indexByte s c == -1) = false := by simpa using h3
          rw [h4]
          simp only [Bool.false_eq_true, if_false, Bool.false_or]
          by_cases h5 : 0 ≤ Lib.indexByte s c
          · rw [decide_eq_true h5, decide_eq_true (by omega)]
          · rw [decide_eq_false h5, decide_eq_false (by omega)]
  refine ⟨?_, key⟩
  rw [← key]
  by_cases h5 : 0 ≤ Lib.indexByte S c
  · rw [decide_eq_true h5, decide_eq_false (by omega)]; rfl
  · rw [decide_eq_false h5, decide_eq_true (by omega)]; rfl
theorem indexB_any (S : List UInt8) (c : UInt8) (w : World) :
    Calls Tryd.prog 35 #[.string (mkS S), .int .u8 (c.toNat : Int)] w fun e w' => e = .returned (.int .i64 (Lib.indexByte S c)) ∧ w' = w := by
  have h := Tryd.strings_IndexByte (mkS S) (c.toNat : Int) w
  rw [mkS_list] at h
  have hc : (c.toNat : Int).toNat.toUInt8 = c := by rw [Int.toNat_natCast]; exact UInt8.ofNat_toNat
  rw [hc] at h
  exact h
theorem toUpper_one (c : UInt8) (hc : c.toNat < 128) (w : World) :
    Calls Tryd.prog 34 #[.string (mkS [c])] w fun e w' => e = .returned (.string (mkS [Lib.upperB c])) ∧ Below w.heap.size w w' := by
  have h := Tryd.strings_ToUpper_ascii (mkS [c]) w (by rw [mkS_size]; simp) (fun j b hb => by
    rw [mkS_list] at hb
    have := List.mem_of_getElem? hb
    rw [List.mem_singleton] at this
    rw [this]; exact hc)
  rw [mkS_list] at h
  exact h
end Go.Proofs.YtalafhfpmkacgaaDoor
