/- strings.Split at a zero byte. -/
import Derived.Test.YtapfkjdkpcgoiaaGreatDoorPcz
import Derived.Test.YtapfkjdkpcgoiaaGreatDoorShelf
import Derived.Test.YtapfkjdkpcgoiaaGreatDoorMk
import Derived.Shelf.Strings.Split
import Derived.Lib.Split
import Derived.Lib.IndexBytes
namespace Go.Proofs.YtapfkjdkpcgoiaaGreatDoor
open Go.RowKit Go.Shelf Go.Joins
set_option linter.unusedVariables false

abbrev encS (x : List UInt8) : Value := .string (mkS x)
theorem index_zero (l : List UInt8) : Lib.index l [0] = Lib.indexByte l 0 := Lib.index_one l 0
theorem splitK_pieces : ∀ (k : Nat) (l : List UInt8), l.count 0 = k → Lib.splitK [0] 0 k l = piecesZ l
  | 0, l, h => by rw [pieces_one l (List.count_eq_zero.1 h)]; rfl
  | k + 1, l, h => by
    rcases first_cases l with ⟨hn, _⟩ | ⟨i, hi, hc, hn, he⟩
    · rw [List.count_eq_zero.2 hn] at h; omega
    · rw [Lib.splitK, index_zero, he, if_neg (by simp), pieces_at l i hc hn]
      have e1 : ((i : Int).toNat + 0) = i := by simp
      have e2 : (i : Int).toNat + ([0] : List UInt8).length = i + 1 := by simp
      rw [e1, e2, splitK_pieces k (l.drop (i + 1)) ?_]
      have := congrArg (List.count 0) (take_zero l i hc)
      rw [List.count_append, List.count_cons, List.count_eq_zero.2 hn, h] at this
      simp at this
      omega
theorem lib_split (l : List UInt8) : Lib.splitB (mkS [0]) 0 (Lib.countB (mkS l) (mkS [0])) (mkS l) = (piecesZ l).map mkS := by
  have h := Lib.splitB_data (mkS [0]) 0 (Lib.countB (mkS l) (mkS [0])) (mkS l)
  have hc : Lib.countB (mkS l) (mkS [0]) = l.count 0 := by
    show Lib.count (mkS l).data.toList (mkS [0]).data.toList = _
    rw [mkS_list, mkS_list, Lib.count_one]
  rw [mkS_list, mkS_list, hc, splitK_pieces _ l rfl] at h
  rw [hc, ← h, List.map_map]
  conv => lhs; rw [← List.map_id (Lib.splitB (mkS [0]) 0 (List.count 0 l) (mkS l))]
  exact List.map_congr_left fun x _ => (mkS_self x).symm

theorem genSplitZ_any (l : List UInt8) (hl : l.length ≤ 1000000) (w : World) :
    Calls Tryz.prog 24 #[.string (mkS l), .string (mkS [0]), .int .i64 0, .int .i64 (-1)] w fun e w' =>
      e = .returned (.slice (some ⟨w.heap.size, 0, none⟩) (piecesZ l).length (piecesZ l).length) ∧ w' = w.alloc (.cells ((piecesZ l).map encS).toArray 9) := by
  have h1 : 1 ≤ (mkS [0]).size := by rw [mkS_size]; simp
  have hle := Lib.countB_le (mkS [0]) h1 (mkS l).size (mkS l) (Nat.le_refl _)
  have hlen := Lib.splitB_all (mkS [0]) h1 0 _ (mkS l) rfl
  have hp := lib_split l
  have hpl : (piecesZ l).length = Lib.countB (mkS l) (mkS [0]) + 1 := by rw [← hlen, hp, List.length_map]
  have hcl : Lib.countB (mkS l) (mkS [0]) ≤ 1000000 := by have := mkS_size l; omega
  have c := Any.strings_genSplit_core (P := Tryz.prog) Tryz.lays221 (by kernel_rfl) (mkS l) (mkS [0]) 0 (-1) (Lib.countB (mkS l) (mkS [0]) + 1) w (by rw [mkS_size]; omega) h1 (Nat.zero_le _)
    (fun x c _ => by
      have h := Tryz.strings_Index_one x 0 (w.alloc (.cells c 9))
      refine h.mono fun e w' ⟨he, hw⟩ => ⟨?_, hw⟩
      rw [he]
      have : Lib.indexB x (mkS [0]) = Lib.indexByte x.data.toList 0 := by
        show Lib.index x.data.toList (mkS [0]).data.toList = _
        rw [mkS_list, index_zero]
      rw [this])
    (by
      have h := Tryz.strings_Count_one (mkS l) 0 w
      refine h.mono fun e w' ⟨he, hw⟩ => ⟨?_, hw⟩
      rw [he]
      have : Lib.countB (mkS l) (mkS [0]) = Lib.countByte (mkS l).data.toList 0 := by
        show Lib.count (mkS l).data.toList (mkS [0]).data.toList = _
        rw [mkS_list, mkS_list, Lib.count_one]; rfl
      rw [this])
    (by decide) (by decide) (by rw [if_pos (by decide)]; have := mkS_size l; omega)
  rw [Nat.add_sub_cancel, hlen] at c
  have e2 : Lib.cellsOf (Lib.splitB (mkS [0]) 0 (Lib.countB (mkS l) (mkS [0])) (mkS l)) (Lib.countB (mkS l) (mkS [0]) + 1) = ((Lib.splitB (mkS [0]) 0 (Lib.countB (mkS l) (mkS [0])) (mkS l)).map Value.string).toArray := by rw [← hlen]; exact Lib.cellsOf_full _
  rw [e2, hp, List.map_map, ← hpl] at c
  exact c
theorem splitZ_any (l : List UInt8) (hl : l.length ≤ 1000000) (w : World) :
    Calls Tryz.prog 11 #[.string (mkS l), .string (mkS [0])] w fun e w' =>
      e = .returned (.slice (some ⟨w.heap.size, 0, none⟩) (piecesZ l).length (piecesZ l).length) ∧ w' = w.alloc (.cells ((piecesZ l).map encS).toArray 9) := by
  have C := Lib.hid (fun w => genSplitZ_any l hl w)
  generalize (piecesZ l).length = n at *
  generalize ((piecesZ l).map encS).toArray = cs at *
  go_enter Tryz.func11, Tryz.ntmps11
  go_wp2_with (go_at_call 24; refine (C.out _).mono ?_; rintro e w' ⟨rfl, rfl⟩)
  go_ret
  exact ⟨rfl, rfl⟩
/-- What lies in the list. -/
theorem split_cell (l : List UInt8) (w W : World) (i : Nat) (p : List UInt8) (hi : (piecesZ l)[i]? = some p) (hb : Below (w.alloc (.cells ((piecesZ l).map encS).toArray 9)).heap.size (w.alloc (.cells ((piecesZ l).map encS).toArray 9)) W) : W.cell? ⟨w.heap.size, i, none⟩ = some (.string (mkS p)) := by
  rw [hb.cell (p := ⟨w.heap.size, i, none⟩) (by simp)]
  have h2 : ((piecesZ l).map encS)[i]? = some (encS p) := by rw [List.getElem?_map, hi]; rfl
  simp
  simpa using h2
end Go.Proofs.YtapfkjdkpcgoiaaGreatDoor
