/- strings.Split at a slash. -/
import Derived.Test.YtlgfdlfijfcfbaaDoorIdx
import Derived.Test.YtlgfdlfijfcfbaaDoorTx
import Derived.Lib.IndexBytes
namespace Go.Proofs.YtlgfdlfijfcfbaaDoor
open Go.RowKit Go.Shelf Go.Joins
set_option linter.unusedVariables false

theorem index_slash (l : List UInt8) : Lib.index l [47] = Lib.indexByte l 47 := Lib.index_one l 47
theorem splitK_pieces : ∀ (k : Nat) (l : List UInt8), l.count 47 = k → Lib.splitK [47] 0 k l = piecesL l
  | 0, l, h => by rw [pieces_one l (List.count_eq_zero.1 h)]; rfl
  | k + 1, l, h => by
    rcases first_cases l with ⟨hn, _⟩ | ⟨i, hi, hc, hn, he⟩
    · rw [List.count_eq_zero.2 hn] at h; omega
    · rw [Lib.splitK, index_slash, he, if_neg (by simp), pieces_at l i hc hn]
      have e1 : ((i : Int).toNat + 0) = i := by simp
      have e2 : (i : Int).toNat + ([47] : List UInt8).length = i + 1 := by simp
      rw [e1, e2, splitK_pieces k (l.drop (i + 1)) ?_]
      have := congrArg (List.count 47) (take_slash l i hc)
      rw [List.count_append, List.count_cons, List.count_eq_zero.2 hn, h] at this
      simp at this
      omega
theorem lib_split (l : List UInt8) : Lib.splitB (mkS [47]) 0 (Lib.countB (mkS l) (mkS [47])) (mkS l) = (piecesL l).map mkS := by
  have h := Lib.splitB_data (mkS [47]) 0 (Lib.countB (mkS l) (mkS [47])) (mkS l)
  have hc : Lib.countB (mkS l) (mkS [47]) = l.count 47 := by
    show Lib.count (mkS l).data.toList (mkS [47]).data.toList = _
    rw [mkS_list, mkS_list, Lib.count_one]
  rw [mkS_list, mkS_list, hc, splitK_pieces _ l rfl] at h
  rw [hc, ← h, List.map_map]
  conv => lhs; rw [← List.map_id (Lib.splitB (mkS [47]) 0 (List.count 47 l) (mkS l))]
  exact List.map_congr_left fun x _ => (mkS_self x).symm

theorem genSplit_any (l : List UInt8) (hl : l.length ≤ 1000000) (w : World) :
    Calls Tryd.prog 44 #[.string (mkS l), .string (mkS [47]), .int .i64 0, .int .i64 (-1)] w fun e w' =>
      e = .returned (.slice (some ⟨w.heap.size, 0, none⟩) (piecesL l).length (piecesL l).length) ∧ w' = w.alloc (.cells ((piecesL l).map encS).toArray 9) := by
  have h1 : 1 ≤ (mkS [47]).size := by rw [mkS_size]; simp
  have hle := Lib.countB_le (mkS [47]) h1 (mkS l).size (mkS l) (Nat.le_refl _)
  have hlen := Lib.splitB_all (mkS [47]) h1 0 _ (mkS l) rfl
  have hp := lib_split l
  have hpl : (piecesL l).length = Lib.countB (mkS l) (mkS [47]) + 1 := by rw [← hlen, hp, List.length_map]
  have hcl : Lib.countB (mkS l) (mkS [47]) ≤ 1000000 := by have := mkS_size l; omega
  have c := Any.strings_genSplit_core (P := Tryd.prog) Tryd.lays221 (by kernel_rfl) (mkS l) (mkS [47]) 0 (-1) (Lib.countB (mkS l) (mkS [47]) + 1) w (by rw [mkS_size]; omega) h1 (Nat.zero_le _)
    (fun x c _ => by
      have h := Tryd.strings_Index_one x 47 (w.alloc (.cells c 9))
      refine h.mono fun e w' ⟨he, hw⟩ => ⟨?_, hw⟩
      rw [he]
      have : Lib.indexB x (mkS [47]) = Lib.indexByte x.data.toList 47 := by
        show Lib.index x.data.toList (mkS [47]).data.toList = _
        rw [mkS_list, index_slash]
      rw [this])
    (by
      have h := Tryd.strings_Count_one (mkS l) 47 w
      refine h.mono fun e w' ⟨he, hw⟩ => ⟨?_, hw⟩
      rw [he]
      have : Lib.countB (mkS l) (mkS [47]) = Lib.countByte (mkS l).data.toList 47 := by
        show Lib.count (mkS l).data.toList (mkS [47]).data.toList = _
        rw [mkS_list, mkS_list, Lib.count_one]; rfl
      rw [this])
    (by decide) (by decide) (by rw [if_pos (by decide)]; have := mkS_size l; omega)
  rw [Nat.add_sub_cancel, hlen] at c
  have e2 : Lib.cellsOf (Lib.splitB (mkS [47]) 0 (Lib.countB (mkS l) (mkS [47])) (mkS l)) (Lib.countB (mkS l) (mkS [47]) + 1) = ((Lib.splitB (mkS [47]) 0 (Lib.countB (mkS l) (mkS [47])) (mkS l)).map Value.string).toArray := by rw [← hlen]; exact Lib.cellsOf_full _
  rw [e2, hp, List.map_map, ← hpl] at c
  exact c
theorem split_any (l : List UInt8) (hl : l.length ≤ 1000000) (w : World) :
    Calls Tryd.prog 32 #[.string (mkS l), .string (mkS [47])] w fun e w' =>
      e = .returned (.slice (some ⟨w.heap.size, 0, none⟩) (piecesL l).length (piecesL l).length) ∧ w' = w.alloc (.cells ((piecesL l).map encS).toArray 9) := by
  have C := Lib.hid (fun w => genSplit_any l hl w)
  generalize (piecesL l).length = n at *
  generalize ((piecesL l).map encS).toArray = cs at *
  go_enter Tryd.func32, Tryd.ntmps32
  go_wp2_with (go_at_call 44; refine (C.out _).mono ?_; rintro e w' ⟨rfl, rfl⟩)
  go_ret
  exact ⟨rfl, rfl⟩
theorem split_sl (l : List UInt8) (w : World) : SlIs (w.alloc (.cells ((piecesL l).map encS).toArray 9)) (.slice (some ⟨w.heap.size, 0, none⟩) (piecesL l).length (piecesL l).length) (piecesL l) :=
  ⟨_, _, rfl, Nat.le_refl _, .inl ⟨w.heap.size, 0, rfl, by simp, fun i x hi => by
    have h2 : ((piecesL l).map encS)[i]? = some (encS x) := by rw [List.getElem?_map, hi]; rfl
    have h3 : (w.alloc (.cells ((piecesL l).map encS).toArray 9)).heap[w.heap.size]? = some (.cells ((piecesL l).map encS).toArray 9) := World.alloc_heap_new w _
    simp only [World.cell?, h3, Nat.zero_add]
    simpa using h2⟩⟩
end Go.Proofs.YtlgfdlfijfcfbaaDoor
