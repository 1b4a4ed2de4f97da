/- The law BlockSwap: its walk. -/
import Derived.Test.YtananpcpkjohcaaDoorBlocked
import Derived.BigRegion
namespace Go.Proofs.YtananpcpkjohcaaDoor
open Go.RowKit
set_option linter.unusedVariables false
set_option linter.unusedSimpArgs false

/-- A block whose first cells are these bytes. -/
def bytesAt (w : World) (b : Nat) (l : List UInt8) : Prop := ∀ j, j < l.length → w.cell? ⟨b, j, none⟩ = some (.int .u8 (bAt l j)) ∧ w.frozen? ⟨b, j, none⟩ = false

theorem bytesAt_new (w : World) (e : TypeId) (l : List UInt8) : bytesAt (Lib.bytesWorld w e (mkS l)) w.heap.size l := by
  intro j hj
  refine ⟨?_, ?_⟩
  · have := Lib.bytesWorld_cell w e (mkS l) j (by rw [mkS_size]; exact hj)
    rw [mkS_list] at this
    exact this
  · unfold World.frozen?
    rw [Lib.bytesWorld_at_new]
    have : j < (Lib.bytesCells w e (mkS l)).size := by
      unfold Lib.bytesCells
      rw [Array.size_append, Array.size_map]
      have : (mkS l).data.size = l.length := mkS_size l
      omega
    simp; omega
theorem bytesAt_set {w : World} {b : Nat} {l : List UInt8} (h : bytesAt w b l) (j : Nat) (c : UInt8) (v : Int) (hv : v = (c.toNat : Int)) (hj : j < l.length) : bytesAt (w.setCell ⟨b, j, none⟩ (.int .u8 v)) b (l.set j c) := by
  intro k hk
  rw [List.length_set] at hk
  obtain ⟨h1, h2⟩ := h k hk
  refine ⟨?_, by rw [World.frozen?_setCell]; exact h2⟩
  by_cases e : k = j
  · subst e
    rw [World.cell?_setCell_same _ _ _ h1, bAt_set_eq l k c hj, hv]
  · rw [World.cell?_setCell_other _ _ _ _ (by intro he; injection he with _ he; omega), bAt_set_ne l j k c e]
    exact h1
theorem bytesAt_conv {w : World} {b : Nat} {l : List UInt8} (h : bytesAt w b l) (n cap : Nat) (hn : l.length = n) : (convert 55 9 (.slice (some ⟨b, 0, none⟩) n cap)).run Tryd.prog w = .ok (.string (mkS l)) w := by
  have := run_convert_bytes_arg (P := Tryd.prog) w 55 5 Tryd.underlying55 Tryd.underlying5 b 0 n cap (l.map fun c => (c.toNat : Int)) (by rw [List.length_map]; exact hn) (fun i hi => by
    rw [show 0 + i = i by omega, (h i (by omega)).1]
    unfold bAt
    rw [List.getD_eq_getElem?_getD, List.getD_eq_getElem?_getD, List.getElem?_map]
    rw [List.getElem?_eq_getElem (by omega)]; rfl) 9 Tryd.underlying9
  rw [this]
  have e : strOfNums (l.map fun c => (c.toNat : Int)) = mkS l := by
    rw [← mkS_self (strOfNums _), strOf_list, List.map_map]
    have hid : (u8 ∘ fun c : UInt8 => (c.toNat : Int)) = id := by
      funext c
      simp only [Function.comp, u8, Int.toNat_natCast, id, UInt8.ofNat_toNat]
    rw [hid, List.map_id]
  rw [e]

set_option maxRecDepth 100000 in
set_option maxHeartbeats 2000000 in
theorem blockSwap_walk (a0 : ByteArray) (w0 : a0.size ≤ maxLen) (a1 : Int) (w1 : (Lit.int .i64 a1).wf = true) (a2 : Int) (w2 : (Lit.int .i64 a2).wf = true) (w : World) :
    Calls Tryd.prog 16 #[.string a0, .int .i64 a1, .int .i64 a2] w fun e w' => e = .returned (.bool true) ∧ Below w.heap.size w w' := by
  have hm : a0.size ≤ 9223372036854775807 := by unfold maxLen at w0; omega
  clear w0 w1 w2
  by_cases hlen : (600 : Int) < (a0.size : Int)
  · go_enter Tryd.func16, Tryd.ntmps16
    go_wp2_with (first
      | (go_at_call 44; refine (blocked_true _).mono ?_; rintro x w1 ⟨rfl, hb1⟩)
      | (go_at_call 45; refine (header_long _ _ hm hlen).mono ?_; rintro x w2 ⟨rfl, hw⟩; replace hw := hw.symm; subst hw))
    go_ret
    exact ⟨rfl, hb1⟩
  · obtain ⟨l, rfl⟩ : ∃ l, a0 = mkS l := ⟨a0.data.toList, (mkS_self a0).symm⟩
    have hsz := mkS_size l
    rw [hsz] at hlen hm
    have hl : l.length ≤ 600 := by omega
    obtain ⟨p1, p2⟩ := pickF_range a1 148 (by omega)
    obtain ⟨p3, p4⟩ := pickF_range a2 356 (by omega)
    have c1 := fun w => pick_any a1 148 w (by omega) (by omega)
    have c2 := fun w => pick_any a2 356 w (by omega) (by omega)
    have c3 := fun w => header_any l w hl
    obtain ⟨A, hA⟩ := Int.eq_ofNat_of_zero_le p1
    obtain ⟨B, hB⟩ := Int.eq_ofNat_of_zero_le p3
    rw [hA] at c1 p1 p2
    rw [hB] at c2 p3 p4
    have hA2 : A < 148 := by omega
    have hB2 : B < 356 := by omega
    have hT := sealL_length _ (headL_length l)
    have hswap := rightL_swap _ (headL_length l) A (156 + B)
    generalize sealL (headL l) = T at *
    have hgA : T[A]? = some (T[A]'(by omega)) := List.getElem?_eq_getElem (by omega)
    have hgB : T[156 + B]? = some (T[156 + B]'(by omega)) := List.getElem?_eq_getElem (by omega)
    generalize T[A]'(by omega) = ca at hgA
    generalize T[156 + B]'(by omega) = cb at hgB
    have hbA : bAt T A = (ca.toNat : Int) := by unfold bAt; rw [List.getD_eq_getElem?_getD, hgA]; rfl
    have hbB : bAt T (156 + B) = (cb.toNat : Int) := by unfold bAt; rw [List.getD_eq_getElem?_getD, hgB]; rfl
    have hr := hswap ca cb hA2 (by omega) (by omega) hgA hgB
    have c4 := fun w => right_mkS _ true (iff_of_true rfl hr) (by rw [List.length_set, List.length_set]; exact hT) w
    have C1 := Lib.hid c1
    have C2 := Lib.hid c2
    have C3 := Lib.hid c3
    have C4 := Lib.hid c4
    have HT := Lib.hid hT
    have HA := Lib.hid hbA
    have HB := Lib.hid hbB
    have hTs : (mkS T).size = 512 := by rw [mkS_size, hT]
    clear c1 c2 c3 c4 hlen hswap hr hgA hgB hT hbA hbB hA hB p1 p2 p3 p4
    have hcv := fun w => Lib.run_convert_string_bytes (P := Tryd.prog) w 9 55 5 (mkS T) Tryd.underlying9 Tryd.underlying55 Tryd.underlying5
    rw [hTs] at hcv
    have Hcv := Lib.hid hcv
    clear hcv
    go_enter Tryd.func16, Tryd.ntmps16
    go_wp2_with (first
      | (go_at_call 44; refine (blocked_true _).mono ?_; rintro x w1 ⟨rfl, hb1⟩)
      | (go_at_call 45; refine (C3.out _).mono ?_; rintro x w2 ⟨rfl, hb2⟩))
    refine (C1.out _).mono ?_; rintro x w9 ⟨rfl, hw⟩; replace hw := hw.symm; subst hw
    go_wp2_with fail
    refine (C2.out _).mono ?_; rintro x w9 ⟨rfl, hw⟩; replace hw := hw.symm; subst hw
    have hbb := chain hb1 hb2
    have hcv2 := Hcv.out w2
    have hbn := bytesAt_new w2 5 T
    have hbl := below_bytesWorld w2 5 (mkS T)
    generalize Lib.bytesWorld w2 5 (mkS T) = w3 at hcv2 hbn hbl
    generalize grownCap w2 512 0 5 = cap at hcv2
    have hbb3 := chain hbb hbl
    have hcA := (hbn A (by rw [HT.out]; omega)).1
    have hfA := (hbn A (by rw [HT.out]; omega)).2
    have hcB := (hbn (156 + B) (by rw [HT.out]; omega)).1
    have hfB := (hbn (156 + B) (by rw [HT.out]; omega)).2
    rw [HA.out] at hcA
    rw [HB.out] at hcB
    have hge := hbb.size
    have Hbn := Lib.hid hbn
    clear hbn hbb hb1 hb2 hbl
    generalize w2.heap.size = b at *
    go_wp2_with fail
    go_region
    have hs1 := bytesAt_set Hbn.out A cb _ rfl (by rw [HT.out]; omega)
    have hs2 := bytesAt_set hs1 (156 + B) ca _ rfl (by rw [List.length_set, HT.out]; omega)
    have hbb4 := ((hbb3.setCell (p := ⟨b, A, none⟩) hge (.int .u8 (cb.toNat : Int))).setCell (p := ⟨b, 156 + B, none⟩) hge (.int .u8 (ca.toNat : Int))).drew
    have hcv3 := bytesAt_conv (w := ((w3.setCell ⟨b, A, none⟩ (.int .u8 (cb.toNat : Int))).setCell ⟨b, 156 + B, none⟩ (.int .u8 (ca.toNat : Int))).drew) hs2 512 cap (by rw [List.length_set, List.length_set]; exact HT.out)
    clear hcv2 hcA hcB hfA hfB hs1 hs2
    generalize ((w3.setCell ⟨b, A, none⟩ (.int .u8 (cb.toNat : Int))).setCell ⟨b, 156 + B, none⟩ (.int .u8 (ca.toNat : Int))).drew = w4 at *
    go_wp2_with fail
    refine (C4.out _).mono ?_; rintro x w5 ⟨rfl, hb5⟩
    go_wp2_with fail
    go_ret
    exact ⟨rfl, chain hbb4 hb5⟩
end Go.Proofs.YtananpcpkjohcaaDoor
