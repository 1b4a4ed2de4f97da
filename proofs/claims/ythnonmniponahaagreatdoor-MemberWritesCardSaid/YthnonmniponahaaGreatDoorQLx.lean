/- Lx: what the texts of the name hold, joined. -/
import Derived.Test.YthnonmniponahaaGreatDoorQLg
import Derived.Test.YthnonmniponahaaGreatDoorQPx
import Derived.Test.YthnonmniponahaaGreatDoorQRx
import Derived.Test.YthnonmniponahaaGreatDoorQRz
set_option linter.unusedSimpArgs false
set_option linter.unusedVariables false
section
/- The law MemberPax: its walk. -/
namespace Go.Proofs.YthnonmniponahaaGreatDoor
open Go.RowKit Go.Joins
set_option linter.unusedVariables false
set_option linter.unusedSimpArgs false

theorem powLaid_of {W : World} (h : Lib.VarReads Tryz.prog W "internal/strconv.uint64pow10" (Lib.tabData .u64 Lib.pow10Tab)) : Px.PowLaid W := Px.powLaid_of h
theorem paxData_le {e : EntL} (hr : rightE e = true) (hdl : e.data.length ≤ 5000) : (paxData e).length ≤ 7000 := by
  unfold paxData
  cases hsp : sparseE e with
  | true =>
    have hk48 : e.kind = 48 := by
      by_cases hh : e.kind = 48
      · exact hh
      · have := (right_other hr hh).2.2.2; rw [hsp] at this; cases this
    obtain ⟨⟨z1, z2⟩, hmr⟩ := right_file hr hk48
    obtain ⟨hm1, hm2⟩ := mapRight_parts (by omega) (hmr hsp).1
    have h1 := fillL_le (linesL e.map)
    have h2 := linesT_len (l := e.map) (fun p hp => by have := hm2 p hp; omega) (by omega) e.map.length
    rw [linesT_all] at h2
    rw [if_pos rfl, List.length_append]
    omega
  | false =>
    rw [if_neg (by simp)]
    omega
theorem pax_parts {e : EntL} (hr : rightE e = true) (hdl : e.data.length ≤ 5000) : ∃ X, paxX e = (X, 0) ∧ paxF e = (extF (recsE e) ++ X, 0) := by
  have h := room_pax hr (by have := paxData_le hr hdl; omega)
  unfold paxF at h ⊢
  by_cases h1 : (paxX e).2 ≠ 0
  · rw [if_pos h1] at h
    exact absurd h (by decide)
  · refine ⟨(paxX e).1, Prod.ext rfl (Classical.not_not.1 h1), ?_⟩
    rw [if_neg h1]
theorem refWrite_4 (e : EntL) (ad : Option Addr) (cap : Nat) (ho : EntOk e) (hs : Small e) (w : World) (hp : Px.PowLaid w) (hM : PiecesAt w ad e.map) :
    Calls Tryz.prog 48 #[.int .i64 4, entV e (.slice ad e.map.length cap)] w fun r w' => r = .returned (.tuple #[.string (mkS (eWriteF 4 e).1), .int .i64 (eWriteF 4 e).2]) ∧ Below w.heap.size w w' := by
  have hd := hs.data
  cases hr : rightE e with
  | true =>
    obtain ⟨X, hX, hF⟩ := pax_parts hr (by omega)
    have h : eWriteF 4 e = (extF (recsE e) ++ X, 0) := by unfold eWriteF; rw [if_neg (by rw [hr]; simp), if_neg (by decide), if_pos rfl, hF]
    rw [h]
    exact refWrite_pax e ad cap ho hr (by omega) w (extF (recsE e) ++ X, 0) hM fun W hb => refExt_room e hr ad cap (hs.held ho) (by omega) W (hp.below hb) (hM.below hb) X hX
  | false =>
    have h : eWriteF 4 e = ([], 1) := by unfold eWriteF; rw [if_pos (.inr (.inr hr))]
    rw [h]
    exact refWrite_arg 4 e ad cap ho (.inr (.inr hr)) w hM
theorem write_4 (e : EntL) (ad : Option Addr) (cap : Nat) (ho : EntOk e) (hs : Small e) (hc : e.map.length ≤ cap) (w : World) (hp : Px.PowLaid w) (hM : PiecesAt w ad e.map) :
    Calls Tryz.prog 23 #[.int .i64 4, entV e (.slice ad e.map.length cap)] w fun r w' => r = .returned (.tuple #[.string (mkS (eWriteF 4 e).1), errV (eWriteF 4 e).2]) ∧ Below w.heap.size w w' := by
  have hd := hs.data
  cases hr : rightE e with
  | true =>
    obtain ⟨X, hX, hF⟩ := pax_parts hr (by omega)
    have h : eWriteF 4 e = (extF (recsE e) ++ X, 0) := by unfold eWriteF; rw [if_neg (by rw [hr]; simp), if_neg (by decide), if_pos rfl, hF]
    rw [h]
    exact mw_pax e ad cap ho hr w (extF (recsE e) ++ X, 0) hM fun W hb => writePax_room e hr ad cap (hs.held ho) (by omega) hc W (hp.below hb) (hM.below hb) X hX
  | false =>
    have h : eWriteF 4 e = ([], 1) := by unfold eWriteF; rw [if_pos (.inr (.inr hr))]
    rw [h]
    exact mw_arg 4 e ad cap ho (.inr (.inr hr)) w hM
/-- V7 and Ustar. -/
theorem write_12 (d : Nat) (hd : d = 1 ∨ d = 2) (e : EntL) (ad : Option Addr) (cap : Nat) (ho : EntOk e) (hs : Small e) (w : World) (hM : PiecesAt w ad e.map) :
    Calls Tryz.prog 23 #[.int .i64 (d : Int), entV e (.slice ad e.map.length cap)] w fun r w' => r = .returned (.tuple #[.string (mkS (eWriteF d e).1), errV (eWriteF d e).2]) ∧ Below w.heap.size w w' := by
  cases hr : rightE e with
  | true =>
    have h : eWriteF d e = oldF d e := by unfold eWriteF; rw [if_neg (by rw [hr]; rintro (h | h | h); omega; omega; cases h), if_neg (by omega), if_neg (by omega), Int.toNat_natCast]
    rw [h]
    exact mw_old (d : Int) (by omega) e ad cap ho hr w (oldF d e) hM fun W hb => writeOld_any d hd e (kind_nz hr) ad cap (hs.held ho) W
  | false =>
    have h : eWriteF d e = ([], 1) := by unfold eWriteF; rw [if_pos (.inr (.inr hr))]
    rw [h]
    exact mw_arg (d : Int) e ad cap ho (.inr (.inr hr)) w hM
theorem refWrite_12 (d : Nat) (hd : d = 1 ∨ d = 2) (e : EntL) (ad : Option Addr) (cap : Nat) (ho : EntOk e) (hs : Small e) (w : World) (hM : PiecesAt w ad e.map) :
    Calls Tryz.prog 48 #[.int .i64 (d : Int), entV e (.slice ad e.map.length cap)] w fun r w' => r = .returned (.tuple #[.string (mkS (eWriteF d e).1), .int .i64 (eWriteF d e).2]) ∧ Below w.heap.size w w' := by
  have hdl := hs.data
  cases hr : rightE e with
  | true =>
    have h : eWriteF d e = oldF d e := by unfold eWriteF; rw [if_neg (by rw [hr]; rintro (h | h | h); omega; omega; cases h), if_neg (by omega), if_neg (by omega), Int.toNat_natCast]
    rw [h]
    exact refOld_any d hd e ad cap ho (hs.held ho) hr (by omega) w hM
  | false =>
    have h : eWriteF d e = ([], 1) := by unfold eWriteF; rw [if_pos (.inr (.inr hr))]
    rw [h]
    exact refWrite_arg (d : Int) e ad cap ho (.inr (.inr hr)) w hM
/-- Any dialect. -/
theorem memWrite_all (d : Int) (e : EntL) (ad : Option Addr) (cap : Nat) (ho : EntOk e) (hs : Small e) (hc : e.map.length ≤ cap) (w : World) (hp : Px.PowLaid w) (hM : PiecesAt w ad e.map) :
    Calls Tryz.prog 23 #[.int .i64 d, entV e (.slice ad e.map.length cap)] w fun r w' => r = .returned (.tuple #[.string (mkS (eWriteF d e).1), errV (eWriteF d e).2]) ∧ Below w.heap.size w w' := by
  by_cases h : d < 1 ∨ 4 < d
  · have h2 : eWriteF d e = ([], 1) := by unfold eWriteF; rw [if_pos (h.imp id .inl)]
    rw [h2]
    exact mw_arg d e ad cap ho (h.imp id .inl) w hM
  · obtain rfl | rfl | rfl | rfl : d = 1 ∨ d = 2 ∨ d = 3 ∨ d = 4 := by omega
    · exact write_12 1 (.inl rfl) e ad cap ho hs w hM
    · exact write_12 2 (.inr rfl) e ad cap ho hs w hM
    · exact write_3 e ad cap ho hs hc w hM
    · exact write_4 e ad cap ho hs hc w hp hM
theorem refWrite_every (d : Int) (e : EntL) (ad : Option Addr) (cap : Nat) (ho : EntOk e) (hs : Small e) (w : World) (hp : Px.PowLaid w) (hM : PiecesAt w ad e.map) :
    Calls Tryz.prog 48 #[.int .i64 d, entV e (.slice ad e.map.length cap)] w fun r w' => r = .returned (.tuple #[.string (mkS (eWriteF d e).1), .int .i64 (eWriteF d e).2]) ∧ Below w.heap.size w w' := by
  by_cases h : d < 1 ∨ 4 < d
  · have h2 : eWriteF d e = ([], 1) := by unfold eWriteF; rw [if_pos (h.imp id .inl)]
    rw [h2]
    exact refWrite_arg d e ad cap ho (h.imp id .inl) w hM
  · obtain rfl | rfl | rfl | rfl : d = 1 ∨ d = 2 ∨ d = 3 ∨ d = 4 := by omega
    · exact refWrite_12 1 (.inl rfl) e ad cap ho hs w hM
    · exact refWrite_12 2 (.inr rfl) e ad cap ho hs w hM
    · exact refWrite_3 e ad cap ho hs w hM
    · exact refWrite_4 e ad cap ho hs w hp hM
set_option maxRecDepth 100000 in
set_option maxHeartbeats 4000000 in
theorem memberPax_walk (e : EntL) (ad : Option Addr) (cap : Nat) (ho : EntOk e) (hc : e.map.length ≤ cap) (w : World) (hM : PiecesAt w ad e.map) (hg : ErrLaid w) (hp : Px.PowLaid w) :
    Calls Tryz.prog 6 #[entV e (.slice ad e.map.length cap)] w fun r w' => r = .returned (.bool true) ∧ Below w.heap.size w w' := by
  have HE := EntAt.new w e (.slice ad e.map.length cap) 28
  have hB := Lib.hid (below_alloc1 w (.cells (entC e (.slice ad e.map.length cap)) 28))
  have CP := Lib.hid (fun W (h : Below w.heap.size w W) => plainOf_of 4 e ad cap ho W (hg.below h) (eWriteF 4 e) (fun hs W2 h2 => refWrite_4 e ad cap ho hs W2 ((hp.below h).below h2) (hM.below (h.trans (h2.mono h.size)))) (fun hs W2 h2 => write_4 e ad cap ho hs hc W2 ((hp.below h).below h2) (hM.below (h.trans (h2.mono h.size)))))
  clear ho hc hg hp hM
  unfold entC at HE hB
  unfold entV at CP ⊢
  generalize e.map.length = n at *
  obtain ⟨c0, c1, c2, c3, c4, c5, c6, c7, c8, c9, c10, c11, c12, c13, c14⟩ := HE
  go_enter Tryz.func6, Tryz.ntmps6
  go_wp2_with (first
    | (go_at_call 19; (with_reducible refine (CP.out _ hB.out).mono ?_); rintro r w2 ⟨rfl, h2⟩; have hB2 := Lib.hid (hB.out.trans (h2.mono hB.out.size)); clear h2)
    | fail)
  go_ret
  exact ⟨rfl, hB2.out⟩
set_option maxRecDepth 100000 in
set_option maxHeartbeats 4000000 in
theorem memberWrites_walk (d : Int) (wd : (Lit.int .i64 d).wf = true) (e : EntL) (ad : Option Addr) (cap : Nat) (ho : EntOk e) (hc : e.map.length ≤ cap) (w : World) (hM : PiecesAt w ad e.map) (hg : ErrLaid w) (hp : Px.PowLaid w) :
    Calls Tryz.prog 4 #[.int .i64 d, entV e (.slice ad e.map.length cap)] w fun r w' => r = .returned (.bool true) ∧ Below w.heap.size w w' := by
  have HE := EntAt.new w e (.slice ad e.map.length cap) 28
  have hB := Lib.hid (below_alloc1 w (.cells (entC e (.slice ad e.map.length cap)) 28))
  have CP := Lib.hid (fun W (h : Below w.heap.size w W) => plainOf_of d e ad cap ho W (hg.below h) (eWriteF d e) (fun hs W2 h2 => refWrite_every d e ad cap ho hs W2 ((hp.below h).below h2) (hM.below (h.trans (h2.mono h.size)))) (fun hs W2 h2 => memWrite_all d e ad cap ho hs hc W2 ((hp.below h).below h2) (hM.below (h.trans (h2.mono h.size)))))
  clear ho hc hg hp hM wd
  unfold entC at HE hB
  unfold entV at CP ⊢
  generalize e.map.length = n at *
  obtain ⟨c0, c1, c2, c3, c4, c5, c6, c7, c8, c9, c10, c11, c12, c13, c14⟩ := HE
  go_enter Tryz.func4, Tryz.ntmps4
  go_wp2_with (first
    | (go_at_call 19; (with_reducible refine (CP.out _ hB.out).mono ?_); rintro r w2 ⟨rfl, h2⟩; have hB2 := Lib.hid (hB.out.trans (h2.mono hB.out.size)); clear h2)
    | fail)
  go_ret
  exact ⟨rfl, hB2.out⟩
end Go.Proofs.YthnonmniponahaaGreatDoor
end
