/- Lg: what the texts of the name hold, joined. -/
import Derived.Test.YthnonmniponahaaGreatDoorQLp
import Derived.Test.YthnonmniponahaaGreatDoorQRe
import Derived.Test.YthnonmniponahaaGreatDoorQMw
set_option linter.unusedSimpArgs false
set_option linter.unusedVariables false
section
/- The law MemberGnu: its walk. -/
namespace Go.Proofs.YthnonmniponahaaGreatDoor
open Go.RowKit Go.Joins
set_option linter.unusedVariables false
set_option linter.unusedSimpArgs false

theorem refWrite_3 (e : EntL) (ad : Option Addr) (cap : Nat) (ho : EntOk e) (hs : Small e) (w : World) (hM : PiecesAt w ad e.map) :
    Calls Tryz.prog 48 #[.int .i64 3, entV e (.slice ad e.map.length cap)] w fun r w' => r = .returned (.tuple #[.string (mkS (eWriteF 3 e).1), .int .i64 (eWriteF 3 e).2]) ∧ Below w.heap.size w w' := by
  have hd := hs.data
  cases hr : rightE e with
  | true =>
    have h : eWriteF 3 e = gnuF e := by unfold eWriteF; rw [if_neg (by rw [hr]; simp), if_pos rfl]
    rw [h]
    exact refWrite_gnu e ad cap ho hr (by omega) w (gnuF e) hM fun W hb => refGnu_any e hr ad cap (hs.held ho) (by omega) W (hM.below hb)
  | false =>
    have h : eWriteF 3 e = ([], 1) := by unfold eWriteF; rw [if_pos (.inr (.inr hr))]
    rw [h]
    exact refWrite_arg 3 e ad cap ho (.inr (.inr hr)) w hM
theorem write_3 (e : EntL) (ad : Option Addr) (cap : Nat) (ho : EntOk e) (hs : Small e) (hc : e.map.length ≤ cap) (w : World) (hM : PiecesAt w ad e.map) :
    Calls Tryz.prog 23 #[.int .i64 3, entV e (.slice ad e.map.length cap)] w fun r w' => r = .returned (.tuple #[.string (mkS (eWriteF 3 e).1), errV (eWriteF 3 e).2]) ∧ Below w.heap.size w w' := by
  have hd := hs.data
  cases hr : rightE e with
  | true =>
    have h : eWriteF 3 e = gnuF e := by unfold eWriteF; rw [if_neg (by rw [hr]; simp), if_pos rfl]
    rw [h]
    exact mw_gnu e ad cap ho hr w (gnuF e) hM fun W hb => writeGnu_any e hr ad cap (hs.held ho) (by omega) hc W (hM.below hb)
  | false =>
    have h : eWriteF 3 e = ([], 1) := by unfold eWriteF; rw [if_pos (.inr (.inr hr))]
    rw [h]
    exact mw_arg 3 e ad cap ho (.inr (.inr hr)) w hM
set_option maxRecDepth 100000 in
set_option maxHeartbeats 4000000 in
theorem memberGnu_walk (e : EntL) (ad : Option Addr) (cap : Nat) (ho : EntOk e) (hc : e.map.length ≤ cap) (w : World) (hM : PiecesAt w ad e.map) (hg : ErrLaid w) :
    Calls Tryz.prog 5 #[entV e (.slice ad e.map.length cap)] w fun r w' => r = .returned (.bool true) ∧ Below w.heap.size w w' := by
  have HE := EntAt.new w e (.slice ad e.map.length cap) 28
  have hB := Lib.hid (below_alloc1 w (.cells (entC e (.slice ad e.map.length cap)) 28))
  have CP := Lib.hid (fun W (h : Below w.heap.size w W) => plainOf_of 3 e ad cap ho W (hg.below h) (eWriteF 3 e) (fun hs W2 h2 => refWrite_3 e ad cap ho hs W2 (hM.below (h.trans (h2.mono h.size)))) (fun hs W2 h2 => write_3 e ad cap ho hs hc W2 (hM.below (h.trans (h2.mono h.size)))))
  clear ho hc hg hM
  unfold entC at HE hB
  unfold entV at CP ⊢
  generalize e.map.length = n at *
  obtain ⟨c0, c1, c2, c3, c4, c5, c6, c7, c8, c9, c10, c11, c12, c13, c14⟩ := HE
  go_enter Tryz.func5, Tryz.ntmps5
  go_wp2_with (first
    | (go_at_call 19; (with_reducible refine (CP.out _ hB.out).mono ?_); rintro r w2 ⟨rfl, h2⟩; have hB2 := Lib.hid (hB.out.trans (h2.mono hB.out.size)); clear h2)
    | fail)
  go_ret
  exact ⟨rfl, hB2.out⟩
end Go.Proofs.YthnonmniponahaaGreatDoor
end
