/- Gz: what the texts of the name hold, joined. -/
import Derived.Test.YthnonmniponahaaGreatDoorQGw
import Derived.Test.YthnonmniponahaaGreatDoorQBr
set_option linter.unusedSimpArgs false
set_option linter.unusedVariables false
section
/- member.writeGnu, at any valid member. -/
namespace Go.Proofs.YthnonmniponahaaGreatDoor
open Go.RowKit Go.Joins
set_option linter.unusedVariables false

theorem writeGnu_any (e : EntL) (hr : rightE e = true) (ad : Option Addr) (cap : Nat) (ho : Held e) (hdl : e.data.length ≤ 5000) (hc : e.map.length ≤ cap) (w : World) (hM : PiecesAt w ad e.map) :
    Calls Tryz.prog 50 #[entV e (.slice ad e.map.length cap)] w fun r w' => r = .returned (.tuple #[.string (mkS (gnuF e).1), errV (gnuF e).2]) ∧ Below w.heap.size w w' := by
  have hx := right_txt hr
  have hn : e.name.length ≤ 1000 := by have := (txtOk_iff.1 hx.2.1).1; omega
  have hl : e.link.length ≤ 1000 := by have := (txtOk_iff.1 hx.2.2.1).1; omega
  have hk := kind_nz hr
  by_cases h0 : e.nano = 0
  · have hsm : sparseE e = true → Octs e.map ∧ e.map.length ≤ 20 ∧ 0 ≤ e.size ∧ e.size ≤ 8589934591 := fun hsp => by
      have hk48 : e.kind = 48 := by
        by_cases hh : e.kind = 48
        · exact hh
        · have := (right_other hr hh).2.2.2; rw [hsp] at this; cases this
      obtain ⟨⟨z1, z2⟩, hmr⟩ := right_file hr hk48
      obtain ⟨hm1, hm2⟩ := mapRight_parts (by omega) (hmr hsp).1
      exact ⟨fun p hp => by have := hm2 p hp; omega, hm1, z1, by omega⟩
    rcases whole_two 3 (gnuRaw e) ((storedE e).take 100) (e.link.take 100) e.data with ⟨X, hX⟩ | hX
    · have hX : gnuX e = (X, 0) := hX
      have hG : gnuF e = (longF 75 e.link ++ (longF 76 (storedE e) ++ (if sparseE e = true then holesF X e else X)), 0) := by
        unfold gnuF
        rw [if_neg (fun h => h h0), hX, if_neg (by simp)]
      rw [hG]
      cases hsp : sparseE e with
      | true =>
        obtain ⟨o1, o2, o3, o4⟩ := hsm hsp
        exact writeGnu_sparse_ok e hk ad cap ho hl hn o1 o2 hc ⟨o3, o4⟩ hdl hsp h0 X hX w hM
      | false => exact writeGnu_dense_ok e hk ad cap ho hl hn hdl hsp h0 X hX w
    · have hX : gnuX e = ([], 2) := hX
      have hG : gnuF e = ([], 2) := by
        unfold gnuF
        rw [if_neg (fun h => h h0), hX, if_pos (by simp)]
      rw [hG]
      cases hsp : sparseE e with
      | true => exact writeGnu_sparse_bad e hk ad cap ho hl hn hdl hsp h0 hX w
      | false => exact writeGnu_dense_bad e hk ad cap ho hl hn hdl hsp h0 hX w
  · exact writeGnu_nano e ad cap h0 w
end Go.Proofs.YthnonmniponahaaGreatDoor
end
