/- Rz: what the texts of the name hold, joined. -/
import Derived.Test.YthnonmniponahaaGreatDoorQRa
import Derived.Test.YthnonmniponahaaGreatDoorQRb
set_option linter.unusedSimpArgs false
set_option linter.unusedVariables false
section
/- The reference's EntryWrite at V7, Ustar and Pax. -/
namespace Go.Proofs.YthnonmniponahaaGreatDoor
open Go.RowKit Go.Joins
set_option linter.unusedVariables false
set_option linter.unusedSimpArgs false

theorem refOld_any (d : Nat) (hd : d = 1 ∨ d = 2) (e : EntL) (ad : Option Addr) (cap : Nat) (ho : EntOk e) (hh : Held e) (hr : rightE e = true) (hdl : e.data.length ≤ 5000) (w : World) (hM : PiecesAt w ad e.map) :
    Calls Tryz.prog 48 #[.int .i64 (d : Int), entV e (.slice ad e.map.length cap)] w fun r w' => r = .returned (.tuple #[.string (mkS (oldF d e).1), .int .i64 (oldF d e).2]) ∧ Below w.heap.size w w' := by
  have hp := (St.rightB_true _ _ (right_num hr).2.2.2.1).2.2.1
  have hx := right_txt hr
  have hn : e.name.length ≤ 1000 := by have := (txtOk_iff.1 hx.2.1).1; omega
  have hl : e.link.length ≤ 1000 := by have := (txtOk_iff.1 hx.2.2.1).1; omega
  have hsl := storedE_len e
  have hk := kind_nz hr
  have hri := hh.raw
  have CG := fun (D : Nat) (h1 : 1 ≤ D ∧ D ≤ 4) (k : UInt8) (h0 : k ≠ 0) (W : World) => refWhole_any D h1 { rawE e with kind := k } (storedE e) e.link e.data h0 (by omega) (by omega) (by have := hh.user; show e.user.length ≤ _; omega) (by have := hh.group; show e.group.length ≤ _; omega) (by omega) hri W
  have herr : oldF d e = ([], 2) → (mkS (oldF d e).1 = ⟨#[]⟩ ∧ (oldF d e).2 = 2) := fun h => by rw [h]; exact ⟨rfl, rfl⟩
  cases hsp : sparseE e with
  | true =>
    have ho2 : oldF d e = ([], 2) := by unfold oldF; rw [if_pos (.inl hsp)]
    rw [ho2]
    rcases hd with rfl | rfl
    · by_cases h53 : e.kind = 53
      · exact refOld_sparse1d e ad cap ho hr hdl hsp h53 w hM
      · exact refOld_sparse1f e ad cap ho hr hdl hsp h53 w hM
    · by_cases h53 : e.kind = 53
      · exact refOld_sparse2d e ad cap ho hr hdl hsp h53 w hM
      · exact refOld_sparse2f e ad cap ho hr hdl hsp h53 w hM
  | false =>
    by_cases h0 : e.nano = 0
    · have h1 : ¬ (sparseE e = true ∨ e.nano ≠ 0) := by rw [hsp]; simp [h0]
      rcases hd with rfl | rfl
      · by_cases hkd : e.kind = 51 ∨ e.kind = 52 ∨ e.kind = 54
        · have ho2 : oldF 1 e = ([], 2) := by unfold oldF; rw [if_neg h1, if_pos ⟨rfl, hkd⟩]
          rw [ho2]
          exact refOld_bad1f e ad cap ho hr hdl hsp h0 hkd (by rcases hkd with h | h | h <;> rw [h] <;> decide) w hM
        · by_cases h53 : e.kind = 53
          · have ho2 : oldF 1 e = wholeF 1 { rawE e with kind := 48 } (storedE e) e.link e.data := by unfold oldF; rw [if_neg h1, if_neg (fun h => hkd h.2), if_pos ⟨rfl, h53⟩]
            rw [ho2]
            exact refOld_ok1d e ad cap ho hr hdl hsp h0 hkd h53 _ (fun W => CG 1 (by decide) 48 (by decide) W) w hM
          · have ho2 : oldF 1 e = wholeF 1 { rawE e with kind := e.kind } (storedE e) e.link e.data := by unfold oldF; rw [if_neg h1, if_neg (fun h => hkd h.2), if_neg (fun h => h53 h.2)]; rfl
            rw [ho2]
            exact refOld_ok1f e ad cap ho hr hdl hsp h0 hkd h53 _ (fun W => CG 1 (by decide) e.kind hk W) w hM
      · have ho2 : oldF 2 e = wholeF 2 { rawE e with kind := e.kind } (storedE e) e.link e.data := by unfold oldF; rw [if_neg h1, if_neg (fun h => absurd h.1 (by decide)), if_neg (fun h => absurd h.1 (by decide))]; rfl
        rw [ho2]
        by_cases h53 : e.kind = 53
        · exact refOld_ok2d e ad cap ho hr hdl hsp h0 h53 _ (fun W => CG 2 (by decide) e.kind hk W) w hM
        · exact refOld_ok2f e ad cap ho hr hdl hsp h0 h53 _ (fun W => CG 2 (by decide) e.kind hk W) w hM
    · have ho2 : oldF d e = ([], 2) := by unfold oldF; rw [if_pos (.inr h0)]
      rw [ho2]
      have hp2 : 0 < e.nano := by omega
      rcases hd with rfl | rfl
      · by_cases h53 : e.kind = 53
        · exact refOld_nano1d e ad cap ho hr hdl hsp hp2 h53 w hM
        · exact refOld_nano1f e ad cap ho hr hdl hsp hp2 h53 w hM
      · by_cases h53 : e.kind = 53
        · exact refOld_nano2d e ad cap ho hr hdl hsp hp2 h53 w hM
        · exact refOld_nano2f e ad cap ho hr hdl hsp hp2 h53 w hM
end Go.Proofs.YthnonmniponahaaGreatDoor
end
