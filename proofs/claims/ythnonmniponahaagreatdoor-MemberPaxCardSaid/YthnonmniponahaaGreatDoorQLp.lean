/- Lp: what the texts of the name hold, joined. -/
import Derived.Test.YthnonmniponahaaGreatDoorQEl
import Derived.Test.YthnonmniponahaaGreatDoorQBr
import Derived.Test.YthnonmniponahaaGreatDoorQWo
set_option linter.unusedSimpArgs false
set_option linter.unusedVariables false
section
/- The law's plainOf: a member told in one dialect, the program's way and the document's. -/
namespace Go.Proofs.YthnonmniponahaaGreatDoor
open Go.RowKit Go.Joins
set_option linter.unusedVariables false
set_option linter.unusedSimpArgs false

theorem plain_bare (k : Int) (w : World) (hg : ErrLaid w) :
    Calls Tryz.prog 49 #[errV k, .int .i64 k] w fun e w' => e = .returned (.bool true) ∧ Below w.heap.size w w' := by
  unfold errV
  by_cases h : k = 0
  · rw [if_pos h, h]
    exact (bare_nil w).mono fun e w' ⟨he, hw⟩ => ⟨he, by rw [hw]; exact Below.refl _ _⟩
  · rw [if_neg h]
    exact bare_err k w hg
set_option maxRecDepth 100000 in
set_option maxHeartbeats 8000000 in
theorem plainOf_of (d : Int) (e : EntL) (ad : Option Addr) (cap : Nat) (ho : EntOk e) (w : World) (hg : ErrLaid w) (S : List UInt8 × Int)
    (hR : Small e → ∀ W, Below w.heap.size w W → Calls Tryz.prog 48 #[.int .i64 d, entV e (.slice ad e.map.length cap)] W fun r w' => r = .returned (.tuple #[.string (mkS S.1), .int .i64 S.2]) ∧ Below W.heap.size W w')
    (hW : Small e → ∀ W, Below w.heap.size w W → Calls Tryz.prog 23 #[.int .i64 d, entV e (.slice ad e.map.length cap)] W fun r w' => r = .returned (.tuple #[.string (mkS S.1), errV S.2]) ∧ Below W.heap.size W w') :
    Calls Tryz.prog 19 #[.int .i64 d, entV e (.slice ad e.map.length cap)] w fun r w' => r = .returned (.bool true) ∧ Below w.heap.size w w' := by
  obtain ⟨b, hs, hl⟩ := large_law e ho ad cap
  have CL := Lib.hid hl
  have HE := Lib.hid (EntAt.new w e (.slice ad e.map.length cap) 28)
  have hB := Lib.hid (below_alloc1 w (.cells (entC e (.slice ad e.map.length cap)) 28))
  have HG := Lib.hid hg
  obtain ⟨s, k⟩ := S
  cases b with
  | true =>
    clear hs hR hW hg hl ho
    unfold entC at HE hB
    unfold entV at CL ⊢
    generalize e.map.length = n at *
    go_enter Tryz.func19, Tryz.ntmps19
    go_wp2_with (first
      | (go_at_call 47; (with_reducible refine (CL.out _).mono ?_); rintro r w2 ⟨rfl, h2⟩; have hB2 := Lib.hid (hB.out.trans (h2.mono hB.out.size)); clear h2)
      | fail)
    go_ret
    exact ⟨rfl, hB2.out⟩
  | false =>
    have CR := Lib.hid (hR (hs rfl))
    have CW := Lib.hid (hW (hs rfl))
    have CB := Lib.hid (fun W (h : ErrLaid W) => plain_bare k W h)
    clear hs hR hW hg hl ho
    dsimp only at CR CW
    generalize errV k = K at *
    unfold entC at HE hB
    unfold entV at CL CR CW ⊢
    generalize e.map.length = n at *
    go_enter Tryz.func19, Tryz.ntmps19
    go_wp2_with (first
      | (go_at_call 47; (with_reducible refine (CL.out _).mono ?_); rintro r w2 ⟨rfl, h2⟩; have hB2 := Lib.hid (hB.out.trans (h2.mono hB.out.size)); have hE2 := Lib.hid (HE.out.below h2 HE.out.lt); clear h2; obtain ⟨c0, c1, c2, c3, c4, c5, c6, c7, c8, c9, c10, c11, c12, c13, c14⟩ := id hE2.out)
      | (go_at_call 48; (with_reducible refine (CR.out _ hB2.out).mono ?_); rintro r w3 ⟨rfl, h2⟩; have hB3 := Lib.hid (hB2.out.trans (h2.mono hB2.out.size)); have hE3 := Lib.hid (hE2.out.below h2 hE2.out.lt); clear h2 c0 c1 c2 c3 c4 c5 c6 c7 c8 c9 c10 c11 c12 c13 c14; obtain ⟨c0, c1, c2, c3, c4, c5, c6, c7, c8, c9, c10, c11, c12, c13, c14⟩ := id hE3.out)
      | (go_at_call 23; (with_reducible refine (CW.out _ hB3.out).mono ?_); rintro r w4 ⟨rfl, h2⟩; have hB4 := Lib.hid (hB3.out.trans (h2.mono hB3.out.size)); clear h2 c0 c1 c2 c3 c4 c5 c6 c7 c8 c9 c10 c11 c12 c13 c14)
      | (go_at_call 49; (with_reducible refine (CB.out _ (HG.out.below hB4.out)).mono ?_); rintro r w5 ⟨rfl, h2⟩; have hB5 := Lib.hid (hB4.out.trans (h2.mono hB4.out.size)); clear h2)
      | fail)
    go_ret
    exact ⟨rfl, hB5.out⟩
theorem Small.held {e : EntL} (h : Small e) (ho : EntOk e) : Held e := by
  have h1 := h.texts
  have h2 := h.data
  exact ⟨ho.ints, by omega, by omega, by omega, by omega, by omega⟩
end Go.Proofs.YthnonmniponahaaGreatDoor
end
