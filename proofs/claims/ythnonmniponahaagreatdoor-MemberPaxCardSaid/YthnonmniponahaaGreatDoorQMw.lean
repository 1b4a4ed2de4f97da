/- Mw: what the texts of the name hold, joined. -/
import Derived.Test.YthnonmniponahaaGreatDoorQEp
import Derived.Test.YthnonmniponahaaGreatDoorQGz
set_option linter.unusedSimpArgs false
set_option linter.unusedVariables false
section
/- member.Write, dialect by dialect. -/
namespace Go.Proofs.YthnonmniponahaaGreatDoor
open Go.RowKit Go.Joins
set_option linter.unusedVariables false
set_option linter.unusedSimpArgs false

set_option maxRecDepth 100000 in
set_option maxHeartbeats 8000000 in
/-- What is not to be written. -/
theorem mw_arg (d : Int) (e : EntL) (ad : Option Addr) (cap : Nat) (ho : EntOk e) (h : d < 1 ∨ 4 < d ∨ rightE e = false) (w : World) (hM : PiecesAt w ad e.map) :
    Calls Tryz.prog 23 #[.int .i64 d, entV e (.slice ad e.map.length cap)] w fun r w' => r = .returned (.tuple #[.string (mkS []), .iface 29 (.int .i64 1)]) ∧ Below w.heap.size w w' := by
  have HM := Lib.hid (fun W (h : Below w.heap.size w W) => hM.below h)
  have CA := Lib.hid (fun W (h : Below w.heap.size w W) => rightM_any e ad cap ho W (HM.out W h))
  have hE := EntAt.new w e (.slice ad e.map.length cap) 28
  have hB := Lib.hid (below_alloc1 w (.cells (entC e (.slice ad e.map.length cap)) 28))
  unfold entC at hE hB
  unfold entV at CA ⊢
  clear ho hM HM
  generalize e.map.length = n at *
  by_cases h1 : d < 1
  · clear h CA hE
    go_enter Tryz.func23, Tryz.ntmps23
    go_wp2_with fail
    go_ret2
    exact ⟨rfl, hB.out⟩
  · by_cases h2 : 4 < d
    · clear h CA hE
      go_enter Tryz.func23, Tryz.ntmps23
      go_wp2_with fail
      go_ret2
      exact ⟨rfl, hB.out⟩
    · have hr : rightE e = false := by
        rcases h with h | h | h
        · exact absurd h h1
        · exact absurd h h2
        · exact h
      rw [hr] at CA
      clear h hr hE
      go_enter Tryz.func23, Tryz.ntmps23
      go_wp2_with (first
        | (go_at_call 25; (with_reducible refine (CA.out _ hB.out).mono ?_); rintro r w2 ⟨rfl, h2⟩; have hB2 := Lib.hid (hB.out.trans (h2.mono hB.out.size)); clear h2)
        | fail)
      go_ret2
      exact ⟨rfl, hB2.out⟩
set_option maxRecDepth 100000 in
set_option maxHeartbeats 8000000 in
theorem mw_gnu (e : EntL) (ad : Option Addr) (cap : Nat) (ho : EntOk e) (hr : rightE e = true) (w : World) (S : List UInt8 × Int) (hM : PiecesAt w ad e.map)
    (CG : ∀ W, Below w.heap.size w W → Calls Tryz.prog 50 #[entV e (.slice ad e.map.length cap)] W fun r w' => r = .returned (.tuple #[.string (mkS S.1), errV S.2]) ∧ Below W.heap.size W w') :
    Calls Tryz.prog 23 #[.int .i64 3, entV e (.slice ad e.map.length cap)] w fun r w' => r = .returned (.tuple #[.string (mkS S.1), errV S.2]) ∧ Below w.heap.size w w' := by
  have HM := Lib.hid (fun W (h : Below w.heap.size w W) => hM.below h)
  have CA := Lib.hid (fun W (h : Below w.heap.size w W) => rightM_any e ad cap ho W (HM.out W h))
  have CG := Lib.hid CG
  have hE := EntAt.new w e (.slice ad e.map.length cap) 28
  have hB := Lib.hid (below_alloc1 w (.cells (entC e (.slice ad e.map.length cap)) 28))
  have HE := Lib.hid hE
  clear hE ho hM HM
  rw [hr] at CA
  obtain ⟨s, k⟩ := S
  dsimp only at CG ⊢
  generalize errV k = K at *
  unfold entC at HE hB
  unfold entV at CA CG ⊢
  generalize e.map.length = n at *
  go_enter Tryz.func23, Tryz.ntmps23
  go_wp2_with (first
    | (go_at_call 25; (with_reducible refine (CA.out _ hB.out).mono ?_); rintro r w2 ⟨rfl, h2⟩; have hB2 := Lib.hid (hB.out.trans (h2.mono hB.out.size)); have hE2 := Lib.hid (HE.out.below h2 HE.out.lt); clear h2; obtain ⟨c0, c1, c2, c3, c4, c5, c6, c7, c8, c9, c10, c11, c12, c13, c14⟩ := id hE2.out)
    | (go_at_call 50; (with_reducible refine (CG.out _ hB2.out).mono ?_); rintro r w3 ⟨rfl, h3⟩; have hB3 := Lib.hid (hB2.out.trans (h3.mono hB2.out.size)); clear h3)
    | fail)
  go_ret2
  exact ⟨rfl, hB3.out⟩
set_option maxRecDepth 100000 in
set_option maxHeartbeats 8000000 in
theorem mw_pax (e : EntL) (ad : Option Addr) (cap : Nat) (ho : EntOk e) (hr : rightE e = true) (w : World) (S : List UInt8 × Int) (hM : PiecesAt w ad e.map)
    (CG : ∀ W, Below w.heap.size w W → Calls Tryz.prog 51 #[entV e (.slice ad e.map.length cap)] W fun r w' => r = .returned (.tuple #[.string (mkS S.1), errV S.2]) ∧ Below W.heap.size W w') :
    Calls Tryz.prog 23 #[.int .i64 4, entV e (.slice ad e.map.length cap)] w fun r w' => r = .returned (.tuple #[.string (mkS S.1), errV S.2]) ∧ Below w.heap.size w w' := by
  have HM := Lib.hid (fun W (h : Below w.heap.size w W) => hM.below h)
  have CA := Lib.hid (fun W (h : Below w.heap.size w W) => rightM_any e ad cap ho W (HM.out W h))
  have CG := Lib.hid CG
  have hE := EntAt.new w e (.slice ad e.map.length cap) 28
  have hB := Lib.hid (below_alloc1 w (.cells (entC e (.slice ad e.map.length cap)) 28))
  have HE := Lib.hid hE
  clear hE ho hM HM
  rw [hr] at CA
  obtain ⟨s, k⟩ := S
  dsimp only at CG ⊢
  generalize errV k = K at *
  unfold entC at HE hB
  unfold entV at CA CG ⊢
  generalize e.map.length = n at *
  go_enter Tryz.func23, Tryz.ntmps23
  go_wp2_with (first
    | (go_at_call 25; (with_reducible refine (CA.out _ hB.out).mono ?_); rintro r w2 ⟨rfl, h2⟩; have hB2 := Lib.hid (hB.out.trans (h2.mono hB.out.size)); have hE2 := Lib.hid (HE.out.below h2 HE.out.lt); clear h2; obtain ⟨c0, c1, c2, c3, c4, c5, c6, c7, c8, c9, c10, c11, c12, c13, c14⟩ := id hE2.out)
    | (go_at_call 51; (with_reducible refine (CG.out _ hB2.out).mono ?_); rintro r w3 ⟨rfl, h3⟩; have hB3 := Lib.hid (hB2.out.trans (h3.mono hB2.out.size)); clear h3)
    | fail)
  go_ret2
  exact ⟨rfl, hB3.out⟩
set_option maxRecDepth 100000 in
set_option maxHeartbeats 8000000 in
theorem mw_old (d : Int) (hd : d = 1 ∨ d = 2) (e : EntL) (ad : Option Addr) (cap : Nat) (ho : EntOk e) (hr : rightE e = true) (w : World) (S : List UInt8 × Int) (hM : PiecesAt w ad e.map)
    (CG : ∀ W, Below w.heap.size w W → Calls Tryz.prog 52 #[.int .i64 d, entV e (.slice ad e.map.length cap)] W fun r w' => r = .returned (.tuple #[.string (mkS S.1), errV S.2]) ∧ Below W.heap.size W w') :
    Calls Tryz.prog 23 #[.int .i64 d, entV e (.slice ad e.map.length cap)] w fun r w' => r = .returned (.tuple #[.string (mkS S.1), errV S.2]) ∧ Below w.heap.size w w' := by
  have HM := Lib.hid (fun W (h : Below w.heap.size w W) => hM.below h)
  have CA := Lib.hid (fun W (h : Below w.heap.size w W) => rightM_any e ad cap ho W (HM.out W h))
  have CG := Lib.hid CG
  have hE := EntAt.new w e (.slice ad e.map.length cap) 28
  have hB := Lib.hid (below_alloc1 w (.cells (entC e (.slice ad e.map.length cap)) 28))
  have HE := Lib.hid hE
  clear hE ho hM HM
  rw [hr] at CA
  obtain ⟨s, k⟩ := S
  dsimp only at CG ⊢
  generalize errV k = K at *
  unfold entC at HE hB
  unfold entV at CA CG ⊢
  generalize e.map.length = n at *
  rcases hd with rfl | rfl
  all_goals
    go_enter Tryz.func23, Tryz.ntmps23
    go_wp2_with (first
      | (go_at_call 25; (with_reducible refine (CA.out _ hB.out).mono ?_); rintro r w2 ⟨rfl, h2⟩; have hB2 := Lib.hid (hB.out.trans (h2.mono hB.out.size)); have hE2 := Lib.hid (HE.out.below h2 HE.out.lt); clear h2; obtain ⟨c0, c1, c2, c3, c4, c5, c6, c7, c8, c9, c10, c11, c12, c13, c14⟩ := id hE2.out)
      | (go_at_call 52; (with_reducible refine (CG.out _ hB2.out).mono ?_); rintro r w3 ⟨rfl, h3⟩; have hB3 := Lib.hid (hB2.out.trans (h3.mono hB2.out.size)); clear h3)
      | fail)
    go_ret2
    exact ⟨rfl, hB3.out⟩
end Go.Proofs.YthnonmniponahaaGreatDoor
end
