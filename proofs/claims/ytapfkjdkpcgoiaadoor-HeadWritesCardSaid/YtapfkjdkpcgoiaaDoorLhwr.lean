/- The law HeadWrites: its walk. -/
import Derived.Test.YtapfkjdkpcgoiaaDoorRwt
import Derived.Test.YtapfkjdkpcgoiaaDoorRof
import Derived.Test.YtapfkjdkpcgoiaaDoorNmf
import Derived.Test.YtapfkjdkpcgoiaaDoorTell
namespace Go.Proofs.YtapfkjdkpcgoiaaDoor
open Go.RowKit Go.Joins
set_option linter.unusedVariables false
set_option linter.unusedSimpArgs false

theorem WriteIs.unique {d : Int} {r : RawL} {s s' : List UInt8} {k k' : Int} (h : WriteIs d r s k) (h' : WriteIs d r s' k') : s = s' ∧ k = k' := by
  cases h with
  | arg h =>
    cases h' with
    | arg h' => exact ⟨rfl, rfl⟩
    | range a b _ => exact absurd h (by rintro (h | h | h); omega; omega; exact b h)
    | ok a g => exact absurd h (by have := g.1; rintro (h | h | h); omega; omega; exact g.2.1 h)
  | range a b c =>
    cases h' with
    | arg h => exact absurd h (by rintro (h | h | h); omega; omega; exact b h)
    | range _ _ _ => exact ⟨rfl, rfl⟩
    | ok _ g => exact absurd g c
  | ok a g =>
    cases h' with
    | arg h => exact absurd h (by have := g.1; rintro (h | h | h); omega; omega; exact g.2.1 h)
    | range _ _ c => exact absurd g c
    | ok _ _ => exact ⟨rfl, rfl⟩
theorem thick_yes (r : RawL) (hz : textsL r) (h : 900 < sumT r) (w : World) :
    Calls Tryd.prog 8 #[rawV r] w fun e w' => e = .returned (.bool true) ∧ Below w.heap.size w w' := by
  refine (thick_any r hz w).mono fun e w' ⟨he, hb⟩ => ⟨?_, hb⟩
  rw [he, decide_eq_true (by omega)]
theorem thick_no (r : RawL) (hz : textsL r) (h : ¬ 900 < sumT r) (w : World) :
    Calls Tryd.prog 8 #[rawV r] w fun e w' => e = .returned (.bool false) ∧ Below w.heap.size w w' := by
  refine (thick_any r hz w).mono fun e w' ⟨he, hb⟩ => ⟨?_, hb⟩
  rw [he, decide_eq_false (by omega)]
theorem bare_is (k : Int) (w : World) (hg : ErrLaid w) :
    Calls Tryd.prog 12 #[errV k, .int .i64 k] w fun e w' => e = .returned (.bool true) ∧ Below w.heap.size w w' := by
  unfold errV
  by_cases h : k = 0
  · rw [if_pos h, h]
    exact (bare_nil w).mono fun e w' ⟨he, hw⟩ => ⟨he, by rw [hw]; exact Below.refl _ _⟩
  · rw [if_neg h]
    exact bare_err k w hg
set_option maxRecDepth 100000 in
set_option maxHeartbeats 4000000 in
theorem headWrites_walk (a0 : Int) (w0 : (Lit.int .i64 a0).wf = true) (r : RawL) (hi : intsL r) (hz : textsL r) (w : World) (hg : ErrLaid w) :
    Calls Tryd.prog 3 #[.int .i64 a0, rawV r] w fun e w' => e = .returned (.bool true) ∧ Below w.heap.size w w' := by
  have hC := Lib.hid (RawAt.new w r 23)
  have hb := Lib.hid (below_alloc1 w (.cells (#[.string (mkS r.name), .string (mkS r.link), .string (mkS r.user), .string (mkS r.group), .string (mkS r.front), .int .u8 (r.kind.toNat : Int), .int .i64 r.mode, .int .i64 r.uid, .int .i64 r.gid, .int .i64 r.size, .int .i64 r.time, .int .i64 r.major, .int .i64 r.minor]) 23))
  have hr := reachBytes_lt
  by_cases h : 900 < sumT r
  · have C := Lib.hid (thick_yes r hz h)
    clear h hz hi hg
    unfold rawV at C ⊢
    go_enter Tryd.func3, Tryd.ntmps3
    go_wp2_with (go_at_call 8; with_reducible refine (C.out _).mono ?_; rintro e w1 ⟨rfl, h1⟩)
    go_ret
    exact ⟨rfl, hb.out.trans (h1.mono hb.out.size)⟩
  · have C := Lib.hid (thick_no r hz h)
    have hu : sumT r = r.name.length + r.link.length + r.user.length + r.group.length + r.front.length := rfl
    have hT : TextsLe r := ⟨by omega, by omega, by omega, by omega, by omega⟩
    have hI : IntsIn r := ⟨hi.1, hi.2.1, hi.2.2.1, hi.2.2.2.1, hi.2.2.2.2.1, hi.2.2.2.2.2.1, hi.2.2.2.2.2.2⟩
    have C1 := Lib.hid (fun w => refWrite_all a0 r hT hI w)
    have C2 := Lib.hid (rawOf_any r)
    have C3 := Lib.hid (fun w => write_any' a0 r (fun k hk => by
      obtain rfl | rfl | rfl | rfl | rfl : k = 0 ∨ k = 1 ∨ k = 2 ∨ k = 3 ∨ k = 4 := by omega
      · exact hT.name
      · exact hT.link
      · exact hT.user
      · exact hT.group
      · exact hT.front) hi w)
    unfold RefWPost at C1
    unfold WritePost at C3
    have HG := Lib.hid hg
    clear h hz hi hg hT hI hu
    unfold rawV at C C1 C2 C3 ⊢
    go_enter Tryd.func3, Tryd.ntmps3
    go_wp2_with (first
      | (go_at_call 8; (with_reducible refine (C.out _).mono ?_); rintro e w1 ⟨rfl, h1⟩; have hC1 := hC.out.below h1 hC.out.lt; obtain ⟨c0, c1, c2, c3, c4, c5, c6, c7, c8, c9, c10, c11, c12⟩ := id hC1; replace h1 := Lib.hid (hb.out.trans (h1.mono hb.out.size)); replace hC1 := Lib.hid hC1)
      | (go_at_call 9; (with_reducible refine (C1.out _).mono ?_); rintro e w2 ⟨s, k, hI, rfl, h2⟩; have HI := Lib.hid hI; clear hI; have h2' := Lib.hid (h1.out.trans (h2.mono h1.out.size)); have hC2 := Lib.hid (hC1.out.below h2 hC1.out.lt); clear c0 c1 c2 c3 c4 c5 c6 c7 c8 c9 c10 c11 c12 h2; obtain ⟨c0, c1, c2, c3, c4, c5, c6, c7, c8, c9, c10, c11, c12⟩ := id hC2.out)
      | (go_at_call 11; (with_reducible refine (C2.out _).mono ?_); rintro e w3 ⟨rfl, h3⟩; clear c0 c1 c2 c3 c4 c5 c6 c7 c8 c9 c10 c11 c12; have h3' := Lib.hid (h2'.out.trans (h3.mono h2'.out.size)); clear h3)
      | (go_at_call 10; (with_reducible refine (C3.out _).mono ?_); rintro e w4 ⟨s', k', hI4, rfl, h4⟩; obtain ⟨rfl, rfl⟩ := HI.out.unique hI4; clear hI4; have h4' := Lib.hid (h3'.out.trans (h4.mono h3'.out.size)); clear h4)
      | (go_at_call 12; (with_reducible refine (bare_is _ _ (HG.out.below h4'.out)).mono ?_); rintro e w5 ⟨rfl, h5⟩; have h5' := Lib.hid (h4'.out.trans (h5.mono h4'.out.size)); clear h5)
      | fail)
    go_ret
    exact ⟨rfl, h5'.out⟩
end Go.Proofs.YtapfkjdkpcgoiaaDoor
