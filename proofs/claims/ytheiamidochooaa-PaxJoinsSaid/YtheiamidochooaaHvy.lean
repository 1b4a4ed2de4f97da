/- The law's 'heavy': lists that are too long, or hold too much. -/
import Derived.Test.YtheiamidochooaaArg
import Derived.Deep.LoopGhost
namespace Go.Proofs.Ytheiamidochooaa
open Go.RowKit Go.Joins

/-- The rows of a list of pairs in one block. -/
def RowAt (W : World) (b off : Nat) (l : List (List UInt8 × List UInt8)) : Prop :=
  ∀ (i : Nat) (p : List UInt8 × List UInt8), l[i]? = some p → W.cell? ⟨b, off + i * 2, none⟩ = some (.string (mkS p.1)) ∧ W.cell? ⟨b, off + i * 2 + 1, none⟩ = some (.string (mkS p.2))
theorem RowAt.below {W W' : World} {b off : Nat} {l : List (List UInt8 × List UInt8)} (hlt : b < W.heap.size) (h : RowAt W b off l) (hb : Below W.heap.size W W') : RowAt W' b off l := fun i p hi => by
  obtain ⟨h3, h4⟩ := h i p hi
  exact ⟨(hb.cell (p := ⟨b, off + i * 2, none⟩) hlt).trans h3, (hb.cell (p := ⟨b, off + i * 2 + 1, none⟩) hlt).trans h4⟩
theorem PairsAt.cases {W : World} {ad : Option Addr} {l : List (List UInt8 × List UInt8)} (h : PairsAt W ad l) : l = [] ∨ ∃ b off, ad = some ⟨b, off, none⟩ ∧ b < W.heap.size ∧ RowAt W b off l := by
  cases l with
  | nil => exact Or.inl rfl
  | cons q l =>
    right
    obtain ⟨b, off, h1, h2, _⟩ := h 0 q rfl
    refine ⟨b, off, h1, h2, fun i p hi => ?_⟩
    obtain ⟨b', off', h1', _, h3, h4⟩ := h i p hi
    rw [h1] at h1'
    cases h1'
    exact ⟨h3, h4⟩

set_option maxHeartbeats 2000000 in
theorem heavy_any (ad : Option Addr) (cap : Nat) (l : List (List UInt8 × List UInt8)) (hl : l.length ≤ maxLen) (hz : ∀ p ∈ l, p.1.length ≤ reachBytes ∧ p.2.length ≤ reachBytes) (w : World) (hM : PairsAt w ad l) :
    Calls Try.prog 8 #[.slice ad l.length cap] w fun e w' => (∃ b, e = .returned (.bool b) ∧ (b = false → l.length ≤ 30 ∧ ∀ p ∈ l, p.1.length + p.2.length ≤ 300)) ∧ Below w.heap.size w w' := by
  have hr := reachBytes_lt
  unfold maxLen at hl
  by_cases h30 : (30 : Int) < (l.length : Int)
  · clear hM hz
    go_enter Try.func8, Try.ntmps8
    go_wp2
    go_ret
    exact ⟨⟨true, rfl, fun h => by cases h⟩, Below.refl _ _⟩
  rcases hM.cases with rfl | ⟨b, off, rfl, hlt, hR⟩
  · clear hM hz
    go_enter Try.func8, Try.ntmps8
    go_wp2
    refine wp_loop_rounds 1 ?_
    rw [rounds_succ]
    go_wp2
    go_ret
    exact ⟨⟨false, rfl, fun _ => ⟨by simp, fun p hp => by simp at hp⟩⟩, Below.refl _ _⟩
  · clear hM
    have HR := Lib.hid (fun w' hb => RowAt.below (W' := w') hlt hR hb)
    have HZ := Lib.hid hz
    clear hR hz hlt
    go_enter Try.func8, Try.ntmps8
    go_wp2
    go_loopg [3] l.length (fun g s3 wr => ∃ i : Nat, i ≤ l.length ∧ l.length - i ≤ g ∧ s3 = .int .i64 i ∧ Aside (Below w.heap.size w wr ∧ ∀ (j : Nat) p, j < i → l[j]? = some p → p.1.length + p.2.length ≤ 300))
    case atStart => exact ⟨0, by omega, by omega, rfl, (show Aside _ from ⟨Below.refl _ _, fun j p hj => by omega⟩)⟩
    case round =>
      obtain ⟨i, hi, hg, rfl, A⟩ := hrel
      by_cases hil : i < l.length
      · obtain ⟨p, hp⟩ : ∃ p, l[i]? = some p := ⟨_, List.getElem?_eq_getElem hil⟩
        obtain ⟨c1, c2⟩ := HR.out wr A.out.1 i p hp
        have hpz := HZ.out p (List.mem_of_getElem? hp)
        have s1 := mkS_size p.1
        have s2 := mkS_size p.2
        have HP := Lib.hid hp
        clear hp
        have hb1 := A.out.1
        have HB := Lib.hid hb1
        clear hb1
        by_cases h3 : (300 : Int) < (p.1.length : Int) + (p.2.length : Int)
        · go_wp2
          go_quiet (fail)
          go_wp2
          go_ret
          exact ⟨⟨true, rfl, fun h => by cases h⟩, HB.out.trans (below_draws _ _ _)⟩
        · go_wp2
          go_quiet (fail)
          go_wp2
          go_roundg (l.length - (i + 1))
          case measure => omega
          case rel =>
            refine ⟨i + 1, by omega, by omega, by first | rfl | simp, (show Aside _ from ⟨HB.out.trans (below_draws _ _ _), fun j q hj hq => ?_⟩)⟩
            by_cases hji : j = i
            · subst hji
              have hq2 := hq.symm.trans HP.out
              obtain rfl := Option.some.inj hq2
              omega
            · exact A.out.2 j q (by omega) hq
      · go_wp2
        go_ret
        refine ⟨⟨false, rfl, fun _ => ⟨by omega, fun p hp => ?_⟩⟩, A.out.1⟩
        obtain ⟨j, hj⟩ := List.mem_iff_getElem?.1 hp
        have := (List.getElem?_eq_some_iff.1 hj).1
        exact A.out.2 j p (by omega) hj
end Go.Proofs.Ytheiamidochooaa
