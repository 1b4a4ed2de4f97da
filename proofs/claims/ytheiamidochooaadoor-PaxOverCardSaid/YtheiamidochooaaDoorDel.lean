/- slices.Clone, IndexFunc and DeleteFunc at pairs: what the keeps hold of a list. -/
import Derived.Test.YtheiamidochooaaDoorCat
import Derived.Lib.SliceRun
import Derived.Laws.IdiomCopy
namespace Go.Proofs.YtheiamidochooaaDoor
open Go.RowKit Go.Joins
set_option linter.unusedVariables false

/-- What the keeps hold of a list: pairs that may be, and aren't too long. -/
def fairP (p : Pr) : Bool := decide (p.1.length + p.2.length ≤ 300) && rightP p.1 p.2
theorem fairP_big (k v : List UInt8) (h : (300 : Int) < (k.length : Int) + (v.length : Int)) : fairP (k, v) = false := by
  unfold fairP; simp; omega
theorem fairP_small (k v : List UInt8) (h : ¬ (300 : Int) < (k.length : Int) + (v.length : Int)) : fairP (k, v) = rightP k v := by
  unfold fairP; simp; omega

set_option maxHeartbeats 1000000 in
theorem strike_any (k v : List UInt8) (hk : k.length ≤ reachBytes) (hv : v.length ≤ reachBytes) (w : World) :
    Calls Tryd.prog 51 #[prV k v] w fun e w' => e = .returned (.bool (!fairP (k, v))) ∧ Below w.heap.size w w' := by
  have hr := reachBytes_lt
  have s1 := mkS_size k
  have s2 := mkS_size v
  have hb0 := below_alloc1 w (.cells #[.string (mkS k), .string (mkS v)] 36)
  by_cases h : (300 : Int) < (k.length : Int) + (v.length : Int)
  · rw [fairP_big k v h]
    go_enter Tryd.func51, Tryd.ntmps51
    go_wp2
    go_ret
    exact ⟨rfl, hb0⟩
  · rw [fairP_small k v h]
    have R := Lib.hid (fun W => right_any k v (by omega) (by omega) W)
    go_enter Tryd.func51, Tryd.ntmps51
    go_wp2_with (go_at_call 41; refine (R.out _).mono ?_; rintro e w1 ⟨rfl, h1⟩)
    go_ret
    exact ⟨rfl, hb0.trans (h1.mono (by simp))⟩

set_option maxHeartbeats 1000000 in
theorem clone_some (a : Addr) (c : Nat) (M : List Pr) (hl : M.length ≤ 100000) (w : World) (h : PairsAt w (some a) M) :
    Calls Tryd.prog 50 #[.slice (some a) M.length c] w fun e w' => (∃ v, e = .returned v ∧ w'.ownsRow w.heap.size 36 2 v M.length (pairCells M)) ∧ Below w.heap.size w w' := by
  obtain ⟨i0, hi, hz0, hz1, hz2⟩ := info_parts Tryd.infoPair
  have hb0 := below_alloc1 w (.cells #[] 36)
  have HP := Lib.hid (h.below hb0)
  have HO := Lib.hid (show (w.alloc (.cells #[] 36)).ownsRow w.heap.size 36 2 (.slice (some ⟨w.heap.size, 0, none⟩) 0 0) 0 [] from World.ownsRow_made w #[] 0 (Nat.le_refl _) (Nat.zero_le _) rfl)
  have HL := Lib.hid (pairCells_length M)
  obtain ⟨m, hm⟩ : ∃ m, M.length = m := ⟨_, rfl⟩
  rw [hm] at hl ⊢
  have HM := Lib.hid hm
  have N : ∀ w, (binOp .eql 22 (.slice (some a) m c) (.slice none 0 0)).run Tryd.prog w = .ok (.bool false) w := fun w => Lib.run_eql_slice_nil w 22 36 (some a) m c 0 0 Tryd.underlying22
  clear hm h
  go_enter Tryd.func50, Tryd.ntmps50
  go_wp2_with (at_builtin; refine wpList_append_own _ rfl _ _ 22 rfl w.heap.size 36 i0 (.agg #[.string { data := #[] }, .string { data := #[] }]) 2 32 Tryd.underlying22 hi hz0 hz1 hz2 rfl (by decide) _ _ _ rfl HO.out a m c (pairCells M) rfl (by rw [HL.out, HM.out]) (pairsAt_cells HP.out) (pairCells_one _) (by unfold maxLen; omega) (by omega) (by simp) ?_; intro v' w1 hown' hgrow _)
  have HB := Lib.hid (below_grown hb0 HO.out (Nat.le_refl _) hgrow)
  have HW := Lib.hid hown'
  clear hown' hgrow
  go_ret
  refine ⟨⟨_, rfl, ?_⟩, HB.out⟩
  have := HW.out
  rwa [Nat.zero_add, List.nil_append] at this
set_option maxHeartbeats 1000000 in
theorem clone_none (w : World) :
    Calls Tryd.prog 50 #[.slice none 0 0] w fun e w' => e = .returned (.slice none 0 0) ∧ Below w.heap.size w w' := by
  have N : ∀ w, (binOp .eql 22 (.slice none 0 0) (.slice none 0 0)).run Tryd.prog w = .ok (.bool true) w := fun w => Lib.run_eql_slice_nil w 22 36 none 0 0 0 0 Tryd.underlying22
  go_enter Tryd.func50, Tryd.ntmps50
  go_wp2
  go_ret
  exact ⟨rfl, Below.refl _ _⟩

/-- Where the first that isn't fair is. -/
def FirstAt (M : List Pr) (r : Int) : Prop := (r = -1 ∧ ∀ (j : Nat) p, M[j]? = some p → fairP p = true) ∨ ∃ k : Nat, r = (k : Int) ∧ k < M.length ∧ (∀ p, M[k]? = some p → fairP p = false) ∧ ∀ (j : Nat) p, j < k → M[j]? = some p → fairP p = true

set_option maxHeartbeats 1000000 in
theorem indexF_any (b off c : Nat) (M : List Pr) (hl : M.length ≤ 100000) (hz : ∀ p ∈ M, p.1.length ≤ reachBytes ∧ p.2.length ≤ reachBytes) (w : World) (hlt : b < w.heap.size) (hR : RowAt w b off M) :
    Calls Tryd.prog 59 #[.slice (some ⟨b, off, none⟩) M.length c, .func (.func 51) #[] #[]] w fun e w' => (∃ r, e = .returned (.int .i64 r) ∧ FirstAt M r) ∧ Below w.heap.size w w' := by
  have HR := Lib.hid (show ∀ w', Below w.heap.size w w' → RowAt w' b off M from fun w' hb => RowAt.below hlt hR hb)
  have HS := Lib.hid (fun (i : Nat) (p : Pr) (hp : M[i]? = some p) W => strike_any p.1 p.2 (hz p (List.mem_of_getElem? hp)).1 (hz p (List.mem_of_getElem? hp)).2 W)
  clear hR hlt hz
  go_enter Tryd.func59, Tryd.ntmps59
  go_wp2
  go_loopg [8] M.length (fun g s8 wr => ∃ i : Nat, i ≤ M.length ∧ M.length - i ≤ g ∧ s8 = .int .i64 i ∧ Aside (Below w.heap.size w wr ∧ ∀ (j : Nat) p, j < i → M[j]? = some p → fairP p = true))
  case atStart => exact ⟨0, by omega, by omega, rfl, Below.refl _ _, fun j p hj => by omega⟩
  case round =>
    obtain ⟨i, hi, hg, rfl, A⟩ := hrel
    by_cases hil : i < M.length
    · obtain ⟨p, hp⟩ : ∃ p, M[i]? = some p := ⟨_, List.getElem?_eq_getElem hil⟩
      obtain ⟨x1, x2⟩ := HR.out wr A.out.1 i p hp
      have S := Lib.hid (HS.out i p hp)
      have HA := Lib.hid A.out
      have HP := Lib.hid hp
      clear A hp
      cases hf : fairP (p.1, p.2) with
      | true =>
        have HF := Lib.hid hf
        clear hf
        go_wp2_with (go_at_call 51; refine (S.out _).mono ?_; rintro e w1 ⟨rfl, h1⟩; rw [HF.out])
        go_roundg (M.length - (i + 1))
        case measure => omega
        case rel => exact ⟨i + 1, by omega, by omega, by first | rfl | simp, HA.out.1.trans (h1.mono HA.out.1.size), fun j q hj hq => by
          rcases Nat.lt_or_ge j i with h | h
          · exact HA.out.2 j q h hq
          · obtain rfl : j = i := by omega
            rw [HP.out] at hq
            cases hq
            exact HF.out⟩
      | false =>
        have HF := Lib.hid hf
        clear hf
        go_wp2_with (go_at_call 51; refine (S.out _).mono ?_; rintro e w1 ⟨rfl, h1⟩; rw [HF.out])
        go_ret
        exact ⟨⟨_, rfl, Or.inr ⟨i, rfl, hil, fun q hq => by rw [HP.out] at hq; cases hq; exact HF.out, HA.out.2⟩⟩, HA.out.1.trans (h1.mono HA.out.1.size)⟩
    · go_wp2
      go_ret
      exact ⟨⟨_, rfl, Or.inl ⟨rfl, fun j p hp => A.out.2 j p (by have := (List.getElem?_eq_some_iff.1 hp).1; omega) hp⟩⟩, A.out.1⟩
end Go.Proofs.YtheiamidochooaaDoor
