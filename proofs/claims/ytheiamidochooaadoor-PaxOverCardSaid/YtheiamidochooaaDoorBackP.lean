/- PaxBack: what is written is read. -/
import Derived.Test.YtheiamidochooaaDoorFair
import Derived.Test.YtheiamidochooaaDoorDecm
import Derived.Test.YtheiamidochooaaDoorOneP
namespace Go.Proofs.YtheiamidochooaaDoor
open Go.RowKit Go.Joins
set_option linter.unusedVariables false

theorem caps_pairs {H : Type} {enc : TypeId × Value → H} {P : Program} {t e : TypeId} {f0 f1 : Field} {W : World} {ad : Option Addr} {n c : Nat} {d : DataW H} {ps : List MemPlace} (ht : P.underlying t = some (.slice e)) (he : P.underlying e = some (.struct #[f0, f1]))
    (ce : P.cellsOf e = 2) (o0 : f0.offset = 0) (o1 : f1.offset = 1) (c0 : P.cellsOf f0.type = 1) (c1 : P.cellsOf f1.type = 1) (hd : DataW.Trod enc P W 0 (fun _ => true) true t (.slice ad n c) d ps) :
    n ≤ c ∧ c ≤ maxLen ∧ (ad = none → c = 0) := by
  obtain ⟨fuel, hf⟩ := hd
  have hcells : (Value.slice ad n c).cells = #[.slice ad n c] := by simp [Value.cells]
  rw [hcells] at hf
  rcases Go.Deep.open_slice_pairs ht he ce o0 o1 c0 c1 hf with ⟨h0, _⟩ | ⟨a', len, cap, m, nn, V0, V1, D0, D1, P0, P1, h1, _, h3, h4, _⟩
  · have : Value.slice ad n c = .slice none 0 0 := by simpa using h0
    injection this with e1 e2 e3
    subst e1 e2 e3
    exact ⟨Nat.le_refl _, Nat.zero_le _, fun _ => rfl⟩
  · have : Value.slice ad n c = .slice (some a') len cap := by simpa using h1
    injection this with e1 e2 e3
    subst e1 e2 e3
    exact ⟨h3, h4, fun h => by cases h⟩

def pickF (a n : Int) : Int := a % 18446744073709551616 % n
theorem pickF_range (a n : Int) (h : 1 ≤ n) : 0 ≤ pickF a n ∧ pickF a n < n := by
  unfold pickF; exact ⟨Int.emod_nonneg _ (by omega), Int.emod_lt_of_pos _ (by omega)⟩
theorem u64_wrap (a : Int) : IntKind.u64.wrap a = a % 18446744073709551616 := by
  simp only [IntKind.wrap, IntKind.bits, IntKind.signed]; simp

theorem pick_any (a n : Int) (w : World) (h1 : 1 ≤ n) (h2 : n ≤ 1000000) :
    Calls Tryd.prog 24 #[.int .i64 a, .int .i64 n] w fun e w' => e = .returned (.int .i64 (pickF a n)) ∧ w' = w := by
  have hw := u64_wrap a
  have hr := pickF_range a n h1
  have hp : a % 18446744073709551616 % n = pickF a n := rfl
  obtain ⟨u, hu, hu0, hu1⟩ : ∃ u, a % 18446744073709551616 = u ∧ 0 ≤ u ∧ u ≤ 18446744073709551615 := ⟨_, rfl, by omega, by omega⟩
  rw [hu] at hw hp
  obtain ⟨hr1, hr2⟩ := hr
  have hn : n ≠ 0 := by omega
  clear hu
  go_enter Tryd.func24, Tryd.ntmps24
  go_wp2
  go_ret
  exact ⟨by first | rfl | simp_all, rfl⟩

theorem fairL_right (l : List Pr) : (∀ p ∈ fairL l, rightP p.1 p.2 = true) ∧ (fairL l).length ≤ 10 := by
  refine ⟨fun p hp => ?_, ?_⟩
  · have h := (List.mem_filter.1 hp).2
    unfold fairP at h
    simp at h
    exact h.2
  · unfold fairL
    have := List.length_filter_le fairP (l.take 10)
    rw [List.length_take] at this
    omega

/-- The length that stands ahead of a record. -/
theorem rec_cut (k v : List UInt8) (h : rightP k v = true) : wholeOf 32 (recL k v) = Lib.decDigits (recL k v).length ∧ pointOf 32 (recL k v) = true ∧ (recL k v).length ≤ 300 := by
  have h3 := (rightP_true k v h).2.2
  have e := recL_length k v h3
  have hb := lenOf_bound (k.length + v.length + 3)
  refine ⟨?_, ?_, by omega⟩
  · rw [e]; exact begins_head (recL k v) k v ⟨h, List.prefix_refl _⟩
  · unfold pointOf recL restL
    simp

set_option maxHeartbeats 2000000 in
theorem back_none (ad : Option Addr) (len c : Nat) (which : Int) (w : World) (hp : PowLaid w) (hA : AtoiLaid w)
    (hF : ∀ W, Below w.heap.size w W → Calls Tryd.prog 22 #[.slice ad len c] W fun e w' => (∃ v, e = .returned v ∧ SliceIs w' v []) ∧ Below W.heap.size W w') :
    Calls Tryd.prog 6 #[.slice ad len c, .int .i64 which] w fun e w' => e = .returned (.bool true) ∧ Below w.heap.size w w' := by
  have R := Lib.hid (recorded_true w hp hA)
  have F := Lib.hid hF
  have W1 := Lib.hid (fun ad cap W => write_nil ad cap W)
  have D := Lib.hid (show ∀ W, Below w.heap.size w W → Calls Tryd.prog 12 #[.string (mkS [])] W fun e w' => (∃ ad cap, e = .returned (.tuple #[.slice ad 0 cap, .nilIface])) ∧ Below W.heap.size W w' from fun W hb =>
    (read_any [] (by simp) [] false ⟨fun p hp => (by cases hp), List.prefix_refl _, fun _ => rfl, fun h => (by cases h)⟩ W (hp.below hb) (hA.below hb)).mono fun e w' h => ⟨by
      obtain ⟨ad, cap, _, he, _⟩ := h.1.two.1 (by simp) rfl
      exact ⟨ad, cap, he⟩, h.2⟩)
  have E1 := Lib.hid (fun a1 a2 c1 c2 W => equal_same a1 a2 c1 c2 [] (by simp) W (fun i p hi => by simp at hi) (fun i p hi => by simp at hi))
  have E : (mkS []).toList = [] := by rw [ByteArray.toList_eq, mkS_list]
  clear hp hA hF
  go_enter Tryd.func6, Tryd.ntmps6
  go_wp2_with (first
    | (go_at_call 21; refine R.out.mono ?_; rintro e w1 ⟨rfl, h1⟩)
    | (go_at_call 22; refine (F.out _ h1).mono ?_; rintro e w2 ⟨⟨v, rfl, fd, fc, rfl, _, _⟩, h2⟩; have h12 := h1.trans (h2.mono h1.size))
    | (go_at_call 20; refine (W1.out _ _ _).mono ?_; rintro e w3 ⟨rfl, h3⟩; have h13 := h12.trans (h3.mono h12.size))
    | (go_at_call 12; refine (D.out _ h13).mono ?_; rintro e w4 ⟨⟨dd, cd, rfl⟩, h4⟩; have h14 := h13.trans (h4.mono h13.size))
    | (go_at_call 23; refine (E1.out _ _ _ _ _).mono ?_; rintro e w5 ⟨rfl, h5⟩; have h15 := h14.trans (h5.mono h14.size)))
  go_ret
  exact ⟨by simp, h15⟩

set_option maxHeartbeats 2000000 in
theorem back_some (ad : Option Addr) (len c : Nat) (which : Int) (L : List Pr) (n : Nat) (hLn : L.length = n) (h0 : 0 < n) (h10 : n ≤ 10) (hr : ∀ p ∈ L, rightP p.1 p.2 = true) (w : World) (hp : PowLaid w) (hA : AtoiLaid w)
    (hF : ∀ W, Below w.heap.size w W → Calls Tryd.prog 22 #[.slice ad len c] W fun e w' => (∃ v, e = .returned v ∧ SliceIs w' v L) ∧ Below W.heap.size W w') :
    Calls Tryd.prog 6 #[.slice ad len c, .int .i64 which] w fun e w' => e = .returned (.bool true) ∧ Below w.heap.size w w' := by
  have R := Lib.hid (recorded_true w hp hA)
  have F := Lib.hid (show ∀ W, Below w.heap.size w W → Calls Tryd.prog 22 #[.slice ad len c] W fun e w' => (∃ fd fc, e = .returned (.slice fd n fc) ∧ PairsAt w' fd L) ∧ Below W.heap.size W w' from fun W hb => (hF W hb).mono fun e w' ⟨⟨v, h1, fd, fc, h2, _, h3⟩, h4⟩ => ⟨⟨fd, fc, by rw [h1, h2, hLn], h3⟩, h4⟩)
  have hne : L ≠ [] := fun h => by rw [h] at hLn; simp at hLn; omega
  have hread : ReadIs (recsL L) L false := ⟨hr, List.prefix_refl _, fun _ => rfl, fun h => by cases h⟩
  have hbound := recsL_bound L hr
  obtain ⟨S, hS⟩ : ∃ S, recsL L = S := ⟨_, rfl⟩
  rw [hS] at hread hbound
  have W1 := Lib.hid (show ∀ ad cap W, Below w.heap.size w W → PairsAt W ad L → Calls Tryd.prog 20 #[.slice ad n cap] W fun e w' => e = .returned (.tuple #[.string (mkS S), .nilIface]) ∧ Below W.heap.size W w' from fun ad cap W hb hM => by
    have := write_all ad cap L (by omega) hr W (hp.below hb) hM
    rwa [hLn, hS] at this)
  have D := Lib.hid (show ∀ W, Below w.heap.size w W → Calls Tryd.prog 12 #[.string (mkS S)] W fun e w' => (∃ ad cap, e = .returned (.tuple #[.slice ad n cap, .nilIface]) ∧ PairsAt w' ad L) ∧ Below W.heap.size W w' from fun W hb =>
    (read_any S (by omega) L false hread W (hp.below hb) (hA.below hb)).mono fun e w' h => ⟨by
      obtain ⟨ad, cap, _, he, hP⟩ := h.1.two.1 (by omega) rfl
      rw [hLn] at he
      exact ⟨ad, cap, he, hP⟩, h.2⟩)
  have E1 := Lib.hid (show ∀ a1 a2 c1 c2 W, PairsAt W a1 L → PairsAt W a2 L → Calls Tryd.prog 23 #[.slice a1 n c1, .slice a2 n c2] W fun e w' => e = .returned (.bool true) ∧ Below W.heap.size W w' from fun a1 a2 c1 c2 W h1 h2 => by
    have := equal_same a1 a2 c1 c2 L (by omega) W h1 h2
    rwa [hLn] at this)
  obtain ⟨g1, g2⟩ := pickF_range which n (by omega)
  obtain ⟨k, hk⟩ : ∃ k : Nat, pickF which n = (k : Int) := ⟨(pickF which n).toNat, by omega⟩
  have PK := Lib.hid (fun W => hk ▸ pick_any which n W (by omega) (by omega))
  have hkn : k < n := by omega
  obtain ⟨p, hpk⟩ : ∃ p, L[k]? = some p := ⟨_, List.getElem?_eq_getElem (by omega)⟩
  have hright := hr p (List.mem_of_getElem? hpk)
  obtain ⟨q1, q2, q3⟩ := rec_cut p.1 p.2 hright
  have T := Lib.hid (show ∀ W, Below w.heap.size w W → Calls Tryd.prog 16 #[prV p.1 p.2] W fun e w' => e = .returned (.tuple #[.string (mkS (recL p.1 p.2)), .nilIface]) ∧ Below W.heap.size W w' from fun W hb => record_ok p.1 p.2 hright W (hp.below hb))
  have C := Lib.hid (fun W => cut_any 32 (recL p.1 p.2) W (by omega))
  have M := Lib.hid (fun W => decimal_any (recL p.1 p.2).length (by omega) W)
  have RW := Lib.hid (show ∀ W b off, PairsAt W (some ⟨b, off, none⟩) L → W.cell? ⟨b, off + k * 2, none⟩ = some (.string (mkS p.1)) ∧ W.cell? ⟨b, off + k * 2 + 1, none⟩ = some (.string (mkS p.2)) from fun W b off h => by
    obtain ⟨b', off', e, _, c1, c2⟩ := h k p hpk
    cases e
    exact ⟨c1, c2⟩)
  have HNE := Lib.hid hne
  have z1 := mkS_size (recL p.1 p.2)
  rw [q1, q2] at C
  generalize recL p.1 p.2 = r at *
  obtain ⟨rl, hrl⟩ : ∃ rl, r.length = rl := ⟨_, rfl⟩
  rw [hrl] at M C z1 q3
  generalize Lib.decDigits rl = N at *
  have hn1 : ¬ (n : Int) = 0 := by omega
  clear hp hA hF hr hread hbound hright hpk hne q1 q2 hk g1 g2 hS hLn hrl
  go_enter Tryd.func6, Tryd.ntmps6
  go_wp2_with (first
    | (go_at_call 21; refine R.out.mono ?_; rintro e w1 ⟨rfl, h1⟩)
    | (go_at_call 22; refine (F.out _ h1).mono ?_; rintro e w2 ⟨⟨fd, fc, rfl, k1⟩, h2⟩; rcases k1.cases with hb | ⟨b, off, rfl, _, _⟩; exact absurd hb HNE.out; have h12 := h1.trans (h2.mono h1.size); replace k1 := Lib.hid k1)
    | (go_at_call 20; refine (W1.out _ _ _ h12 k1.out).mono ?_; rintro e w3 ⟨rfl, h3⟩; have h13 := h12.trans (h3.mono h12.size); replace k1 := Lib.hid (k1.out.below h3))
    | (go_at_call 12; refine (D.out _ h13).mono ?_; rintro e w4 ⟨⟨dd, cd, rfl, k2⟩, h4⟩; have h14 := h13.trans (h4.mono h13.size); replace k1 := Lib.hid (k1.out.below h4); replace k2 := Lib.hid k2)
    | (go_at_call 23; refine (E1.out _ _ _ _ _ k2.out k1.out).mono ?_; rintro e w5 ⟨rfl, h5⟩; have h15 := h14.trans (h5.mono h14.size); replace k1 := Lib.hid (k1.out.below h5))
    | (go_at_call 24; refine (PK.out _).mono ?_; rintro e w6 ⟨rfl, hw⟩; replace hw := hw.symm; subst hw; obtain ⟨x1, x2⟩ := RW.out _ _ _ k1.out)
    | (go_at_call 16; refine (T.out _ h15).mono ?_; rintro e w7 ⟨rfl, h7⟩; have h17 := h15.trans (h7.mono h15.size))
    | (go_at_call 25; refine (C.out _).mono ?_; rintro e w8 ⟨rfl, nd, hw⟩; have h18 := Lib.hid (show Below w.heap.size w w8 from by rw [hw]; exact h17.trans (below_draws _ _ _)); clear hw)
    | (go_at_call 26; refine (M.out _).mono ?_; rintro e w9 ⟨rfl, h9⟩))
  go_ret
  exact ⟨by simp, h18.out.trans (h9.mono h18.out.size)⟩

theorem paxBack_walk (ad : Option Addr) (c : Nat) (l : List Pr) (hl : l.length ≤ maxLen) (hz : ∀ p ∈ l, p.1.length ≤ reachBytes ∧ p.2.length ≤ reachBytes) (hc : l.length ≤ c ∧ c ≤ maxLen ∧ (ad = none → c = 0)) (which : Int) (_w1 : (Lit.int .i64 which).wf = true) (w : World) (hM : PairsAt w ad l) (hp : PowLaid w) (hA : AtoiLaid w) :
    Calls Tryd.prog 6 #[.slice ad l.length c, .int .i64 which] w fun e w' => e = .returned (.bool true) ∧ Below w.heap.size w w' := by
  have hF := fun W (hb : Below w.heap.size w W) => fair_any ad c l hl hc.1 hc.2.1 hc.2.2 hz W (hM.below hb)
  obtain ⟨f1, f2⟩ := fairL_right l
  rcases Nat.eq_zero_or_pos (fairL l).length with h0 | h0
  · rw [List.length_eq_zero_iff.1 h0] at hF
    exact back_none ad l.length c which w hp hA hF
  · exact back_some ad l.length c which (fairL l) _ rfl h0 f2 f1 w hp hA hF
end Go.Proofs.YtheiamidochooaaDoor
