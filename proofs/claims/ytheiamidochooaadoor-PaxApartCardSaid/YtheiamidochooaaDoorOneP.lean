/- PaxOne: just one text. -/
import Derived.Test.YtheiamidochooaaDoorRcd
import Derived.Test.YtheiamidochooaaDoorWriL
namespace Go.Proofs.YtheiamidochooaaDoor
open Go.RowKit Go.Joins
set_option linter.unusedVariables false

/-- Write of what is valid. -/
theorem write_all (ad : Option Addr) (cap : Nat) (l : List Pr) (h20 : l.length ≤ 20) (hr : ∀ p ∈ l, rightP p.1 p.2 = true) (W : World) (hp : PowLaid W) (hM : PairsAt W ad l) :
    Calls Tryd.prog 20 #[.slice ad l.length cap] W fun e w' => e = .returned (.tuple #[.string (mkS (recsL l)), .nilIface]) ∧ Below W.heap.size W w' := by
  rcases hM.cases with rfl | ⟨b, off, rfl, hlt, hRow⟩
  · exact write_nil ad cap W
  · refine (write_row b off cap l h20 (fun p hp => ?_) l.length (Nat.le_refl _) (fun j p _ hp => hr p (List.mem_of_getElem? hp)) (fun p hp => by simp at hp) W hp hlt hRow).mono fun e w' ⟨h1, h2⟩ => ⟨?_, h2⟩
    · have := (rightP_true p.1 p.2 (hr p hp)).2.2
      have h0 := (rightP_true p.1 p.2 (hr p hp)).2.1
      omega
    · rcases h1 with ⟨_, h1⟩ | ⟨h1, _⟩
      · exact h1
      · omega
theorem recsL_append (A B : List Pr) : recsL (A ++ B) = recsL A ++ recsL B := by unfold recsL; rw [List.flatMap_append]
theorem readIs_append (s t : List UInt8) (A B : List Pr) (h1 : ReadIs s A false) (h2 : ReadIs t B false) : ReadIs (s ++ t) (A ++ B) false := by
  have e : recsL (A ++ B) = s ++ t := by rw [recsL_append, h1.2.2.1 rfl, h2.2.2.1 rfl]
  refine ⟨fun p hp => ?_, by rw [e]; exact List.prefix_refl _, fun _ => e, fun h => by cases h⟩
  rcases List.mem_append.1 hp with h | h
  · exact h1.1 p h
  · exact h2.1 p h

/-- What Read hands back of a text that reads as M: a slice of M, or an error. -/
def ReadGood (M : List Pr) (e : Ending) (w' : World) : Prop := ∃ ad cap, (ad = none → cap = 0) ∧ e = .returned (.tuple #[.slice ad M.length cap, .nilIface]) ∧ PairsAt w' ad M
def ReadBad (e : Ending) : Prop := ∃ pb, e = .returned (.tuple #[.slice none 0 0, .iface 70 (.pointer (some ⟨pb, 0, none⟩))])
theorem ReadOut.two {M : List Pr} {bad : Bool} {e : Ending} {w' : World} (h : ReadOut M bad e w') : (M.length ≤ 20 → bad = false → ReadGood M e w') ∧ (¬ (M.length ≤ 20 ∧ bad = false) → ReadBad e) := by
  rcases h with ⟨h1, h2, ad, cap, h3, h4, h5⟩ | ⟨pb, er, at_, h1, h2, _⟩
  · exact ⟨fun _ _ => ⟨ad, cap, h3, h4, h5⟩, fun h => absurd ⟨h1, h2⟩ h⟩
  · refine ⟨fun g1 g2 => ?_, fun _ => ⟨pb, h2⟩⟩
    rcases h1 with ⟨_, h, _⟩ | ⟨h, _⟩
    · rw [g2] at h; cases h
    · omega

set_option maxHeartbeats 1000000 in
theorem one_long (a b : ByteArray) (ha : a.size ≤ 140737488351232) (hb : b.size ≤ 140737488351232) (hl : (600 : Int) < (a.size : Int) + (b.size : Int)) (w : World) (hp : PowLaid w) (hA : AtoiLaid w) :
    Calls Tryd.prog 7 #[.string a, .string b] w fun e w' => e = .returned (.bool true) ∧ Below w.heap.size w w' := by
  have R := Lib.hid (recorded_true w hp hA)
  clear hp hA
  go_enter Tryd.func7, Tryd.ntmps7
  go_wp2_with (go_at_call 21; refine R.out.mono ?_; rintro e w1 ⟨rfl, h1⟩)
  go_ret
  exact ⟨rfl, h1⟩

set_option maxHeartbeats 1000000 in
theorem one_bad1 (s : List UInt8) (t : List UInt8) (hl : s.length + t.length ≤ 600) (w : World) (hp : PowLaid w) (hA : AtoiLaid w)
    (hS : ∀ W, Below w.heap.size w W → Calls Tryd.prog 12 #[.string (mkS s)] W fun e w' => ReadBad e ∧ Below W.heap.size W w')
    (hT : ∀ W, Below w.heap.size w W → Calls Tryd.prog 12 #[.string (mkS t)] W fun e w' => (∃ ad n cap ev, e = .returned (.tuple #[.slice ad n cap, ev])) ∧ Below W.heap.size W w') :
    Calls Tryd.prog 7 #[.string (mkS s), .string (mkS t)] w fun e w' => e = .returned (.bool true) ∧ Below w.heap.size w w' := by
  have R := Lib.hid (recorded_true w hp hA)
  have S1 := Lib.hid hS
  have T1 := Lib.hid hT
  have z1 := mkS_size s
  have z2 := mkS_size t
  clear hp hA hS hT
  go_enter Tryd.func7, Tryd.ntmps7
  go_wp2_with (first
    | (go_at_call 21; refine R.out.mono ?_; rintro e w1 ⟨rfl, h1⟩)
    | (go_at_call 12; first | (refine (T1.out _ h12).mono ?_; rintro e w3 ⟨⟨ad, n, cap, ev, rfl⟩, h3⟩) | (refine (S1.out _ h1).mono ?_; rintro e w2 ⟨⟨pb, rfl⟩, h2⟩; have h12 := h1.trans (h2.mono h1.size))))
  go_ret
  exact ⟨rfl, h12.trans (h3.mono h12.size)⟩

set_option maxHeartbeats 1000000 in
theorem one_bad2 (s : List UInt8) (t : List UInt8) (hl : s.length + t.length ≤ 600) (w : World) (hp : PowLaid w) (hA : AtoiLaid w)
    (hS : ∀ W, Below w.heap.size w W → Calls Tryd.prog 12 #[.string (mkS s)] W fun e w' => (∃ ad n cap, e = .returned (.tuple #[.slice ad n cap, .nilIface])) ∧ Below W.heap.size W w')
    (hT : ∀ W, Below w.heap.size w W → Calls Tryd.prog 12 #[.string (mkS t)] W fun e w' => ReadBad e ∧ Below W.heap.size W w') :
    Calls Tryd.prog 7 #[.string (mkS s), .string (mkS t)] w fun e w' => e = .returned (.bool true) ∧ Below w.heap.size w w' := by
  have R := Lib.hid (recorded_true w hp hA)
  have S1 := Lib.hid hS
  have T1 := Lib.hid hT
  have z1 := mkS_size s
  have z2 := mkS_size t
  clear hp hA hS hT
  go_enter Tryd.func7, Tryd.ntmps7
  go_wp2_with (first
    | (go_at_call 21; refine R.out.mono ?_; rintro e w1 ⟨rfl, h1⟩)
    | (go_at_call 12; first | (refine (T1.out _ h12).mono ?_; rintro e w3 ⟨⟨pb, rfl⟩, h3⟩) | (refine (S1.out _ h1).mono ?_; rintro e w2 ⟨⟨ad, n, cap, rfl⟩, h2⟩; have h12 := h1.trans (h2.mono h1.size))))
  go_ret
  exact ⟨rfl, h12.trans (h3.mono h12.size)⟩

set_option maxHeartbeats 1000000 in
theorem one_many (s : List UInt8) (t : List UInt8) (hl : s.length + t.length ≤ 600) (A B : List Pr) (hA20 : A.length ≤ 20) (hB20 : B.length ≤ 20) (hmany : (20 : Int) < (A.length : Int) + (B.length : Int)) (w : World) (hp : PowLaid w) (hA : AtoiLaid w)
    (hS : ∀ W, Below w.heap.size w W → Calls Tryd.prog 12 #[.string (mkS s)] W fun e w' => ReadGood A e w' ∧ Below W.heap.size W w')
    (hT : ∀ W, Below w.heap.size w W → Calls Tryd.prog 12 #[.string (mkS t)] W fun e w' => ReadGood B e w' ∧ Below W.heap.size W w') :
    Calls Tryd.prog 7 #[.string (mkS s), .string (mkS t)] w fun e w' => e = .returned (.bool true) ∧ Below w.heap.size w w' := by
  have R := Lib.hid (recorded_true w hp hA)
  have S1 := Lib.hid hS
  have T1 := Lib.hid hT
  have z1 := mkS_size s
  have z2 := mkS_size t
  clear hp hA hS hT
  go_enter Tryd.func7, Tryd.ntmps7
  go_wp2_with (first
    | (go_at_call 21; refine R.out.mono ?_; rintro e w1 ⟨rfl, h1⟩)
    | (go_at_call 12; first | (refine (T1.out _ h12).mono ?_; rintro e w3 ⟨⟨bd, cbp, _, rfl, _⟩, h3⟩) | (refine (S1.out _ h1).mono ?_; rintro e w2 ⟨⟨ad, cap, _, rfl, _⟩, h2⟩; have h12 := h1.trans (h2.mono h1.size))))
  go_ret
  exact ⟨rfl, h12.trans (h3.mono h12.size)⟩

/-- Concat of the two that were read, in a slice made of them at this moment. -/
theorem concat_two (A B AB : List Pr) (hAB : A ++ B = AB) (hA : A.length ≤ 1000) (hB : B.length ≤ 1000) (ad bd : Option Addr) (ca cb : Nat) (ha : ad = none → ca = 0) (hb : bd = none → cb = 0) (W : World) (h1 : PairsAt W ad A) (h2 : PairsAt W bd B) :
    Calls Tryd.prog 27 #[.slice (some ⟨W.heap.size, 0, none⟩) 2 2] (W.alloc (.cells #[.slice ad A.length ca, .slice bd B.length cb] 22)) fun e w' => (∃ xd cx, e = .returned (.slice xd AB.length cx) ∧ PairsAt w' xd AB) ∧ Below W.heap.size W w' := by
  have hb0 := below_alloc1 W (.cells #[.slice ad A.length ca, .slice bd B.length cb] 22)
  refine (concat_any W.heap.size 2 [(.slice ad A.length ca, A), (.slice bd B.length cb, B)] (by simp) (fun x hx => ?_) _ (by simp) (fun i x hx => ?_)).mono fun e w' ⟨⟨v, he, hv⟩, hw⟩ => ⟨?_, hb0.trans (hw.mono (by simp))⟩
  · simp at hx
    rcases hx with rfl | rfl
    · exact hA
    · exact hB
  · match i, hx with
    | 0, hx => simp at hx; rw [← hx]; exact ⟨by simp, ad, ca, rfl, ha, h1.below hb0⟩
    | 1, hx => simp at hx; rw [← hx]; exact ⟨by simp, bd, cb, rfl, hb, h2.below hb0⟩
    | n + 2, hx => simp at hx
  · have e2 : ([(Value.slice ad A.length ca, A), (Value.slice bd B.length cb, B)].flatMap fun y => y.2) = AB := by rw [← hAB]; simp
    rw [e2] at hv
    obtain ⟨xd, cx, h3, _, h4⟩ := hv
    exact ⟨xd, cx, by rw [he, h3], h4⟩

set_option maxHeartbeats 2000000 in
theorem one_all (s : List UInt8) (t : List UInt8) (hl : s.length + t.length ≤ 600) (A B AB : List Pr) (hAB : A ++ B = AB) (hA20 : A.length ≤ 20) (hB20 : B.length ≤ 20) (hmany : ¬ (20 : Int) < (A.length : Int) + (B.length : Int)) (w : World) (hp : PowLaid w) (hA : AtoiLaid w)
    (hS : ∀ W, Below w.heap.size w W → Calls Tryd.prog 12 #[.string (mkS s)] W fun e w' => ReadGood A e w' ∧ Below W.heap.size W w')
    (hT : ∀ W, Below w.heap.size w W → Calls Tryd.prog 12 #[.string (mkS t)] W fun e w' => ReadGood B e w' ∧ Below W.heap.size W w')
    (hW : ∀ ad ca W, Below w.heap.size w W → PairsAt W ad A → Calls Tryd.prog 20 #[.slice ad A.length ca] W fun e w' => e = .returned (.tuple #[.string (mkS s), .nilIface]) ∧ Below W.heap.size W w')
    (hST : ∀ W, Below w.heap.size w W → Calls Tryd.prog 12 #[.string (mkS (s ++ t))] W fun e w' => ReadGood AB e w' ∧ Below W.heap.size W w') :
    Calls Tryd.prog 7 #[.string (mkS s), .string (mkS t)] w fun e w' => e = .returned (.bool true) ∧ Below w.heap.size w w' := by
  have R := Lib.hid (recorded_true w hp hA)
  have S1 := Lib.hid hS
  have T1 := Lib.hid hT
  have W1 := Lib.hid hW
  have U1 := Lib.hid hST
  have C1 := Lib.hid (concat_two A B AB hAB (by omega) (by omega))
  have hABl : AB.length ≤ 1000000 := by rw [← hAB, List.length_append]; omega
  have E1 := Lib.hid (fun a1 a2 c1 c2 => equal_same a1 a2 c1 c2 AB hABl)
  have z1 := mkS_size s
  have z2 := mkS_size t
  have z3 := fun w => mkS_cat s t (by omega) w
  clear hp hA hS hT hW hST hAB hABl
  go_enter Tryd.func7, Tryd.ntmps7
  go_wp2_with (first
    | (go_at_call 21; refine R.out.mono ?_; rintro e w1 ⟨rfl, h1⟩)
    | (go_at_call 20; refine (W1.out _ _ _ h13 (k1.out.2.below h3)).mono ?_; rintro e w4 ⟨rfl, h4⟩; have h14 := h13.trans (h4.mono h13.size); replace k1 := Lib.hid (And.intro k1.out.1 ((k1.out.2.below h3).below h4)); replace k2 := Lib.hid (And.intro k2.out.1 (k2.out.2.below h4)))
    | (go_at_call 27; refine (C1.out _ _ _ _ k1.out.1 k2.out.1 _ (k1.out.2.below h5) (k2.out.2.below h5)).mono ?_; rintro e w6 ⟨⟨xd, cx, rfl, k4⟩, h6⟩; replace k4 := Lib.hid k4; have h16 := h15.trans (h6.mono h15.size))
    | (go_at_call 23; refine (E1.out _ _ _ _ _ (k3.out.below h6) k4.out).mono ?_; rintro e w7 ⟨rfl, h7⟩)
    | (go_at_call 12; first
      | (refine (U1.out _ h14).mono ?_; rintro e w5 ⟨⟨dd, cd, _, rfl, k3⟩, h5⟩; have h15 := h14.trans (h5.mono h14.size); replace k3 := Lib.hid k3)
      | (refine (T1.out _ h12).mono ?_; rintro e w3 ⟨⟨bd, cbp, k20, rfl, k21⟩, h3⟩; have k2 := Lib.hid (And.intro k20 k21); clear k20 k21; have h13 := h12.trans (h3.mono h12.size))
      | (refine (S1.out _ h1).mono ?_; rintro e w2 ⟨⟨ad, cap, k10, rfl, k11⟩, h2⟩; have k1 := Lib.hid (And.intro k10 (k11)); clear k10 k11; have h12 := h1.trans (h2.mono h1.size))))
  go_ret
  exact ⟨by simp, h16.trans (h7.mono h16.size)⟩

theorem paxOne_walk (a : ByteArray) (wa : a.size ≤ 140737488351232) (b : ByteArray) (wb : b.size ≤ 140737488351232) (w : World) (hp : PowLaid w) (hA : AtoiLaid w) :
    Calls Tryd.prog 7 #[.string a, .string b] w fun e w' => e = .returned (.bool true) ∧ Below w.heap.size w w' := by
  by_cases hl : (600 : Int) < (a.size : Int) + (b.size : Int)
  · exact one_long a b wa wb hl w hp hA
  obtain ⟨s, rfl⟩ : ∃ k, a = mkS k := ⟨_, (mkS_self a).symm⟩
  obtain ⟨t, rfl⟩ : ∃ k, b = mkS k := ⟨_, (mkS_self b).symm⟩
  have z1 := mkS_size s
  have z2 := mkS_size t
  obtain ⟨A, bad1, hR1⟩ := read_is s.length s (Nat.le_refl _)
  obtain ⟨B, bad2, hR2⟩ := read_is t.length t (Nat.le_refl _)
  have hl2 : s.length + t.length ≤ 600 := by omega
  have RS := fun W (hb : Below w.heap.size w W) => read_any s (by omega) A bad1 hR1 W (hp.below hb) (hA.below hb)
  have RT := fun W (hb : Below w.heap.size w W) => read_any t (by omega) B bad2 hR2 W (hp.below hb) (hA.below hb)
  by_cases h1 : A.length ≤ 20 ∧ bad1 = false
  · by_cases h2 : B.length ≤ 20 ∧ bad2 = false
    · have GS := fun W (hb : Below w.heap.size w W) => (RS W hb).mono fun e w' h => And.intro (h.1.two.1 h1.1 h1.2) h.2
      have GT := fun W (hb : Below w.heap.size w W) => (RT W hb).mono fun e w' h => And.intro (h.1.two.1 h2.1 h2.2) h.2
      by_cases hm : (20 : Int) < (A.length : Int) + (B.length : Int)
      · exact one_many s t hl2 A B h1.1 h2.1 hm w hp hA GS GT
      · obtain ⟨rfl⟩ := h1.2
        obtain ⟨rfl⟩ := h2.2
        have hR3 := readIs_append s t A B hR1 hR2
        have hlen : (A ++ B).length ≤ 20 := by rw [List.length_append]; omega
        refine one_all s t hl2 A B (A ++ B) rfl h1.1 h2.1 hm w hp hA GS GT (fun ad ca W hb hM => ?_) (fun W hb => ?_)
        · have := write_all ad ca A h1.1 hR1.1 W (hp.below hb) hM
          rwa [hR1.2.2.1 rfl] at this
        · exact (read_any (s ++ t) (by rw [List.length_append]; omega) (A ++ B) false hR3 W (hp.below hb) (hA.below hb)).mono fun e w' h => ⟨h.1.two.1 hlen rfl, h.2⟩
    · exact one_bad2 s t hl2 w hp hA (fun W hb => (RS W hb).mono fun e w' h => by
        obtain ⟨ad, cap, _, he, _⟩ := h.1.two.1 h1.1 h1.2
        exact ⟨⟨ad, _, cap, he⟩, h.2⟩) (fun W hb => (RT W hb).mono fun e w' h => ⟨h.1.two.2 h2, h.2⟩)
  · exact one_bad1 s t hl2 w hp hA (fun W hb => (RS W hb).mono fun e w' h => ⟨h.1.two.2 h1, h.2⟩) (fun W hb => (RT W hb).mono fun e w' h => by
      refine ⟨?_, h.2⟩
      by_cases h2 : B.length ≤ 20 ∧ bad2 = false
      · obtain ⟨ad, cap, _, he, _⟩ := h.1.two.1 h2.1 h2.2
        exact ⟨ad, _, cap, _, he⟩
      · obtain ⟨pb, he⟩ := h.1.two.2 h2
        exact ⟨_, _, _, _, he⟩)
end Go.Proofs.YtheiamidochooaaDoor
