/- The law PaxReads' walk: what is read of any text, the program's answer and the document's. -/
import Derived.Test.YtheiamidochooaaDoorRrw
import Derived.Test.YtheiamidochooaaDoorEqp
import Derived.Lib.LaidU8
namespace Go.Proofs.YtheiamidochooaaDoor
open Go.RowKit Go.Joins
set_option linter.unusedVariables false

theorem iface_of_trod {P : Program} {w : World} {base : Nat} {sp : Nat → Bool} {held : Bool} {fuel : Nat} {t : TypeId} {cs : List Value} {nm : String} {d : DataW Unit} {p : List MemPlace} {ms}
    (ht : P.underlying t = some (.interface ms)) (h : DataW.trod (fun _ => ()) P w base sp held fuel t cs = some (.iface nm d, p)) : ∃ te pe, cs = [.iface te pe] := by
  cases fuel with
  | zero => simp [DataW.trod] at h
  | succ n =>
    unfold DataW.trod at h
    rw [ht] at h
    split at h <;> first | (simp at h; done) | exact ⟨_, _, rfl⟩ | skip
    all_goals (rename_i hh; cases hh)
theorem iface_of_reads {W : World} {name : String} {g : Nat} {t : TypeId} {nm : String} {d : DataW Unit} {ms} (hg : Tryd.prog.globalNamed name = some g) (hty : (Tryd.prog.globals[g]?).map (·.type) = some t) (ht : Tryd.prog.underlying t = some (.interface ms))
    (h : Lib.VarReads Tryd.prog W name (.iface nm d)) : ∃ te pe, W.cell? ⟨g, 0, none⟩ = some (.iface te pe) := by
  obtain ⟨g', t', cs, fuel, p, hg', ht', hvar, hd⟩ := h
  obtain rfl := Option.some.inj (hg.symm.trans hg')
  obtain rfl := Option.some.inj (hty.symm.trans ht')
  obtain ⟨te, pe, hcs⟩ := iface_of_trod ht hd
  have h0 := World.var?_cell hg hvar 0
  refine ⟨te, pe, ?_⟩
  have : cs[0]? = some (.iface te pe) := by
    rw [← Array.getElem?_toList, hcs]; rfl
  rw [this] at h0
  simpa using h0
theorem atoiLaid_of {W : World} {n1 n2 : String} {d1 d2 : DataW Unit} (h1 : Lib.VarReads Tryd.prog W "strconv.ErrSyntax" (.iface n1 d1)) (h2 : Lib.VarReads Tryd.prog W "strconv.ErrRange" (.iface n2 d2)) : AtoiLaid W :=
  ⟨iface_of_reads (g := 3) (t := 29) (by kernel_rfl) (by kernel_rfl) Tryd.underlying29 h1, iface_of_reads (g := 4) (t := 29) (by kernel_rfl) (by kernel_rfl) Tryd.underlying29 h2⟩

set_option maxHeartbeats 1000000 in
theorem paxReads_core (s : List UInt8) (hs : s.length ≤ 600) (T : List Pr) (hT : T.length ≤ 1000000) (er pl : Int) (EV : Value → World → Prop) (w : World)
    (hA : ∀ W, Below w.heap.size w W → Calls Tryd.prog 11 #[.string (mkS s)] W fun e w' => (∃ ad cap, e = .returned (.tuple #[.slice ad T.length cap, flV er pl]) ∧ PairsAt w' ad T) ∧ Below W.heap.size W w')
    (hB : ∀ W, Below w.heap.size w W → Calls Tryd.prog 12 #[.string (mkS s)] W fun e w' => (∃ ad cap ev, e = .returned (.tuple #[.slice ad T.length cap, ev]) ∧ PairsAt w' ad T ∧ EV ev w') ∧ Below W.heap.size W w')
    (hP : ∀ ev W, EV ev W → Below w.heap.size w W → Calls Tryd.prog 13 #[ev, flV er pl] W fun e w' => e = .returned (.bool true) ∧ Below W.heap.size W w') :
    Calls Tryd.prog 3 #[.string (mkS s)] w fun e w' => e = .returned (.bool true) ∧ Below w.heap.size w w' := by
  have z1 := mkS_size s
  have hs' : ¬ (600 : Int) < (s.length : Int) := by omega
  have Z := Lib.hid (show ∀ (W1 W2 : World), Below w.heap.size w W1 → Below (W1.alloc (.cells #[.int .i64 er, .int .i64 pl] 25)).heap.size (W1.alloc (.cells #[.int .i64 er, .int .i64 pl] 25)) W2 →
      Below w.heap.size w (W1.alloc (.cells #[.int .i64 er, .int .i64 pl] 25)) ∧ W2.cell? ⟨W1.heap.size, 0, none⟩ = some (.int .i64 er) ∧ W2.cell? ⟨W1.heap.size, 1, none⟩ = some (.int .i64 pl) ∧ Below w.heap.size w W2 ∧ Below W1.heap.size W1 W2 from fun W1 W2 h1 h2 => by
    have h3 := h1.alloc h1.size (.cells #[.int .i64 er, .int .i64 pl] 25)
    exact ⟨h3, (h2.cell (p := ⟨W1.heap.size, 0, none⟩) (by simp)).trans (by simp), (h2.cell (p := ⟨W1.heap.size, 1, none⟩) (by simp)).trans (by simp), h3.trans (h2.mono h3.size), (below_alloc1 W1 _).trans (h2.mono (below_alloc1 W1 _).size)⟩)
  have A1 := Lib.hid hA
  have B1 := Lib.hid hB
  have P := Lib.hid hP
  have S1 := Lib.hid (fun a1 a2 c1 c2 W h1 h2 => samePairs_same a1 a2 c1 c2 T hT W h1 h2)
  clear hA hB hP
  go_enter Tryd.func3, Tryd.ntmps3
  go_wp2_with (first
    | (go_at_call 11; refine (A1.out _ (Below.refl _ _)).mono ?_; rintro e w2 ⟨⟨ad, cap, rfl, hp2⟩, h2⟩; replace hp2 := Lib.hid hp2)
    | (go_at_call 12; refine (B1.out _ (h2.alloc h2.size _)).mono ?_; rintro e w3 ⟨⟨bd, cbp, ev, rfl, hp3, hev⟩, h3⟩; obtain ⟨_, z2, z3, z4, z5⟩ := Z.out _ _ h2 h3; replace hp3 := Lib.hid hp3; replace hev := Lib.hid hev)
    | (go_at_call 13; refine (P.out _ _ hev.out z4).mono ?_; rintro e w4 ⟨rfl, h4⟩)
    | (go_at_call 14; refine (S1.out _ _ _ _ _ (hp3.out.below h4) ((hp2.out.below z5).below h4)).mono ?_; rintro e w5 ⟨rfl, h5⟩))
  go_ret
  have z6 := z4.trans (h4.mono z4.size)
  exact ⟨by simp, z6.trans (h5.mono z6.size)⟩

theorem paxReads_walk (a : ByteArray) (_wa : a.size ≤ maxLen) (w : World) (hg : ErrLaid w) (hp : PowLaid w) (hA : AtoiLaid w) :
    Calls Tryd.prog 3 #[.string a] w fun e w' => e = .returned (.bool true) ∧ Below w.heap.size w w' := by
  obtain ⟨s, rfl⟩ : ∃ k, a = mkS k := ⟨_, (mkS_self a).symm⟩
  have z1 := mkS_size s
  by_cases hs : (600 : Int) < (s.length : Int)
  · go_enter Tryd.func3, Tryd.ntmps3
    go_wp2
    go_ret
    exact ⟨rfl, Below.refl _ _⟩
  obtain ⟨M, bad, hR⟩ := read_is s.length s (Nat.le_refl _)
  by_cases hok : M.length ≤ 20 ∧ bad = false
  · refine paxReads_core s (by omega) M (by omega) 0 (-1) (fun ev _ => ev = .nilIface) w (fun W hb => ?_) (fun W hb => ?_) (fun ev W he hb => by subst he; exact placed_nil W)
    · refine (recordsRead_any s (by omega) M bad hR W (hp.below hb)).mono fun e w' ⟨he, hw⟩ => ⟨?_, hw⟩
      rcases he with ⟨_, _, h⟩ | ⟨er, at_, ⟨_, h, _⟩ | ⟨h, _⟩, _⟩
      · exact h
      · rw [hok.2] at h; cases h
      · omega
    · refine (read_any s (by omega) M bad hR W (hp.below hb) (hA.below hb)).mono fun e w' ⟨he, hw⟩ => ⟨?_, hw⟩
      rcases he with ⟨_, _, ad, cap, h1, h2⟩ | ⟨pb, er, at_, ⟨_, h, _⟩ | ⟨h, _⟩, _⟩
      · exact ⟨ad, cap, _, h1, h2, rfl⟩
      · rw [hok.2] at h; cases h
      · omega
  · obtain ⟨er, at_, hout⟩ : ∃ (er : Int) (at_ : Nat), ∀ (er' : Int) (at' : Nat), ((M.length ≤ 20 ∧ bad = true ∧ er' = 3 ∧ at' = offL M M.length) ∨ (20 < M.length ∧ er' = 4 ∧ at' = offL M 20)) → er' = er ∧ at' = at_ := by
      by_cases h20 : 20 < M.length
      · refine ⟨4, offL M 20, fun er' at' h => ?_⟩
        rcases h with ⟨h, _⟩ | ⟨_, h1, h2⟩
        · omega
        · exact ⟨h1, h2⟩
      · refine ⟨3, offL M M.length, fun er' at' h => ?_⟩
        rcases h with ⟨_, _, h1, h2⟩ | ⟨h, _⟩
        · exact ⟨h1, h2⟩
        · omega
    refine paxReads_core s (by omega) [] (by simp) er at_ (fun ev W => ∃ pb, ev = .iface 70 (.pointer (some ⟨pb, 0, none⟩)) ∧ W.cell? ⟨pb, 0, none⟩ = some (.int .i64 er) ∧ W.cell? ⟨pb, 1, none⟩ = some (.int .i64 (at_ : Nat))) w (fun W hb => ?_) (fun W hb => ?_)
      (fun ev W he hb => by obtain ⟨pb, rfl, h1, h2⟩ := he; exact placed_at er at_ pb W (hg.below hb) h1 h2)
    · refine (recordsRead_any s (by omega) M bad hR W (hp.below hb)).mono fun e w' ⟨he, hw⟩ => ⟨?_, hw⟩
      rcases he with ⟨h1, h2, _⟩ | ⟨er', at', h, he⟩
      · exact absurd ⟨h1, h2⟩ hok
      · obtain ⟨rfl, rfl⟩ := hout _ _ h
        exact ⟨none, 0, he, fun i p hi => by simp at hi⟩
    · refine (read_any s (by omega) M bad hR W (hp.below hb) (hA.below hb)).mono fun e w' ⟨he, hw⟩ => ⟨?_, hw⟩
      rcases he with ⟨h1, h2, _⟩ | ⟨pb, er', at', h, he, h3, h4⟩
      · exact absurd ⟨h1, h2⟩ hok
      · obtain ⟨rfl, rfl⟩ := hout _ _ h
        exact ⟨none, 0, _, he, fun i p hi => by simp at hi, pb, rfl, h3, h4⟩
end Go.Proofs.YtheiamidochooaaDoor
