/- The law PaxWrites' walk: any records as text, the program's answer and the document's. -/
import Derived.Test.YtheiamidochooaaDoorWri
namespace Go.Proofs.YtheiamidochooaaDoor
open Go.RowKit Go.Joins

theorem refRecords_nil (ad : Option Addr) (cap : Nat) (w : World) :
    Calls Tryd.prog 19 #[.slice ad 0 cap] w fun e w' => e = .returned (.tuple #[.string (mkS []), flV 0 (-1)]) ∧ Below w.heap.size w w' := by
  have hF := FlAt.new w
  have hb0 := below_alloc1 w (.cells #[.int .i64 0, .int .i64 0] 25)
  have G := Lib.hid good_any
  go_enter Tryd.func19, Tryd.ntmps19
  go_wp2
  refine wp_loop_rounds 1 ?_
  rw [rounds_succ]
  go_wp2_with (go_at_call 39; refine (G.out _).mono ?_; rintro e w2 ⟨rfl, h2⟩; obtain ⟨f0, f1, f2, f3, f4⟩ := hF.below h2)
  obtain ⟨g0, g1⟩ := (hF.below h2).put 0 (-1)
  refine bodyPost_ret (v := .tuple #[.string (mkS []), flV 0 (-1)]) (by simp [results, Tryd.results19, go_sem, g0, g1]; rfl) rfl ⟨rfl, below_store (below_store (hb0.trans (h2.mono hb0.size)) _ _ (Nat.le_refl _) _) _ _ (Nat.le_refl _) _⟩
theorem write_nil (ad : Option Addr) (cap : Nat) (w : World) :
    Calls Tryd.prog 20 #[.slice ad 0 cap] w fun e w' => e = .returned (.tuple #[.string (mkS []), .nilIface]) ∧ Below w.heap.size w w' := by
  have hF := Lib.fresh_isBuilder 79 5 w
  have hb0 := below_alloc1 w (.cells #[.pointer none, .slice none 0 0] 79)
  have HS := Lib.hid (bld_String w.heap.size w.heap.size [] (w.alloc (.cells #[.pointer none, .slice none 0 0] 79)) hF hb0.size)
  clear hF
  go_enter Tryd.func20, Tryd.ntmps20
  go_wp2
  refine wp_loop_rounds 1 ?_
  rw [rounds_succ]
  go_wp2_with (go_at_call 48; refine HS.out.mono ?_; rintro e w2 ⟨rfl, h2⟩)
  go_ret2
  exact ⟨rfl, hb0.trans h2⟩

/-- The first that isn't valid, if any. -/
theorem first_bad (l : List (List UInt8 × List UInt8)) : ∃ m, m ≤ l.length ∧ GoodTo l m ∧ ∀ p, l[m]? = some p → rightP p.1 p.2 = false := by
  induction l with
  | nil => exact ⟨0, Nat.le_refl _, fun j p hj => by omega, fun p hp => by simp at hp⟩
  | cons q l ih =>
    cases hq : rightP q.1 q.2
    · exact ⟨0, Nat.zero_le _, fun j p hj => by omega, fun p hp => by simp at hp; rw [← hp]; exact hq⟩
    · obtain ⟨m, h1, h2, h3⟩ := ih
      refine ⟨m + 1, by simpa using h1, fun j p hj hp => ?_, fun p hp => h3 p (by simpa using hp)⟩
      cases j with
      | zero => simp at hp; rw [← hp]; exact hq
      | succ j => exact h2 j p (by omega) (by simpa using hp)

set_option maxHeartbeats 1000000 in
theorem paxWrites_core (ad : Option Addr) (cap : Nat) (n : Nat) (T : ByteArray) (a c : Int) (EV : Value → World → Prop) (φ : Prop) (w : World)
    (hH : Calls Tryd.prog 18 #[.slice ad n cap] w fun e w' => (∃ b, e = .returned (.bool b) ∧ (b = false → φ)) ∧ Below w.heap.size w w')
    (hR : φ → ∀ W, Below w.heap.size w W → Calls Tryd.prog 19 #[.slice ad n cap] W fun e w' => e = .returned (.tuple #[.string T, flV a c]) ∧ Below W.heap.size W w')
    (hW : φ → ∀ W, Below w.heap.size w W → Calls Tryd.prog 20 #[.slice ad n cap] W fun e w' => (∃ ev, e = .returned (.tuple #[.string T, ev]) ∧ EV ev w') ∧ Below W.heap.size W w')
    (hP : φ → ∀ ev W, EV ev W → Below w.heap.size w W → Calls Tryd.prog 13 #[ev, flV a c] W fun e w' => e = .returned (.bool true) ∧ Below W.heap.size W w') :
    Calls Tryd.prog 5 #[.slice ad n cap] w fun e w' => e = .returned (.bool true) ∧ Below w.heap.size w w' := by
  have Z := Lib.hid (show ∀ (W1 W2 : World), Below w.heap.size w W1 → Below (W1.alloc (.cells #[.int .i64 a, .int .i64 c] 25)).heap.size (W1.alloc (.cells #[.int .i64 a, .int .i64 c] 25)) W2 →
      Below w.heap.size w (W1.alloc (.cells #[.int .i64 a, .int .i64 c] 25)) ∧ W2.cell? ⟨W1.heap.size, 0, none⟩ = some (.int .i64 a) ∧ W2.cell? ⟨W1.heap.size, 1, none⟩ = some (.int .i64 c) ∧ Below w.heap.size w W2 from fun W1 W2 h1 h2 => by
    have h3 := h1.alloc h1.size (.cells #[.int .i64 a, .int .i64 c] 25)
    exact ⟨h3, (h2.cell (p := ⟨W1.heap.size, 0, none⟩) (by simp)).trans (by simp), (h2.cell (p := ⟨W1.heap.size, 1, none⟩) (by simp)).trans (by simp), h3.trans (h2.mono h3.size)⟩)
  have H := Lib.hid hH
  have R := Lib.hid hR
  have W0 := Lib.hid hW
  have P := Lib.hid hP
  clear hH hR hW hP
  go_enter Tryd.func5, Tryd.ntmps5
  go_wp2_with (first
    | (go_at_call 18; refine H.out.mono ?_; rintro e w1 ⟨⟨bh, rfl, hφ⟩, h1⟩; replace hφ := Lib.hid hφ; cases bh)
    | (go_at_call 19; refine (R.out (hφ.out trivial) _ h1).mono ?_; rintro e w2 ⟨rfl, h2⟩; have h12 := h1.trans (h2.mono h1.size))
    | (go_at_call 20; refine (W0.out (hφ.out trivial) _ (h12.alloc h12.size _)).mono ?_; rintro e w3 ⟨⟨ev, rfl, hev⟩, h3⟩; obtain ⟨_, z1, z2, z3⟩ := Z.out _ _ h12 h3; have HV := Lib.hid hev; clear hev)
    | (go_at_call 13; refine (P.out (hφ.out trivial) _ _ HV.out z3).mono ?_; rintro e w4 ⟨rfl, h4⟩))
  · go_ret
    exact ⟨by simp, z3.trans (h4.mono z3.size)⟩
  · go_ret
    exact ⟨rfl, h1⟩

theorem paxWrites_walk (ad : Option Addr) (cap : Nat) (l : List (List UInt8 × List UInt8)) (hl : l.length ≤ maxLen) (hz : ∀ p ∈ l, p.1.length ≤ reachBytes ∧ p.2.length ≤ reachBytes) (w : World) (hM : PairsAt w ad l) (hg : ErrLaid w) (hp : PowLaid w) :
    Calls Tryd.prog 5 #[.slice ad l.length cap] w fun e w' => e = .returned (.bool true) ∧ Below w.heap.size w w' := by
  have hH := heavy_any ad cap l hl hz w hM
  have HE := fun W (h : Below w.heap.size w W) => hg.below h
  by_cases h20 : 20 < l.length
  · exact paxWrites_core ad cap l.length (mkS []) 4 (-1) (fun ev _ => ev = .iface 23 (.int .i64 4)) _ w hH
      (fun _ W _ => refRecords_many ad cap l hl h20 W) (fun _ W _ => (write_many ad cap l hl h20 W).mono fun e w' ⟨h1, h2⟩ => ⟨⟨_, h1, rfl⟩, h2⟩)
      (fun _ ev W he hb => by subst he; exact placed_err 4 W (HE W hb))
  · rcases hM.cases with rfl | ⟨b, off, rfl, hlt, hRow⟩
    · exact paxWrites_core ad cap 0 (mkS []) 0 (-1) (fun ev _ => ev = .nilIface) _ w hH
        (fun _ W _ => refRecords_nil ad cap W) (fun _ W _ => (write_nil ad cap W).mono fun e w' ⟨h1, h2⟩ => ⟨⟨_, h1, rfl⟩, h2⟩)
        (fun _ ev W he hb => by subst he; exact placed_nil W)
    · obtain ⟨m, hm, hG, hB⟩ := first_bad l
      have hs : (l.length ≤ 30 ∧ ∀ p ∈ l, p.1.length + p.2.length ≤ 300) → ∀ p ∈ l, p.1.length ≤ 100000 ∧ p.2.length ≤ 100000 := fun h p hp => by have := h.2 p hp; omega
      by_cases hml : m = l.length
      · subst hml
        refine paxWrites_core _ cap l.length (mkS (recsL l)) 0 (-1) (fun ev _ => ev = .nilIface) _ w hH
          (fun h W hb => ?_) (fun h W hb => ?_) (fun _ ev W he hb => by subst he; exact placed_nil W)
        · have := refRecords_row b off cap l (by omega) (hs h) l.length hm hG hB W (hp.below hb) (Nat.lt_of_lt_of_le hlt hb.size) (hRow.below hlt hb)
          rwa [recsV_all] at this
        · refine (write_row b off cap l (by omega) (hs h) l.length hm hG hB W (hp.below hb) (Nat.lt_of_lt_of_le hlt hb.size) (hRow.below hlt hb)).mono fun e w' ⟨h1, h2⟩ => ?_
          rcases h1 with ⟨_, h1⟩ | ⟨h1, _⟩
          · exact ⟨⟨_, h1, rfl⟩, h2⟩
          · omega
      · refine paxWrites_core _ cap l.length (mkS []) 1 m (fun ev W => ∃ pb, ev = .iface 70 (.pointer (some ⟨pb, 0, none⟩)) ∧ W.cell? ⟨pb, 0, none⟩ = some (.int .i64 1) ∧ W.cell? ⟨pb, 1, none⟩ = some (.int .i64 m)) _ w hH
          (fun h W hb => ?_) (fun h W hb => ?_) (fun _ ev W he hb => by obtain ⟨pb, rfl, h1, h2⟩ := he; exact placed_at 1 m pb W (HE W hb) h1 h2)
        · have := refRecords_row b off cap l (by omega) (hs h) m hm hG hB W (hp.below hb) (Nat.lt_of_lt_of_le hlt hb.size) (hRow.below hlt hb)
          rwa [recsV_bad l m (by omega)] at this
        · refine (write_row b off cap l (by omega) (hs h) m hm hG hB W (hp.below hb) (Nat.lt_of_lt_of_le hlt hb.size) (hRow.below hlt hb)).mono fun e w' ⟨h1, h2⟩ => ?_
          rcases h1 with ⟨h1, _⟩ | ⟨_, pb, h1, h3, h4⟩
          · exact absurd h1 hml
          · exact ⟨⟨_, h1, pb, rfl, h3, h4⟩, h2⟩
end Go.Proofs.YtheiamidochooaaDoor
