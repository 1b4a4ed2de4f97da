/- mode.Change. -/
import Derived.Test.YtalafhfpmkacgaaDoorChg
import Derived.Test.YtalafhfpmkacgaaDoorSpc
import Derived.Test.YtalafhfpmkacgaaDoorOco
import Derived.Test.YtalafhfpmkacgaaDoorErv
namespace Go.Proofs.YtalafhfpmkacgaaDoor
open Go.RowKit Go.Shelf Go.Joins
set_option linter.unusedVariables false
attribute [local go_sem] Oper.semAt_some

theorem change_any (m : Nat) (hm : m < 4096) (p : List UInt8) (hp : p.length ≤ 1000000) (dir : Bool) (w : World) :
    Calls Tryd.prog 30 #[.int .i64 (m : Int), .string (mkS p), .bool dir] w fun e W' => PartOut (partF dir m p) e ∧ Below w.heap.size w W' := (callsIn_wide (n := 6)).1 (change_in 6 (by omega) m hm p hp dir w)
theorem KeepsIn.refl (lo hi : Nat) (W : World) : KeepsIn lo hi W W := ⟨Nat.le_refl _, fun _ _ _ _ => rfl⟩
theorem KeepsIn.of_below {lo hi : Nat} {W W' : World} (h : Below W.heap.size W W') : KeepsIn lo hi W W' := ⟨h.size, fun k _ _ h3 => h.block k h3⟩
theorem KeepsIn.setCell (lo hi : Nat) (W : World) (b : Nat) (v : Value) (h : b < lo) : KeepsIn lo hi W (W.setCell ⟨b, 0, none⟩ v) :=
  ⟨by simp [World.setCell], fun k h1 _ _ => Below.heap_setCell W ⟨b, 0, none⟩ v k (fun e => absurd (show k = b from e) (by omega))⟩
theorem keeps_below {W W' : World} (h : Below W.heap.size W W') : KeepsOthers W W' := ⟨h.size, fun k o hk _ => (h.block k (Array.getElem?_eq_some_iff.1 hk).1).trans hk⟩

/-- Between two rounds: what the parts that have come make of m. -/
def CmI (B : Nat) (w : World) (m : Nat) (dir : Bool) (pre : List Pc) (W : World) : Prop :=
  ∃ k, (chF dir m (pre.map (·.1)) = some k ∧ k < 4096) ∧ Boxed W B 3 (.int .i64 (k : Int)) ∧ Boxed W (B + 1) 4 (.bool dir) ∧ Boxed W (B + 1 + 1) 3 (.int .i64 0) ∧ Boxed W (B + 1 + 1 + 1) 26 .nilIface ∧ Below w.heap.size w W
/-- A round has met a part of another form. -/
def CmX (B : Nat) (w : World) (m : Nat) (dir : Bool) (c : Code) (pre : List Pc) (W : World) : Prop :=
  (c = .ret ∧ chF dir m (pre.map (·.1)) = none) ∧ Boxed W (B + 1 + 1) 3 (.int .i64 0) ∧ Boxed W (B + 1 + 1 + 1) 26 (.iface 22 (.int .i64 3)) ∧ Below w.heap.size w W
theorem CmI.own (B : Nat) (w : World) (m : Nat) (dir : Bool) (D : Nat) (hD : w.heap.size ≤ D) : OwnFrom D (CmI B w m dir) := by
  rintro pre X Y row ⟨k, h0, h1, h2, h3, h4, h6⟩ hg hr
  have hr' : ∀ r, row = some r → ∃ o : Obj, X.heap[r]? = some o ∧ o.isCells = false := fun r e => (hr r e).2
  exact ⟨k, h0, boxed_keep h1 hg hr', boxed_keep h2 hg hr', boxed_keep h3 hg hr', boxed_keep h4 hg hr', ownFrom_below (β := Unit) (Nat.le_refl _) (B := D) hD () X Y row h6 hg hr⟩
theorem CmX.own (B : Nat) (w : World) (m : Nat) (dir : Bool) (c : Code) (D : Nat) (hD : w.heap.size ≤ D) : OwnFrom D (CmX B w m dir c) := by
  rintro pre X Y row ⟨h0, h3, h4, h6⟩ hg hr
  have hr' : ∀ r, row = some r → ∃ o : Obj, X.heap[r]? = some o ∧ o.isCells = false := fun r e => (hr r e).2
  exact ⟨h0, boxed_keep h3 hg hr', boxed_keep h4 hg hr', ownFrom_below (β := Unit) (Nat.le_refl _) (B := D) hD () X Y row h6 hg hr⟩
theorem CmI.below {B : Nat} {w : World} {m : Nat} {dir : Bool} {pre : List Pc} {W W' : World} (h : CmI B w m dir pre W) (hb : Below W.heap.size W W') : CmI B w m dir pre W' := by
  obtain ⟨k, h0, h1, h2, h3, h4, h6⟩ := h
  exact ⟨k, h0, boxed_below h1 hb, boxed_below h2 hb, boxed_below h3 hb, boxed_below h4 hb, h6.trans (hb.mono h6.size)⟩

/-- What Change answers. -/
def ChOut (r : Nat × Nat) (e : Ending) : Prop := e = .returned (.tuple #[.int .i64 (r.2 : Int), errV r.1])

set_option maxRecDepth 100000 in
set_option maxHeartbeats 4000000 in
theorem changeM_in (n : Nat) (hn : 6 ≤ n) (m : Int) (l : List UInt8) (hl : l.length ≤ 1000000) (dir : Bool) (w : World) (hA : AtoiLaid w) :
    CallsIn Fence.wide n Tryd.prog 11 #[.int .i64 m, .string (mkS l), .bool dir] w fun e W' => ChOut (changeF m l dir) e ∧ Below w.heap.size w W' := by
  have h1 : 1 ≤ n := by omega
  obtain ⟨PF, hPF⟩ : ∃ x, changeF m l dir = x := ⟨_, rfl⟩
  rw [hPF]
  have b0 := ((((Boxed.new w 3 (.int .i64 m)).alloc (.cells #[.bool dir] 4)).alloc (.cells #[.int .i64 0] 3)).alloc (.cells #[.nilIface] 26))
  have b1 := (((Boxed.new (w.alloc (.cells #[.int .i64 m] 3)) 4 (.bool dir)).alloc (.cells #[.int .i64 0] 3)).alloc (.cells #[.nilIface] 26))
  have b2 := ((Boxed.new ((w.alloc (.cells #[.int .i64 m] 3)).alloc (.cells #[.bool dir] 4)) 3 (.int .i64 0)).alloc (.cells #[.nilIface] 26))
  have b3 := Boxed.new (((w.alloc (.cells #[.int .i64 m] 3)).alloc (.cells #[.bool dir] 4)).alloc (.cells #[.int .i64 0] 3)) 26 .nilIface
  simp only [World.size_alloc] at b1 b2 b3
  have hB0 := below_alloc4 w (.cells #[.int .i64 m] 3) (.cells #[.bool dir] 4) (.cells #[.int .i64 0] 3) (.cells #[.nilIface] 26)
  have hsz : ((((w.alloc (.cells #[.int .i64 m] 3)).alloc (.cells #[.bool dir] 4)).alloc (.cells #[.int .i64 0] 3)).alloc (.cells #[.nilIface] 26)).heap.size = w.heap.size + 4 := by simp
  refine callsIn_of_wp_marks Tryd.func11 rfl trivial ?_ rfl
  simp only [Tryd.ntmps11, List.size_toArray, List.length_cons, List.length_nil, Nat.reduceAdd, Nat.reduceSub, Array.replicate_succ, Array.replicate_zero, List.push_toArray, List.append_toArray, List.nil_append, List.cons_append]
  by_cases hlo : m < 0
  · have HE := Lib.hid (show PF = (2, 0) from by rw [← hPF]; unfold changeF; rw [if_pos (by omega)])
    have k0 := b0.cell
    have k2 := b2.cell
    have k3 := b3.cell
    have z2 := b2.frozen
    have z3 := b3.frozen
    have HBX := Lib.hid (And.intro (And.intro b2 b3) hB0)
    clear b0 b1 b2 b3 hB0 hsz hPF hA
    gi_wp2
    refine ⟨.tuple #[.int .i64 0, .iface 22 (.int .i64 2)], by simp [results, Tryd.f11, go_sem], ?_, below_alloc4 _ _ _ _ _⟩
    rw [HE.out]; exact rfl
  · by_cases hhi : 4095 < m
    · have HE := Lib.hid (show PF = (2, 0) from by rw [← hPF]; unfold changeF; rw [if_pos (by omega)])
      have k0 := b0.cell
      have k2 := b2.cell
      have k3 := b3.cell
      have z2 := b2.frozen
      have z3 := b3.frozen
      have HBX := Lib.hid (And.intro (And.intro b2 b3) hB0)
      clear b0 b1 b2 b3 hB0 hsz hPF hA
      gi_wp2
      refine ⟨.tuple #[.int .i64 0, .iface 22 (.int .i64 2)], by simp [results, Tryd.f11, go_sem], ?_, below_alloc4 _ _ _ _ _⟩
      rw [HE.out]; exact rfl
    · obtain ⟨k, rfl⟩ := Int.eq_ofNat_of_zero_le (show 0 ≤ m by omega)
      have hf1 : Fence.wide.fn 27 := trivial
      have hf2 : Fence.wide.fn 28 := trivial
      have hf3 : Fence.wide.fn 29 := trivial
      have hcut : (⟨#[48, 49, 50, 51, 52, 53, 54, 55]⟩ : ByteArray) = mkS octS := rfl
      have e0 := mkS_emp_any l
      have e1 := mkS_emp_any (restS octS l)
      have T := Lib.hid (fun w => trimLeft_any octS l (by decide) (by decide) w)
      have HBX := Lib.hid (And.intro (And.intro (And.intro b0 b1) (And.intro b2 b3)) (And.intro hB0 hsz))
      have HA := Lib.hid hA
      have k0 := b0.cell
      clear b0 b1 b2 b3 hB0 hsz hA
      cases hd0 : decide (l = [])
      · rw [hd0] at e0
        cases hd1 : decide (restS octS l = [])
        · rw [hd1] at e1
          gi_wp2_with (first
            | (gi_at_call 27; refine (callsIn_wide.2 (T.out _)).mono ?_; rintro e w2 ⟨rfl, h2⟩)
            | (gi_at_call 29; refine (splitSeqO_in (n - 1) (by omega) l _).mono ?_; rintro e w' ⟨rfl, rfl⟩))
          obtain ⟨⟨⟨b0, b1⟩, b2, b3⟩, hB0, hsz⟩ := HBX.out
          have hge := h2.size
          rw [hsz] at hge
          have c0 := (((boxed_below b0 h2).alloc (.cells #[.string (mkS l)] 9)).alloc (.cells #[.string (mkS [44])] 9)).alloc (.cells #[.int .i64 0] 3)
          have c1 := (((boxed_below b1 h2).alloc (.cells #[.string (mkS l)] 9)).alloc (.cells #[.string (mkS [44])] 9)).alloc (.cells #[.int .i64 0] 3)
          have c2 := (((boxed_below b2 h2).alloc (.cells #[.string (mkS l)] 9)).alloc (.cells #[.string (mkS [44])] 9)).alloc (.cells #[.int .i64 0] 3)
          have c3 := (((boxed_below b3 h2).alloc (.cells #[.string (mkS l)] 9)).alloc (.cells #[.string (mkS [44])] 9)).alloc (.cells #[.int .i64 0] 3)
          have g0 := ((Boxed.new w2 9 (.string (mkS l))).alloc (.cells #[.string (mkS [44])] 9)).alloc (.cells #[.int .i64 0] 3)
          have g1 := (Boxed.new (w2.alloc (.cells #[.string (mkS l)] 9)) 9 (.string (mkS [44]))).alloc (.cells #[.int .i64 0] 3)
          have g2 := Boxed.new ((w2.alloc (.cells #[.string (mkS l)] 9)).alloc (.cells #[.string (mkS [44])] 9)) 3 (.int .i64 0)
          simp only [World.size_alloc] at g1 g2
          have hB2 : Below w.heap.size w w2 := hB0.trans (h2.mono (by omega))
          have hB3 := ((hB2.alloc hB2.size (.cells #[.string (mkS l)] 9)).alloc (by simp; have := hB2.size; omega) (.cells #[.string (mkS [44])] 9)).alloc (by simp; have := hB2.size; omega) (.cells #[.int .i64 0] 3)
          have hs3 : (((w2.alloc (.cells #[.string (mkS l)] 9)).alloc (.cells #[.string (mkS [44])] 9)).alloc (.cells #[.int .i64 0] 3)).heap.size = w2.heap.size + 3 := by simp
          have HPF := Lib.hid (show PF = match chF dir k (piecesC l) with | some v => (0, v) | none => (3, 0) from by
            rw [← hPF]
            unfold changeF
            rw [if_neg (by omega), if_neg (by rw [show octB l = false from by unfold octB; rw [hd0, hd1]; rfl]; decide)]
            rfl)
          clear b0 b1 b2 b3 h2 HBX hB0 hsz T hB2 hPF k0 e0 e1 HA
          generalize w2.heap.size = G at *
          generalize ((w2.alloc (.cells #[.string (mkS l)] 9)).alloc (.cells #[.string (mkS [44])] 9)).alloc (.cells #[.int .i64 0] 3) = W0 at *
          clear hf1 hf2 hf3
          refine wpIn_rangeFunc_boxS rfl h1 (gf := 71) (lb := #[.pointer (some ⟨G + 1, 0, none⟩), .pointer (some ⟨G, 0, none⟩), .pointer (some ⟨G + 1 + 1, 0, none⟩)]) rfl trivial (enters_of Tryd.func71 (by kernel_rfl) rfl)
            (splitSeq_stops (n - 1) (by omega) G l hl W0 g0 g1 g2) (by omega) KeepsIn.trans (fun W k o o' hk _ _ _ => KeepsIn.putObj W k o' (by omega)) (Below.refl _ _) (fun _ => rfl)
            (CmI w.heap.size w k dir) (CmX w.heap.size w k dir) (CmI.own _ w k dir _ (by omega)) (fun c => CmX.own _ w k dir c _ (by omega))
            (fun s W v hs => by
              obtain ⟨q, q0, q1, q2, q3, q4, q6⟩ := hs
              exact ⟨q, q0, q1.other (by omega) v, q2.other (by omega) v, q3.other (by omega) v, q4.other (by omega) v, q6.setCell (p := ⟨G, 0, none⟩) (by show w.heap.size ≤ G; omega) v⟩)
            ⟨k, ⟨rfl, by omega⟩, c0, c1, c2, c3, hB3⟩
            (fun x a' W => a' = { tmps := #[.int .i64 (k : Int), .string (mkS l), .bool dir, .pointer (some ⟨w.heap.size, 0, none⟩), undef, .pointer (some ⟨w.heap.size + 1, 0, none⟩), .pointer (some ⟨w.heap.size + 1 + 1, 0, none⟩), .pointer (some ⟨w.heap.size + 1 + 1 + 1, 0, none⟩), .string (mkS x.1), undef, undef, .int .i64 (k : Int), .bool false, .bool false, .int .i64 (k : Int), .bool false, .bool false, undef, .string (mkS l), .bool true, .bool true, .string (mkS l), .string (mkS (restS octS l)), .bool false, .bool false, undef, undef, undef, undef, .string (mkS l), .func (.func 71) #[] #[.pointer (some ⟨G + 1, 0, none⟩), .pointer (some ⟨G, 0, none⟩), .pointer (some ⟨G + 1 + 1, 0, none⟩)], .string (mkS x.1), undef, undef, undef, undef, undef, undef, undef, undef, undef, undef, undef, undef], defers := [] })
            (fun _ _ _ _ _ _ hs _ _ => hs)
            ?assign ?body ?done ?stop
          case assign =>
            intro lp pre x W Q hI hQ
            gi_wp2
            exact hQ _ _ (KeepsFrom.refl _ _) (KeepsIn.refl _ _ _) hI rfl
          case body =>
            rintro lp pre x a' W hlp hrec ⟨q, ⟨hq, hql⟩, d0, d1, d2, d3, hBW⟩ rfl hlt
            obtain ⟨p, hp⟩ := x
            have hfn : Fence.wide.fn 30 := trivial
            have n1 : 1 ≤ n - 1 - 1 := by omega
            have k0 := d0.cell
            have k1 := d1.cell
            have HZ := Lib.hid (show ∀ w3, Below W.heap.size W w3 → (w3.cell? ⟨w.heap.size, 0, none⟩ = some (.int .i64 (q : Int)) ∧ w3.frozen? ⟨w.heap.size, 0, none⟩ = false) ∧ (w3.cell? ⟨w.heap.size + 1 + 1, 0, none⟩ = some (.int .i64 0) ∧ w3.frozen? ⟨w.heap.size + 1 + 1, 0, none⟩ = false) ∧ (w3.cell? ⟨w.heap.size + 1 + 1 + 1, 0, none⟩ = some .nilIface ∧ w3.frozen? ⟨w.heap.size + 1 + 1 + 1, 0, none⟩ = false) from fun w3 hb =>
              ⟨⟨(boxed_below d0 hb).cell, (boxed_below d0 hb).frozen⟩, ⟨(boxed_below d2 hb).cell, (boxed_below d2 hb).frozen⟩, ⟨(boxed_below d3 hb).cell, (boxed_below d3 hb).frozen⟩⟩)
            cases hpart : partF dir q p with
            | some k' =>
              have C := Lib.hid (show Calls Tryd.prog 30 #[.int .i64 (q : Int), .string (mkS p), .bool dir] W fun e W' => e = .returned (.tuple #[.int .i64 (k' : Int), .bool true]) ∧ Below W.heap.size W W' from by
                have := change_any q hql p hp dir W
                rw [hpart] at this; exact this)
              have HN := Lib.hid (show ∀ w3, Below W.heap.size W w3 → KeepsFrom W0.heap.size W (w3.setCell ⟨w.heap.size, 0, none⟩ (.int .i64 (k' : Int))) ∧ KeepsIn G (G + 3) W (w3.setCell ⟨w.heap.size, 0, none⟩ (.int .i64 (k' : Int))) ∧ CmI w.heap.size w k dir (pre ++ [(⟨p, hp⟩ : Pc)]) (w3.setCell ⟨w.heap.size, 0, none⟩ (.int .i64 (k' : Int))) from fun w3 hb => by
                refine ⟨((keeps_below hb).trans (KeepsOthers.setCell _ _ _)).from _, (KeepsIn.of_below hb).trans (KeepsIn.setCell _ _ _ _ _ (by omega)), k', ⟨?_, partF_lt dir q p hql k' hpart⟩, (boxed_below d0 hb).set _, (boxed_below d1 hb).other (by omega) _, (boxed_below d2 hb).other (by omega) _, (boxed_below d3 hb).other (by omega) _, (hBW.trans (hb.mono hBW.size)).setCell (p := ⟨w.heap.size, 0, none⟩) (Nat.le_refl _) _⟩
                rw [List.map_append, chF_append, hq]
                show (partF dir q p).bind _ = _
                rw [hpart]; rfl)
              clear c0 c1 c2 c3 g0 g1 g2 hB3 d0 d1 d2 d3 hBW hq hpart
              gi_wp2_with (gi_at_call 30; refine (CallsIn.inRound lp (callsIn_wide.2 C.out)).mono ?_; rintro e w3 ⟨rfl, hb⟩; obtain ⟨⟨y0, z0⟩, _, _⟩ := HZ.out _ hb)
              exact HN.out _ hb
            | none =>
              have C := Lib.hid (show Calls Tryd.prog 30 #[.int .i64 (q : Int), .string (mkS p), .bool dir] W fun e W' => (∃ v, e = .returned (.tuple #[.int .i64 v, .bool false])) ∧ Below W.heap.size W W' from by
                have := change_any q hql p hp dir W
                rw [hpart] at this; exact this)
              have HN := Lib.hid (show ∀ w3, Below W.heap.size W w3 → KeepsFrom W0.heap.size W ((w3.setCell ⟨w.heap.size + 1 + 1, 0, none⟩ (.int .i64 0)).setCell ⟨w.heap.size + 1 + 1 + 1, 0, none⟩ (.iface 22 (.int .i64 3))) ∧ CmX w.heap.size w k dir .ret (pre ++ [(⟨p, hp⟩ : Pc)]) ((w3.setCell ⟨w.heap.size + 1 + 1, 0, none⟩ (.int .i64 0)).setCell ⟨w.heap.size + 1 + 1 + 1, 0, none⟩ (.iface 22 (.int .i64 3))) from fun w3 hb => by
                refine ⟨(((keeps_below hb).trans (KeepsOthers.setCell _ _ _)).trans (KeepsOthers.setCell _ _ _)).from _, ⟨rfl, ?_⟩, ((boxed_below d2 hb).set _).other (by omega) _, ((boxed_below d3 hb).other (by omega) _).set _, ((hBW.trans (hb.mono hBW.size)).setCell (p := ⟨w.heap.size + 1 + 1, 0, none⟩) (by simp; omega) _).setCell (p := ⟨w.heap.size + 1 + 1 + 1, 0, none⟩) (by simp; omega) _⟩
                rw [List.map_append, chF_append, hq]
                show (partF dir q p).bind _ = _
                rw [hpart]; rfl)
              clear c0 c1 c2 c3 g0 g1 g2 hB3 d0 d1 d2 d3 hBW hq hpart
              gi_wp2_with (gi_at_call 30; refine (CallsIn.inRound lp (callsIn_wide.2 C.out)).mono ?_; rintro e w3 ⟨⟨v, rfl⟩, hb⟩; obtain ⟨_, ⟨y2, z2⟩, y3, z3⟩ := HZ.out _ hb)
              exact HN.out _ hb
          case done =>
            rintro D xs W hD rfl ⟨q, ⟨hq, hql⟩, d0, d1, d2, d3, hBW⟩ hK
            rw [piecesS_val l hl] at hq
            have k0 := d0.cell
            have k2 := d2.cell
            have k3 := d3.cell
            have f2 := d2.frozen
            have f3 := d3.frozen
            have HB := Lib.hid (And.intro (And.intro d2 d3) (And.intro hBW (show PF = (0, q) from by rw [HPF.out, hq])))
            have hD' := hD
            clear c0 c1 c2 c3 g0 g1 g2 hB3 d0 d1 d2 d3 hBW hq HPF
            gi_wp2
            obtain ⟨⟨d2, d3⟩, hBW, hq⟩ := HB.out
            have hK' := ((KeepsOthers.setCell W ⟨w.heap.size + 1 + 1, 0, none⟩ (.int .i64 (q : Int))).trans (KeepsOthers.setCell _ ⟨w.heap.size + 1 + 1 + 1, 0, none⟩ .nilIface)).same D _ hK rfl
            refine ⟨by simp, .inl ⟨_, _, rfl, run_takeDeferred hK', ?_⟩⟩
            have x2 := cell_kept ((d2.set (.int .i64 (q : Int))).other (B' := w.heap.size + 1 + 1 + 1) (by omega) .nilIface).cell (grownBy_putObj' _ D (.deferred none)) (fun r e => by cases e; exact ⟨_, hK', rfl⟩)
            have x3 := cell_kept ((d3.other (B' := w.heap.size + 1 + 1) (by omega) (.int .i64 (q : Int))).set .nilIface).cell (grownBy_putObj' _ D (.deferred none)) (fun r e => by cases e; exact ⟨_, hK', rfl⟩)
            refine ⟨.tuple #[.int .i64 (q : Int), .nilIface], by simp [results, Tryd.f11, go_sem, x2, x3], ?_, ((hBW.setCell (p := ⟨w.heap.size + 1 + 1, 0, none⟩) (by simp; omega) _).setCell (p := ⟨w.heap.size + 1 + 1 + 1, 0, none⟩) (by simp; omega) _).trans (belowK_b (w := w) (Nat.le_refl _) _ D _ _ (by omega) hK' rfl rfl)⟩
            rw [hq]; exact rfl
          case stop =>
            rintro D cc pre W hD ⟨rr, hrr⟩ ⟨⟨rfl, hq⟩, d2, d3, hBW⟩ hK
            have hnone : chF dir k (piecesC l) = none := by
              rw [← piecesS_val l hl, ← hrr, List.map_append, chF_append, hq]; rfl
            have HB := Lib.hid (And.intro (And.intro d2 d3) (And.intro hBW (show PF = (3, 0) from by rw [HPF.out, hnone])))
            clear c0 c1 c2 c3 g0 g1 g2 hB3 d2 d3 hBW hnone hq hrr HPF
            gi_wp2
            obtain ⟨⟨d2, d3⟩, hBW, hq⟩ := HB.out
            refine ⟨by simp, .inl ⟨_, _, rfl, run_takeDeferred hK, ?_⟩⟩
            have x2 := cell_kept d2.cell (grownBy_putObj' _ D (.deferred none)) (fun r e => by cases e; exact ⟨_, hK, rfl⟩)
            have x3 := cell_kept d3.cell (grownBy_putObj' _ D (.deferred none)) (fun r e => by cases e; exact ⟨_, hK, rfl⟩)
            refine ⟨.tuple #[.int .i64 0, .iface 22 (.int .i64 3)], by simp [results, Tryd.f11, go_sem, x2, x3], ?_, hBW.trans (belowK_b (w := w) (Nat.le_refl _) W D _ _ (by omega) hK rfl rfl)⟩
            rw [hq]; exact rfl
        · rw [hd1] at e1
          have hoct : octB l = true := by unfold octB; rw [hd0, hd1]; rfl
          obtain ⟨⟨⟨b0, b1⟩, b2, b3⟩, hB0, hsz⟩ := HBX.out
          have HZ := Lib.hid (show ∀ w3, Below ((((w.alloc (.cells #[.int .i64 (k : Int)] 3)).alloc (.cells #[.bool dir] 4)).alloc (.cells #[.int .i64 0] 3)).alloc (.cells #[.nilIface] 26)).heap.size ((((w.alloc (.cells #[.int .i64 (k : Int)] 3)).alloc (.cells #[.bool dir] 4)).alloc (.cells #[.int .i64 0] 3)).alloc (.cells #[.nilIface] 26)) w3 → Boxed w3 (w.heap.size + 1 + 1) 3 (.int .i64 0) ∧ Boxed w3 (w.heap.size + 1 + 1 + 1) 26 .nilIface ∧ Below w.heap.size w w3 ∧ AtoiLaid w3 from fun w3 hb =>
            ⟨boxed_below b2 hb, boxed_below b3 hb, hB0.trans (hb.mono hB0.size), HA.out.below (hB0.trans (hb.mono hB0.size))⟩)
          have O := Lib.hid (fun w hA => octal_any l hoct hl w hA)
          clear b0 b1 b2 b3 hB0 hsz HBX
          have HPF := Lib.hid (show PF = if octV 0 l ≤ 4095 then (0, octV 0 l) else (2, 0) from by
            rw [← hPF]
            unfold changeF
            rw [if_neg (by omega), if_pos hoct])
          clear hPF hoct
          by_cases hv : octV 0 l ≤ 4095
          · have HE := Lib.hid (show PF = (0, octV 0 l) from by rw [HPF.out, if_pos hv])
            simp only [octOut_le hv] at O
            clear HPF hv
            gi_wp2_with (first
              | (gi_at_call 27; refine (callsIn_wide.2 (T.out _)).mono ?_; rintro e w2 ⟨rfl, h2⟩)
              | (gi_at_call 28; refine (callsIn_wide.2 (O.out _ (HZ.out _ h2).2.2.2)).mono ?_; rintro e w3 ⟨rfl, h3⟩; obtain ⟨q2, q3, q4, _⟩ := HZ.out _ (h2.trans (h3.mono h2.size)); have y2 := q2.cell; have y3 := q3.cell; have z2 := q2.frozen; have z3 := q3.frozen))
            have x2 : (World.setCell (World.setCell w3 ⟨w.heap.size + 1 + 1, 0, none⟩ (.int .i64 (octV 0 l : Int))) ⟨w.heap.size + 1 + 1 + 1, 0, none⟩ .nilIface).cell? ⟨w.heap.size + 1 + 1, 0, none⟩ = some (.int .i64 (octV 0 l : Int)) := ((q2.set (.int .i64 (octV 0 l : Int))).other (B' := w.heap.size + 1 + 1 + 1) (by omega) .nilIface).cell
            have x3 : (World.setCell (World.setCell w3 ⟨w.heap.size + 1 + 1, 0, none⟩ (.int .i64 (octV 0 l : Int))) ⟨w.heap.size + 1 + 1 + 1, 0, none⟩ .nilIface).cell? ⟨w.heap.size + 1 + 1 + 1, 0, none⟩ = some .nilIface := ((q3.other (B' := w.heap.size + 1 + 1) (by omega) (.int .i64 (octV 0 l : Int))).set .nilIface).cell
            refine ⟨.tuple #[.int .i64 (octV 0 l : Int), .nilIface], by simp [results, Tryd.f11, go_sem, x2, x3], ?_, (q4.setCell (p := ⟨w.heap.size + 1 + 1, 0, none⟩) (by simp; omega) _).setCell (p := ⟨w.heap.size + 1 + 1 + 1, 0, none⟩) (by simp; omega) _⟩
            rw [HE.out]; exact rfl
          · have HE := Lib.hid (show PF = (2, 0) from by rw [HPF.out, if_neg hv])
            simp only [octOut_gt hv] at O
            clear HPF hv
            gi_wp2_with (first
              | (gi_at_call 27; refine (callsIn_wide.2 (T.out _)).mono ?_; rintro e w2 ⟨rfl, h2⟩)
              | (gi_at_call 28; refine (callsIn_wide.2 (O.out _ (HZ.out _ h2).2.2.2)).mono ?_; rintro e w3 ⟨rfl, h3⟩; obtain ⟨q2, q3, q4, _⟩ := HZ.out _ (h2.trans (h3.mono h2.size)); have y2 := q2.cell; have y3 := q3.cell; have z2 := q2.frozen; have z3 := q3.frozen))
            have x2 : (World.setCell (World.setCell w3 ⟨w.heap.size + 1 + 1, 0, none⟩ (.int .i64 0)) ⟨w.heap.size + 1 + 1 + 1, 0, none⟩ (.iface 22 (.int .i64 2))).cell? ⟨w.heap.size + 1 + 1, 0, none⟩ = some (.int .i64 0) := ((q2.set (.int .i64 0)).other (B' := w.heap.size + 1 + 1 + 1) (by omega) (.iface 22 (.int .i64 2))).cell
            have x3 : (World.setCell (World.setCell w3 ⟨w.heap.size + 1 + 1, 0, none⟩ (.int .i64 0)) ⟨w.heap.size + 1 + 1 + 1, 0, none⟩ (.iface 22 (.int .i64 2))).cell? ⟨w.heap.size + 1 + 1 + 1, 0, none⟩ = some (.iface 22 (.int .i64 2)) := ((q3.other (B' := w.heap.size + 1 + 1) (by omega) (.int .i64 0)).set (.iface 22 (.int .i64 2))).cell
            refine ⟨.tuple #[.int .i64 0, (.iface 22 (.int .i64 2))], by simp [results, Tryd.f11, go_sem, x2, x3], ?_, (q4.setCell (p := ⟨w.heap.size + 1 + 1, 0, none⟩) (by simp; omega) _).setCell (p := ⟨w.heap.size + 1 + 1 + 1, 0, none⟩) (by simp; omega) _⟩
            rw [HE.out]; exact rfl
      · rw [hd0] at e0
        gi_wp2_with (gi_at_call 29; refine (splitSeqO_in (n - 1) (by omega) l _).mono ?_; rintro e w' ⟨rfl, rfl⟩)
        obtain ⟨w2, hw2⟩ : ∃ w2, ((((w.alloc (.cells #[.int .i64 (k : Int)] 3)).alloc (.cells #[.bool dir] 4)).alloc (.cells #[.int .i64 0] 3)).alloc (.cells #[.nilIface] 26)) = w2 := ⟨_, rfl⟩
        have hG : w.heap.size + 1 + 1 + 1 + 1 = w2.heap.size := by rw [← hw2]; simp
        have h2 : Below ((((w.alloc (.cells #[.int .i64 (k : Int)] 3)).alloc (.cells #[.bool dir] 4)).alloc (.cells #[.int .i64 0] 3)).alloc (.cells #[.nilIface] 26)).heap.size ((((w.alloc (.cells #[.int .i64 (k : Int)] 3)).alloc (.cells #[.bool dir] 4)).alloc (.cells #[.int .i64 0] 3)).alloc (.cells #[.nilIface] 26)) w2 := by rw [hw2]; exact Below.refl _ _
        rw [hw2, hG]
        clear hw2 hG
        obtain ⟨⟨⟨b0, b1⟩, b2, b3⟩, hB0, hsz⟩ := HBX.out
        have hge := h2.size
        rw [hsz] at hge
        have c0 := (((boxed_below b0 h2).alloc (.cells #[.string (mkS l)] 9)).alloc (.cells #[.string (mkS [44])] 9)).alloc (.cells #[.int .i64 0] 3)
        have c1 := (((boxed_below b1 h2).alloc (.cells #[.string (mkS l)] 9)).alloc (.cells #[.string (mkS [44])] 9)).alloc (.cells #[.int .i64 0] 3)
        have c2 := (((boxed_below b2 h2).alloc (.cells #[.string (mkS l)] 9)).alloc (.cells #[.string (mkS [44])] 9)).alloc (.cells #[.int .i64 0] 3)
        have c3 := (((boxed_below b3 h2).alloc (.cells #[.string (mkS l)] 9)).alloc (.cells #[.string (mkS [44])] 9)).alloc (.cells #[.int .i64 0] 3)
        have g0 := ((Boxed.new w2 9 (.string (mkS l))).alloc (.cells #[.string (mkS [44])] 9)).alloc (.cells #[.int .i64 0] 3)
        have g1 := (Boxed.new (w2.alloc (.cells #[.string (mkS l)] 9)) 9 (.string (mkS [44]))).alloc (.cells #[.int .i64 0] 3)
        have g2 := Boxed.new ((w2.alloc (.cells #[.string (mkS l)] 9)).alloc (.cells #[.string (mkS [44])] 9)) 3 (.int .i64 0)
        simp only [World.size_alloc] at g1 g2
        have hB2 : Below w.heap.size w w2 := hB0.trans (h2.mono (by omega))
        have hB3 := ((hB2.alloc hB2.size (.cells #[.string (mkS l)] 9)).alloc (by simp; have := hB2.size; omega) (.cells #[.string (mkS [44])] 9)).alloc (by simp; have := hB2.size; omega) (.cells #[.int .i64 0] 3)
        have hs3 : (((w2.alloc (.cells #[.string (mkS l)] 9)).alloc (.cells #[.string (mkS [44])] 9)).alloc (.cells #[.int .i64 0] 3)).heap.size = w2.heap.size + 3 := by simp
        have HPF := Lib.hid (show PF = match chF dir k (piecesC l) with | some v => (0, v) | none => (3, 0) from by
          rw [← hPF]
          unfold changeF
          rw [if_neg (by omega), if_neg (by rw [show octB l = false from by unfold octB; rw [hd0]; rfl]; decide)]
          rfl)
        clear b0 b1 b2 b3 h2 HBX hB0 hsz T hB2 hPF k0 e0 e1 HA
        generalize w2.heap.size = G at *
        generalize ((w2.alloc (.cells #[.string (mkS l)] 9)).alloc (.cells #[.string (mkS [44])] 9)).alloc (.cells #[.int .i64 0] 3) = W0 at *
        clear hf1 hf2 hf3
        refine wpIn_rangeFunc_boxS rfl h1 (gf := 71) (lb := #[.pointer (some ⟨G + 1, 0, none⟩), .pointer (some ⟨G, 0, none⟩), .pointer (some ⟨G + 1 + 1, 0, none⟩)]) rfl trivial (enters_of Tryd.func71 (by kernel_rfl) rfl)
          (splitSeq_stops (n - 1) (by omega) G l hl W0 g0 g1 g2) (by omega) KeepsIn.trans (fun W k o o' hk _ _ _ => KeepsIn.putObj W k o' (by omega)) (Below.refl _ _) (fun _ => rfl)
          (CmI w.heap.size w k dir) (CmX w.heap.size w k dir) (CmI.own _ w k dir _ (by omega)) (fun c => CmX.own _ w k dir c _ (by omega))
          (fun s W v hs => by
            obtain ⟨q, q0, q1, q2, q3, q4, q6⟩ := hs
            exact ⟨q, q0, q1.other (by omega) v, q2.other (by omega) v, q3.other (by omega) v, q4.other (by omega) v, q6.setCell (p := ⟨G, 0, none⟩) (by show w.heap.size ≤ G; omega) v⟩)
          ⟨k, ⟨rfl, by omega⟩, c0, c1, c2, c3, hB3⟩
          (fun x a' W => a' = { tmps := #[.int .i64 (k : Int), .string (mkS l), .bool dir, .pointer (some ⟨w.heap.size, 0, none⟩), undef, .pointer (some ⟨w.heap.size + 1, 0, none⟩), .pointer (some ⟨w.heap.size + 1 + 1, 0, none⟩), .pointer (some ⟨w.heap.size + 1 + 1 + 1, 0, none⟩), .string (mkS x.1), undef, undef, .int .i64 (k : Int), .bool false, .bool false, .int .i64 (k : Int), .bool false, .bool false, undef, .string (mkS l), .bool false, .bool false, undef, undef, undef, .bool false, undef, undef, undef, undef, .string (mkS l), .func (.func 71) #[] #[.pointer (some ⟨G + 1, 0, none⟩), .pointer (some ⟨G, 0, none⟩), .pointer (some ⟨G + 1 + 1, 0, none⟩)], .string (mkS x.1), undef, undef, undef, undef, undef, undef, undef, undef, undef, undef, undef, undef], defers := [] })
          (fun _ _ _ _ _ _ hs _ _ => hs)
          ?assign ?body ?done ?stop
        case assign =>
          intro lp pre x W Q hI hQ
          gi_wp2
          exact hQ _ _ (KeepsFrom.refl _ _) (KeepsIn.refl _ _ _) hI rfl
        case body =>
          rintro lp pre x a' W hlp hrec ⟨q, ⟨hq, hql⟩, d0, d1, d2, d3, hBW⟩ rfl hlt
          obtain ⟨p, hp⟩ := x
          have hfn : Fence.wide.fn 30 := trivial
          have n1 : 1 ≤ n - 1 - 1 := by omega
          have k0 := d0.cell
          have k1 := d1.cell
          have HZ := Lib.hid (show ∀ w3, Below W.heap.size W w3 → (w3.cell? ⟨w.heap.size, 0, none⟩ = some (.int .i64 (q : Int)) ∧ w3.frozen? ⟨w.heap.size, 0, none⟩ = false) ∧ (w3.cell? ⟨w.heap.size + 1 + 1, 0, none⟩ = some (.int .i64 0) ∧ w3.frozen? ⟨w.heap.size + 1 + 1, 0, none⟩ = false) ∧ (w3.cell? ⟨w.heap.size + 1 + 1 + 1, 0, none⟩ = some .nilIface ∧ w3.frozen? ⟨w.heap.size + 1 + 1 + 1, 0, none⟩ = false) from fun w3 hb =>
            ⟨⟨(boxed_below d0 hb).cell, (boxed_below d0 hb).frozen⟩, ⟨(boxed_below d2 hb).cell, (boxed_below d2 hb).frozen⟩, ⟨(boxed_below d3 hb).cell, (boxed_below d3 hb).frozen⟩⟩)
          cases hpart : partF dir q p with
          | some k' =>
            have C := Lib.hid (show Calls Tryd.prog 30 #[.int .i64 (q : Int), .string (mkS p), .bool dir] W fun e W' => e = .returned (.tuple #[.int .i64 (k' : Int), .bool true]) ∧ Below W.heap.size W W' from by
              have := change_any q hql p hp dir W
              rw [hpart] at this; exact this)
            have HN := Lib.hid (show ∀ w3, Below W.heap.size W w3 → KeepsFrom W0.heap.size W (w3.setCell ⟨w.heap.size, 0, none⟩ (.int .i64 (k' : Int))) ∧ KeepsIn G (G + 3) W (w3.setCell ⟨w.heap.size, 0, none⟩ (.int .i64 (k' : Int))) ∧ CmI w.heap.size w k dir (pre ++ [(⟨p, hp⟩ : Pc)]) (w3.setCell ⟨w.heap.size, 0, none⟩ (.int .i64 (k' : Int))) from fun w3 hb => by
              refine ⟨((keeps_below hb).trans (KeepsOthers.setCell _ _ _)).from _, (KeepsIn.of_below hb).trans (KeepsIn.setCell _ _ _ _ _ (by omega)), k', ⟨?_, partF_lt dir q p hql k' hpart⟩, (boxed_below d0 hb).set _, (boxed_below d1 hb).other (by omega) _, (boxed_below d2 hb).other (by omega) _, (boxed_below d3 hb).other (by omega) _, (hBW.trans (hb.mono hBW.size)).setCell (p := ⟨w.heap.size, 0, none⟩) (Nat.le_refl _) _⟩
              rw [List.map_append, chF_append, hq]
              show (partF dir q p).bind _ = _
              rw [hpart]; rfl)
            clear c0 c1 c2 c3 g0 g1 g2 hB3 d0 d1 d2 d3 hBW hq hpart
            gi_wp2_with (gi_at_call 30; refine (CallsIn.inRound lp (callsIn_wide.2 C.out)).mono ?_; rintro e w3 ⟨rfl, hb⟩; obtain ⟨⟨y0, z0⟩, _, _⟩ := HZ.out _ hb)
            exact HN.out _ hb
          | none =>
            have C := Lib.hid (show Calls Tryd.prog 30 #[.int .i64 (q : Int), .string (mkS p), .bool dir] W fun e W' => (∃ v, e = .returned (.tuple #[.int .i64 v, .bool false])) ∧ Below W.heap.size W W' from by
              have := change_any q hql p hp dir W
              rw [hpart] at this; exact this)
            have HN := Lib.hid (show ∀ w3, Below W.heap.size W w3 → KeepsFrom W0.heap.size W ((w3.setCell ⟨w.heap.size + 1 + 1, 0, none⟩ (.int .i64 0)).setCell ⟨w.heap.size + 1 + 1 + 1, 0, none⟩ (.iface 22 (.int .i64 3))) ∧ CmX w.heap.size w k dir .ret (pre ++ [(⟨p, hp⟩ : Pc)]) ((w3.setCell ⟨w.heap.size + 1 + 1, 0, none⟩ (.int .i64 0)).setCell ⟨w.heap.size + 1 + 1 + 1, 0, none⟩ (.iface 22 (.int .i64 3))) from fun w3 hb => by
              refine ⟨(((keeps_below hb).trans (KeepsOthers.setCell _ _ _)).trans (KeepsOthers.setCell _ _ _)).from _, ⟨rfl, ?_⟩, ((boxed_below d2 hb).set _).other (by omega) _, ((boxed_below d3 hb).other (by omega) _).set _, ((hBW.trans (hb.mono hBW.size)).setCell (p := ⟨w.heap.size + 1 + 1, 0, none⟩) (by simp; omega) _).setCell (p := ⟨w.heap.size + 1 + 1 + 1, 0, none⟩) (by simp; omega) _⟩
              rw [List.map_append, chF_append, hq]
              show (partF dir q p).bind _ = _
              rw [hpart]; rfl)
            clear c0 c1 c2 c3 g0 g1 g2 hB3 d0 d1 d2 d3 hBW hq hpart
            gi_wp2_with (gi_at_call 30; refine (CallsIn.inRound lp (callsIn_wide.2 C.out)).mono ?_; rintro e w3 ⟨⟨v, rfl⟩, hb⟩; obtain ⟨_, ⟨y2, z2⟩, y3, z3⟩ := HZ.out _ hb)
            exact HN.out _ hb
        case done =>
          rintro D xs W hD rfl ⟨q, ⟨hq, hql⟩, d0, d1, d2, d3, hBW⟩ hK
          rw [piecesS_val l hl] at hq
          have k0 := d0.cell
          have k2 := d2.cell
          have k3 := d3.cell
          have f2 := d2.frozen
          have f3 := d3.frozen
          have HB := Lib.hid (And.intro (And.intro d2 d3) (And.intro hBW (show PF = (0, q) from by rw [HPF.out, hq])))
          have hD' := hD
          clear c0 c1 c2 c3 g0 g1 g2 hB3 d0 d1 d2 d3 hBW hq HPF
          gi_wp2
          obtain ⟨⟨d2, d3⟩, hBW, hq⟩ := HB.out
          have hK' := ((KeepsOthers.setCell W ⟨w.heap.size + 1 + 1, 0, none⟩ (.int .i64 (q : Int))).trans (KeepsOthers.setCell _ ⟨w.heap.size + 1 + 1 + 1, 0, none⟩ .nilIface)).same D _ hK rfl
          refine ⟨by simp, .inl ⟨_, _, rfl, run_takeDeferred hK', ?_⟩⟩
          have x2 := cell_kept ((d2.set (.int .i64 (q : Int))).other (B' := w.heap.size + 1 + 1 + 1) (by omega) .nilIface).cell (grownBy_putObj' _ D (.deferred none)) (fun r e => by cases e; exact ⟨_, hK', rfl⟩)
          have x3 := cell_kept ((d3.other (B' := w.heap.size + 1 + 1) (by omega) (.int .i64 (q : Int))).set .nilIface).cell (grownBy_putObj' _ D (.deferred none)) (fun r e => by cases e; exact ⟨_, hK', rfl⟩)
          refine ⟨.tuple #[.int .i64 (q : Int), .nilIface], by simp [results, Tryd.f11, go_sem, x2, x3], ?_, ((hBW.setCell (p := ⟨w.heap.size + 1 + 1, 0, none⟩) (by simp; omega) _).setCell (p := ⟨w.heap.size + 1 + 1 + 1, 0, none⟩) (by simp; omega) _).trans (belowK_b (w := w) (Nat.le_refl _) _ D _ _ (by omega) hK' rfl rfl)⟩
          rw [hq]; exact rfl
        case stop =>
          rintro D cc pre W hD ⟨rr, hrr⟩ ⟨⟨rfl, hq⟩, d2, d3, hBW⟩ hK
          have hnone : chF dir k (piecesC l) = none := by
            rw [← piecesS_val l hl, ← hrr, List.map_append, chF_append, hq]; rfl
          have HB := Lib.hid (And.intro (And.intro d2 d3) (And.intro hBW (show PF = (3, 0) from by rw [HPF.out, hnone])))
          clear c0 c1 c2 c3 g0 g1 g2 hB3 d2 d3 hBW hnone hq hrr HPF
          gi_wp2
          obtain ⟨⟨d2, d3⟩, hBW, hq⟩ := HB.out
          refine ⟨by simp, .inl ⟨_, _, rfl, run_takeDeferred hK, ?_⟩⟩
          have x2 := cell_kept d2.cell (grownBy_putObj' _ D (.deferred none)) (fun r e => by cases e; exact ⟨_, hK, rfl⟩)
          have x3 := cell_kept d3.cell (grownBy_putObj' _ D (.deferred none)) (fun r e => by cases e; exact ⟨_, hK, rfl⟩)
          refine ⟨.tuple #[.int .i64 0, .iface 22 (.int .i64 3)], by simp [results, Tryd.f11, go_sem, x2, x3], ?_, hBW.trans (belowK_b (w := w) (Nat.le_refl _) W D _ _ (by omega) hK rfl rfl)⟩
          rw [hq]; exact rfl

theorem changeM_any (m : Int) (l : List UInt8) (hl : l.length ≤ 1000000) (dir : Bool) (w : World) (hA : AtoiLaid w) :
    Calls Tryd.prog 11 #[.int .i64 m, .string (mkS l), .bool dir] w fun e W' => ChOut (changeF m l dir) e ∧ Below w.heap.size w W' := (callsIn_wide (n := 6)).1 (changeM_in 6 (by omega) m l hl dir w hA)
end Go.Proofs.YtalafhfpmkacgaaDoor
