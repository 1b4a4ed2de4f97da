/- The reference's RecordsRead: its walk. -/
import Derived.Test.YtheiamidochooaaDoorRr
import Derived.OwnWalk
namespace Go.Proofs.YtheiamidochooaaDoor
open Go.RowKit Go.Joins
set_option linter.unusedVariables false

theorem index32 (k : List UInt8) (w : World) : Calls Tryd.prog 38 #[.string (mkS k), .int .u8 32] w fun e w' => e = .returned (.int .i64 (Lib.indexByte k 32)) ∧ w' = w := by
  have h := Tryd.strings_IndexByte (mkS k) 32 w
  rwa [mkS_list] at h
/-- What RecordsRead hands back of a text that is read so. -/
def RrOut (M : List Pr) (bad : Bool) (e : Ending) (w' : World) : Prop :=
  (M.length ≤ 20 ∧ bad = false ∧ ∃ ad cap, e = .returned (.tuple #[.slice ad M.length cap, flV 0 (-1)]) ∧ PairsAt w' ad M) ∨
  (∃ er at_, ((M.length ≤ 20 ∧ bad = true ∧ er = 3 ∧ at_ = offL M M.length) ∨ (20 < M.length ∧ er = 4 ∧ at_ = offL M 20)) ∧ e = .returned (.tuple #[.slice none 0 0, flV er (at_ : Nat)]))
/-- What the loops keep. -/
def RrA (w : World) (M : List Pr) (i : Nat) (v : Value) (W : World) : Prop := Below w.heap.size w W ∧ FlAt W w.heap.size ∧ W.ownsRow (w.heap.size + 1) 36 2 v i (pairCells (M.take i))
theorem RrA.below {w : World} {M : List Pr} {i : Nat} {v : Value} {W W' : World} (h : RrA w M i v W) (hb : Below W.heap.size W W') : RrA w M i v W' :=
  ⟨h.1.trans (hb.mono h.1.size), h.2.1.below hb, own_below h.2.2 hb⟩
/-- the ends that were tried are none. -/
def Miss (s : List UInt8) (off e : Nat) : Prop := ∀ e', off < e' → e' < e → ¬ Hit s off e'
theorem Miss.succ {s : List UInt8} {off e : Nat} (h : Miss s off e) (hn : ¬ Hit s off e) : Miss s off (e + 1) := fun e' h1 h2 => by
  by_cases he : e' = e
  · subst he; exact hn
  · exact h e' h1 (by omega)

theorem idx_at (c : UInt8) (u : List UInt8) (n : Nat) (h : Lib.indexByte u c = (n : Int)) : u[n]? = some c := by
  cases hc : u.contains c
  · rw [index_no c u hc] at h; omega
  · obtain ⟨i1, i2⟩ := index_yes c u hc
    rw [i1] at h
    have hn : (wholeOf c u).length = n := by omega
    rw [i2, ← hn, List.getElem?_append_right (Nat.le_refl _)]
    simp
theorem seg_idx (s : List UInt8) (off e : Nat) (he : e ≤ s.length) (hc : s[e - 1]? = some 10) (a b : Nat) (ha : Lib.indexByte (segL s off e) 32 = (a : Int)) (hb : Lib.indexByte (segL s off e) 61 = (b : Int)) (hab : a ≤ b) :
    a + 1 ≤ b ∧ off + b + 1 ≤ e - 1 := by
  have h1 := idx_at _ _ _ ha
  have h2 := idx_at _ _ _ hb
  have hl : (segL s off e).length = e - off := by unfold segL; rw [List.length_take, List.length_drop]; omega
  have h3 := (List.getElem?_eq_some_iff.1 h2).1
  rw [hl] at h3
  have hne : a ≠ b := by rintro rfl; rw [h1] at h2; cases h2
  have hne2 : off + b ≠ e - 1 := fun h => by
    unfold segL at h2
    rw [List.getElem?_take, if_pos h3, List.getElem?_drop, h, hc] at h2
    cases h2
  omega

/-- A list of pairs that lies at or beyond a block. -/
def PairsFrom (base : Nat) (W : World) (ad : Option Addr) (l : List Pr) : Prop := (∀ a, ad = some a → l ≠ [] → base ≤ a.block) ∧ PairsAt W ad l
theorem row_pairs {W : World} {base : Nat} {e : TypeId} {ad : Option Addr} {cap : Nat} {M : List Pr} (h : W.ownsRow base e 2 (.slice ad M.length cap) M.length (pairCells M)) : PairsFrom base W ad M := by
  refine ⟨fun a ha hM => ?_, pairsAt_of_row h⟩
  rcases h.2 with ⟨_, h0⟩ | ⟨g, cap', cur, hv, hg, _⟩
  · exact absurd (List.length_eq_zero_iff.1 h0) hM
  · injection hv with e1 e2 e3
    rw [ha] at e1
    cases e1
    exact hg
theorem pairsAt_store {W : World} {base : Nat} {ad : Option Addr} {l : List Pr} (h : PairsFrom base W ad l) (b o : Nat) (v : Value) (hb : b < base) : PairsFrom base (W.setCell ⟨b, o, none⟩ v) ad l := by
  refine ⟨h.1, fun i p hi => ?_⟩
  obtain ⟨g, off, h1, h2, h3, h4⟩ := h.2 i p hi
  have hg : base ≤ g := h.1 _ h1 (by rintro rfl; simp at hi)
  refine ⟨g, off, h1, by simpa [World.setCell] using h2, ?_, ?_⟩
  · rw [World.cell?_setCell_other _ _ _ _ (by intro e; injection e; omega)]; exact h3
  · rw [World.cell?_setCell_other _ _ _ _ (by intro e; injection e; omega)]; exact h4

theorem rrA_of {w w3 w4 : World} {M : List Pr} {i : Nat} {v v' : Value} {tmp : Obj} {K V : List UInt8} {p : Pr} (h : RrA w M i v w3)
    (hown' : w4.ownsRow (w.heap.size + 1) 36 2 v' (i + 1) (pairCells (M.take i) ++ [.string (mkS K), .string (mkS V)])) (hgrow : (w3.alloc tmp).grownBy w4 v.ownBlock)
    (hp : M[i]? = some p) (e1 : K = p.1) (e2 : V = p.2) : RrA w M (i + 1) v' w4 := by
  obtain ⟨hB, hF, hrow⟩ := h
  have hle : w.heap.size + 1 ≤ w3.heap.size := hF.1
  have hB4 : Below (w.heap.size + 1) w3 w4 := ((Below.refl _ w3).alloc hle tmp).grown hgrow (by simp; omega) fun j ej => by
    rcases hrow.2 with ⟨rfl, _⟩ | ⟨g, cap, cur, rfl, hb, _, _⟩
    · simp [Value.ownBlock] at ej
    · obtain rfl : g = j := by simpa [Value.ownBlock] using ej
      exact hb
  refine ⟨hB.trans (hB4.mono (by omega)), ⟨Nat.lt_of_lt_of_le hF.1 hB4.size, (hB4.cell (p := ⟨w.heap.size, 0, none⟩) (Nat.lt_succ_self _)).trans hF.2.1, (hB4.cell (p := ⟨w.heap.size, 1, none⟩) (Nat.lt_succ_self _)).trans hF.2.2.1,
    (hB4.frozen (p := ⟨w.heap.size, 0, none⟩) (Nat.lt_succ_self _)).trans hF.2.2.2.1, (hB4.frozen (p := ⟨w.heap.size, 1, none⟩) (Nat.lt_succ_self _)).trans hF.2.2.2.2⟩, ?_⟩
  rw [List.take_add_one, hp]
  show World.ownsRow _ _ _ _ _ _ (pairCells (M.take i ++ [p]))
  rw [pairCells_snoc, ← e1, ← e2]
  exact hown'

set_option maxRecDepth 100000 in
set_option maxHeartbeats 8000000 in
theorem recordsRead_any (s : List UInt8) (hs : s.length ≤ 1000) (M : List Pr) (bad : Bool) (hR : ReadIs s M bad) (w : World) (hp : PowLaid w) :
    Calls Tryd.prog 11 #[.string (mkS s)] w fun e w' => RrOut M bad e w' ∧ Below w.heap.size w w' := by
  have hF := FlAt.new w
  have hb0 := below_alloc1 w (.cells #[.int .i64 0, .int .i64 0] 25)
  have A0 := Lib.hid (show RrA w M 0 (.slice none 0 0) (w.alloc (.cells #[.int .i64 0, .int .i64 0] 25)) from ⟨hb0, hF, World.ownsRow_nil _ _ _ _⟩)
  have HP := Lib.hid (show ∀ w1, Below w.heap.size w w1 → PowLaid w1 from fun w1 h1 => hp.below h1)
  have HR := Lib.hid hR
  have z1 := mkS_size s
  have hO := Lib.hid (offL_le s M bad hR)
  have G := Lib.hid good_any
  clear hF hb0 hp hR
  go_enter Tryd.func11, Tryd.ntmps11
  go_wp2
  go_loopg [4, 5] (M.length + 1) (fun g s4 s5 wr => ∃ (i : Nat) (ad : Option Addr) (cap : Nat), i ≤ M.length ∧ i ≤ 20 ∧ M.length - i ≤ g ∧ s4 = .slice ad i cap ∧ s5 = .int .i64 (offL M i) ∧ Aside (RrA w M i (.slice ad i cap) wr))
  case atStart => exact ⟨0, none, 0, by omega, by omega, by omega, rfl, rfl, A0.out⟩
  case round =>
    obtain ⟨i, ad, cap, hi, hi20, hg, rfl, rfl, A⟩ := hrel
    have hoi := hO.out i
    by_cases hlt : offL M i < s.length
    · have hlt' : ((offL M i : Nat) : Int) < (s.length : Int) := by omega
      go_wp2
      go_loopg [4, 5, 6, 7] (s.length + 2) (fun g2 s4 s5 s6 s7 wr2 => ∃ e : Nat, s7 = .int .i64 e ∧ offL M i < e ∧ e ≤ s.length + 1 ∧ s.length + 1 - e ≤ g2 ∧
        ((s6 = .bool false ∧ s5 = .int .i64 (offL M i) ∧ s4 = .slice ad i cap ∧ Aside (RrA w M i (.slice ad i cap) wr2 ∧ Miss s (offL M i) e)) ∨
         (s6 = .bool true ∧ s5 = .int .i64 (offL M (i + 1)) ∧ i < M.length ∧ i < 20 ∧ ∃ ad' cap', s4 = .slice ad' (i + 1) cap' ∧ Aside (RrA w M (i + 1) (.slice ad' (i + 1) cap') wr2))))
      case atStart => exact ⟨offL M i + 1, by first | rfl | simp, by omega, by omega, by omega, Or.inl ⟨rfl, rfl, rfl, (show Aside _ from ⟨A.out, fun e' h1 h2 => by omega⟩)⟩⟩
      case round =>
        obtain ⟨e, rfl, he1, he2, hg2, hrel⟩ := hrel
        rcases hrel with ⟨rfl, rfl, rfl, B⟩ | ⟨rfl, rfl, hiM, hi20', ad', cap', rfl, B⟩
        · by_cases hel : e ≤ s.length
          · have hseg : ∀ W, (Instr.slice 9 (.string (mkS s)) (some (.int .i64 (offL M i : Int))) (some (.int .i64 (e : Int))) none).run Tryd.prog W = .ok (.string (mkS (segL s (offL M i) e))) W := fun W => mkS_mid s (offL M i) e (by omega) hel W
            have hlast : ∃ c, s[e - 1]? = some c := ⟨_, List.getElem?_eq_getElem (by omega)⟩
            obtain ⟨c, hc⟩ := hlast
            have hidx := fun W => mkS_index s ((e : Int) - 1) c (by omega) (by rw [show ((e : Int) - 1).toNat = e - 1 by omega]; exact hc) W
            have J32 := Lib.hid (fun W => index32 (segL s (offL M i) e) W)
            have J61 := Lib.hid (fun W => index61 (segL s (offL M i) e) W)
            have hel' : (e : Int) ≤ (s.length : Int) := by omega
            have he1' : ((e : Nat) : Int) ≤ 1000 := by omega
            by_cases hh : Hit s (offL M i) e
            · obtain ⟨K, V, hr, hrec⟩ := hh
              obtain ⟨a, p1, p2, p3, p4, p5, p6⟩ := hit_parts s (offL M i) e K V he1 hel hr hrec
              have hbg := hit_begins s (offL M i) e K V hr hrec
              have hiM : i < M.length := by
                rcases Nat.lt_or_ge i M.length with h | h
                · exact h
                · have hi2 : i = M.length := by omega
                  cases bad with
                  | true => exact absurd (show Nx _ from ⟨_, _, hbg⟩) (by have := (HR.out.2.2.2 rfl).2; rwa [← offL_all, ← hi2] at this)
                  | false => have := HR.out.2.2.1 rfl; rw [hi2, offL_all, this] at hlt; omega
              obtain ⟨p, hpM⟩ : ∃ p, M[i]? = some p := ⟨_, List.getElem?_eq_getElem hiM⟩
              obtain ⟨e1, e2⟩ := begins_one _ _ _ _ _ hbg (read_at s M bad HR.out i p hpM).1
              have hoff : offL M (i + 1) = e := by
                rw [offL_succ M i p hpM, ← e1, ← e2, hrec]
                unfold segL
                rw [List.length_take, List.length_drop]; omega
              have hcc : c = 10 := by rw [p1] at hc; exact (Option.some.inj hc).symm
              subst hcc
              rw [p2] at J32
              rw [p3] at J61
              have S1 : ∀ W, (Instr.slice 9 (.string (mkS s)) (some (.int .i64 ((offL M i : Int) + (a : Int) + 1))) (some (.int .i64 ((offL M i : Int) + ((a + 1 + K.length : Nat) : Int)))) none).run Tryd.prog W = .ok (.string (mkS K)) W := fun W => by
                have h := mkS_mid s (offL M i + a + 1) (offL M i + (a + 1 + K.length)) (by omega) (by omega) W
                rwa [show offL M i + (a + 1 + K.length) - (offL M i + a + 1) = K.length by omega, p5, show ((offL M i + a + 1 : Nat) : Int) = (offL M i : Int) + (a : Int) + 1 by omega, show ((offL M i + (a + 1 + K.length) : Nat) : Int) = (offL M i : Int) + ((a + 1 + K.length : Nat) : Int) by omega] at h
              have S2 : ∀ W, (Instr.slice 9 (.string (mkS s)) (some (.int .i64 ((offL M i : Int) + ((a + 1 + K.length : Nat) : Int) + 1))) (some (.int .i64 ((e : Int) - 1))) none).run Tryd.prog W = .ok (.string (mkS V)) W := fun W => by
                have h := mkS_mid s (offL M i + a + 1 + K.length + 1) (e - 1) (by omega) (by omega) W
                rwa [show e - 1 - (offL M i + a + 1 + K.length + 1) = V.length by omega, p6, show ((offL M i + a + 1 + K.length + 1 : Nat) : Int) = (offL M i : Int) + ((a + 1 + K.length : Nat) : Int) + 1 by omega, show ((e - 1 : Nat) : Int) = (e : Int) - 1 by omega] at h
              obtain ⟨b, hb⟩ : ∃ b, a + 1 + K.length = b := ⟨_, rfl⟩
              rw [hb] at J61 S1 S2
              have RB := Lib.hid (fun W hp => refRecord_ok K V hr W hp)
              have hcmp : ((mkS (recL K V)).toList == (mkS (segL s (offL M i) e)).toList) = true := by rw [hrec]; simp
              have BB := Lib.hid B.out.1
              have HX := Lib.hid (And.intro hpM (And.intro (And.intro e1 e2) hoff))
              have ha1 : (a : Int) ≤ 1000 := by omega
              have hb1 : (b : Int) ≤ 1000 := by omega
              have hab : ¬ (b : Int) < (a : Int) := by omega
              clear B A hc hr hrec hbg p1 p2 p3 p4 p5 p6 hpM e1 e2 hoff hb
              generalize recL K V = R at *
              go_wp2_with (first
                | (go_at_call 38; with_reducible refine (J32.out _).mono ?_; rintro x w2 ⟨rfl, hw⟩; replace hw := hw.symm; subst hw)
                | (go_at_call 38; with_reducible refine (J61.out _).mono ?_; rintro x w2 ⟨rfl, hw⟩; replace hw := hw.symm; subst hw))
              go_region
              have hw1 : Below wr.heap.size wr ((wr.alloc (.cells #[.string (mkS K), .string (mkS V)] 36)).drew) := (below_alloc1 wr _).drew
              have hz1 : wr.heap.size < ((wr.alloc (.cells #[.string (mkS K), .string (mkS V)] 36)).drew).heap.size := by simp
              have k1 : ((wr.alloc (.cells #[.string (mkS K), .string (mkS V)] 36)).drew).cell? ⟨wr.heap.size, 0, none⟩ = some (.string (mkS K)) := by simp
              have k2 : ((wr.alloc (.cells #[.string (mkS K), .string (mkS V)] 36)).drew).cell? ⟨wr.heap.size, 1, none⟩ = some (.string (mkS V)) := by simp
              generalize (wr.alloc (.cells #[.string (mkS K), .string (mkS V)] 36)).drew = W1 at *
              by_cases h20 : i = 20
              · subst h20
                have H20 := Lib.hid hiM
                clear hiM hi20 hi hg
                go_wp2_with (go_at_call 15; refine (RB.out _ (HP.out _ (BB.out.below hw1).1)).mono ?_; rintro x w3 ⟨rfl, h3⟩; obtain ⟨f0, f1, f2, f3, f4⟩ := id ((BB.out.below hw1).below h3).2.1)
                obtain ⟨g0, g1⟩ := ((BB.out.below hw1).below h3).2.1.put 4 (offL M 20)
                refine bodyPost_ret (v := .tuple #[.slice none 0 0, flV 4 (offL M 20)]) (by simp [results, Tryd.results11, go_sem, g0, g1]) rfl ⟨Or.inr ⟨4, offL M 20, Or.inr ⟨H20.out, rfl, rfl⟩, rfl⟩, below_store (below_store ((BB.out.below hw1).below h3).1 _ _ (Nat.le_refl _) _) _ _ (Nat.le_refl _) _⟩
              · have h20' : ¬ (i : Int) = 20 := by omega
                have h20n : i < 20 := by omega
                obtain ⟨i0, hi0, hz0, hzz1, hz2⟩ := info_parts Tryd.infoPair
                have hw2 := BB.out.2.1.1
                go_wp2_with (first
                  | (go_at_call 15; refine (RB.out _ (HP.out _ (BB.out.below hw1).1)).mono ?_; rintro x w3 ⟨rfl, h3⟩; have y1 := (h3.cell (p := ⟨wr.heap.size, 0, none⟩) hz1).trans k1; have y2 := (h3.cell (p := ⟨wr.heap.size, 1, none⟩) hz1).trans k2; have hA3 := Lib.hid ((BB.out.below hw1).below h3); have hsz3 := Nat.lt_of_lt_of_le hA3.out.2.1.1 (Nat.le_refl _))
                  | (at_builtin; refine wpList_append_own _ rfl _ _ 22 rfl (w.heap.size + 1) 36 i0 (.agg #[.string { data := #[] }, .string { data := #[] }]) 2 32 Tryd.underlying22 hi0 hz0 hzz1 hz2 rfl (by decide) _ _ _ rfl (hA3.out.2.2.alloc _) ⟨w3.heap.size, 0, none⟩ 1 1 [.string (mkS K), .string (mkS V)] rfl rfl (cell_two_new _ _ _ _) (by simp [Value.oneCell']) (by unfold maxLen; omega) (by omega) (by simp; omega) ?_; intro v' w4 hown' hgrow _; obtain ⟨g', cap', rfl⟩ := ownsRow_succ hown'))
                go_roundg (s.length + 1 - (e + 1))
                case measure => omega
                case rel =>
                  refine ⟨e + 1, by first | rfl | simp, by omega, by omega, by omega, Or.inr ⟨rfl, by rw [HX.out.2.2], hiM, h20n, _, _, rfl, ?_⟩⟩
                  exact rrA_of hA3.out hown' hgrow HX.out.1 HX.out.2.1.1 HX.out.2.1.2
            · have HM := Lib.hid (show Miss s (offL M i) (e + 1) from B.out.2.succ hh)
              by_cases hc10 : c = 10
              · subst hc10
                obtain ⟨I, hI⟩ : ∃ I, Lib.indexByte (segL s (offL M i) e) 32 = I := ⟨_, rfl⟩
                obtain ⟨J, hJ⟩ : ∃ J, Lib.indexByte (segL s (offL M i) e) 61 = J := ⟨_, rfl⟩
                rw [hI] at J32
                rw [hJ] at J61
                by_cases hI0 : I < 0
                · have BB := Lib.hid B.out.1
                  clear B A hI hJ hh hc
                  go_wp2_with (first
                    | (go_at_call 38; with_reducible refine (J32.out _).mono ?_; rintro x w2 ⟨rfl, hw⟩; replace hw := hw.symm; subst hw)
                    | (go_at_call 38; with_reducible refine (J61.out _).mono ?_; rintro x w2 ⟨rfl, hw⟩; replace hw := hw.symm; subst hw))
                  go_roundg (s.length + 1 - (e + 1))
                  case measure => omega
                  case rel => exact ⟨e + 1, by first | rfl | simp, by omega, by omega, by omega, Or.inl ⟨rfl, rfl, rfl, (show Aside _ from ⟨BB.out, HM.out⟩)⟩⟩
                · by_cases hJI : J < I
                  · have BB := Lib.hid B.out.1
                    clear B A hI hJ hh hc
                    go_wp2_with (first
                      | (go_at_call 38; with_reducible refine (J32.out _).mono ?_; rintro x w2 ⟨rfl, hw⟩; replace hw := hw.symm; subst hw)
                      | (go_at_call 38; with_reducible refine (J61.out _).mono ?_; rintro x w2 ⟨rfl, hw⟩; replace hw := hw.symm; subst hw))
                    go_roundg (s.length + 1 - (e + 1))
                    case measure => omega
                    case rel => exact ⟨e + 1, by first | rfl | simp, by omega, by omega, by omega, Or.inl ⟨rfl, rfl, rfl, (show Aside _ from ⟨BB.out, HM.out⟩)⟩⟩
                  · obtain ⟨a, rfl⟩ := Int.eq_ofNat_of_zero_le (show 0 ≤ I by omega)
                    obtain ⟨b, rfl⟩ := Int.eq_ofNat_of_zero_le (show 0 ≤ J by omega)
                    obtain ⟨q1, q2⟩ := seg_idx s (offL M i) e hel hc a b hI hJ (by omega)
                    obtain ⟨K, hK⟩ : ∃ K, (s.drop (offL M i + a + 1)).take (offL M i + b - (offL M i + a + 1)) = K := ⟨_, rfl⟩
                    obtain ⟨V, hV⟩ : ∃ V, (s.drop (offL M i + b + 1)).take (e - 1 - (offL M i + b + 1)) = V := ⟨_, rfl⟩
                    have hKl : K.length ≤ 1000 := by rw [← hK, List.length_take, List.length_drop]; omega
                    have hVl : V.length ≤ 1000 := by rw [← hV, List.length_take, List.length_drop]; omega
                    have S1 : ∀ W, (Instr.slice 9 (.string (mkS s)) (some (.int .i64 ((offL M i : Int) + (a : Int) + 1))) (some (.int .i64 ((offL M i : Int) + (b : Int)))) none).run Tryd.prog W = .ok (.string (mkS K)) W := fun W => by
                      have h := mkS_mid s (offL M i + a + 1) (offL M i + b) (by omega) (by omega) W
                      rwa [hK, show ((offL M i + a + 1 : Nat) : Int) = (offL M i : Int) + (a : Int) + 1 by omega, show ((offL M i + b : Nat) : Int) = (offL M i : Int) + (b : Int) by omega] at h
                    have S2 : ∀ W, (Instr.slice 9 (.string (mkS s)) (some (.int .i64 ((offL M i : Int) + (b : Int) + 1))) (some (.int .i64 ((e : Int) - 1))) none).run Tryd.prog W = .ok (.string (mkS V)) W := fun W => by
                      have h := mkS_mid s (offL M i + b + 1) (e - 1) (by omega) (by omega) W
                      rwa [hV, show ((offL M i + b + 1 : Nat) : Int) = (offL M i : Int) + (b : Int) + 1 by omega, show ((e - 1 : Nat) : Int) = (e : Int) - 1 by omega] at h
                    have BB := Lib.hid B.out.1
                    have ha1 : (a : Int) ≤ 1000 := by omega
                    have hb1 : (b : Int) ≤ 1000 := by omega
                    have hab : ¬ (b : Int) < (a : Int) := by omega
                    cases hr : rightP K V
                    · have RB := Lib.hid (fun W => refRecord_bad K V (by omega) (by omega) hr W)
                      clear B A hI hJ hh hc hK hV hr q1 q2
                      go_wp2_with (first
                        | (go_at_call 38; with_reducible refine (J32.out _).mono ?_; rintro x w2 ⟨rfl, hw⟩; replace hw := hw.symm; subst hw)
                        | (go_at_call 38; with_reducible refine (J61.out _).mono ?_; rintro x w2 ⟨rfl, hw⟩; replace hw := hw.symm; subst hw))
                      go_region
                      have hw1 : Below wr.heap.size wr ((wr.alloc (.cells #[.string (mkS K), .string (mkS V)] 36)).drew) := (below_alloc1 wr _).drew
                      have k1 : ((wr.alloc (.cells #[.string (mkS K), .string (mkS V)] 36)).drew).cell? ⟨wr.heap.size, 0, none⟩ = some (.string (mkS K)) := by simp
                      have k2 : ((wr.alloc (.cells #[.string (mkS K), .string (mkS V)] 36)).drew).cell? ⟨wr.heap.size, 1, none⟩ = some (.string (mkS V)) := by simp
                      generalize (wr.alloc (.cells #[.string (mkS K), .string (mkS V)] 36)).drew = W1 at *
                      go_wp2_with (go_at_call 15; refine (RB.out _).mono ?_; rintro x w3 ⟨rfl, h3⟩)
                      go_roundg (s.length + 1 - (e + 1))
                      case measure => omega
                      case rel => exact ⟨e + 1, by first | rfl | simp, by omega, by omega, by omega, Or.inl ⟨rfl, rfl, rfl, (show Aside _ from ⟨(BB.out.below hw1).below h3, HM.out⟩)⟩⟩
                    · have RB := Lib.hid (fun W hp => refRecord_ok K V hr W hp)
                      have hcmp : ((mkS (recL K V)).toList == (mkS (segL s (offL M i) e)).toList) = false := by
                        rw [ByteArray.toList_eq, ByteArray.toList_eq, mkS_list, mkS_list]
                        have : recL K V ≠ segL s (offL M i) e := fun h => hh ⟨K, V, hr, h⟩
                        simpa using this
                      clear B A hI hJ hh hc hK hV hr q1 q2
                      generalize recL K V = R at *
                      go_wp2_with (first
                        | (go_at_call 38; with_reducible refine (J32.out _).mono ?_; rintro x w2 ⟨rfl, hw⟩; replace hw := hw.symm; subst hw)
                        | (go_at_call 38; with_reducible refine (J61.out _).mono ?_; rintro x w2 ⟨rfl, hw⟩; replace hw := hw.symm; subst hw))
                      go_region
                      have hw1 : Below wr.heap.size wr ((wr.alloc (.cells #[.string (mkS K), .string (mkS V)] 36)).drew) := (below_alloc1 wr _).drew
                      have k1 : ((wr.alloc (.cells #[.string (mkS K), .string (mkS V)] 36)).drew).cell? ⟨wr.heap.size, 0, none⟩ = some (.string (mkS K)) := by simp
                      have k2 : ((wr.alloc (.cells #[.string (mkS K), .string (mkS V)] 36)).drew).cell? ⟨wr.heap.size, 1, none⟩ = some (.string (mkS V)) := by simp
                      generalize (wr.alloc (.cells #[.string (mkS K), .string (mkS V)] 36)).drew = W1 at *
                      go_wp2_with (go_at_call 15; refine (RB.out _ (HP.out _ (BB.out.below hw1).1)).mono ?_; rintro x w3 ⟨rfl, h3⟩)
                      go_roundg (s.length + 1 - (e + 1))
                      case measure => omega
                      case rel => exact ⟨e + 1, by first | rfl | simp, by omega, by omega, by omega, Or.inl ⟨rfl, rfl, rfl, (show Aside _ from ⟨(BB.out.below hw1).below h3, HM.out⟩)⟩⟩
              · have hne : ¬ (c.toNat : Int) = 10 := by
                  intro h
                  have h2 : c.toNat = (10 : UInt8).toNat := by show c.toNat = 10; omega
                  exact hc10 (UInt8.toNat_inj.1 h2)
                have BB := Lib.hid B.out.1
                clear B A hh hc hc10
                go_wp2
                go_roundg (s.length + 1 - (e + 1))
                case measure => omega
                case rel => exact ⟨e + 1, by first | rfl | simp, by omega, by omega, by omega, Or.inl ⟨rfl, rfl, rfl, (show Aside _ from ⟨BB.out, HM.out⟩)⟩⟩
          · obtain rfl : e = s.length + 1 := by omega
            have hnx : ¬ Nx (s.drop (offL M i)) := fun ⟨k, v, hb⟩ => by
              obtain ⟨q1, q2, q3⟩ := begins_hit s (offL M i) k v hb
              exact B.out.2 _ q2 (by omega) q1
            have hiM : i = M.length := by
              rcases Nat.lt_or_ge i M.length with h | h
              · exact absurd ⟨_, _, (read_at s M bad HR.out i M[i] (List.getElem?_eq_getElem h)).1⟩ hnx
              · omega
            have hbad : bad = true := by
              cases bad with
              | true => rfl
              | false => have := HR.out.2.2.1 rfl; rw [hiM, offL_all, this] at hlt; omega
            obtain ⟨f0, f1, f2, f3, f4⟩ := id B.out.1.2.1
            have AF := Lib.hid (And.intro B.out.1 (And.intro hiM hbad))
            have hle : ¬ ((s.length + 1 : Nat) : Int) ≤ (s.length : Int) := by omega
            clear A B hnx hiM hbad
            go_wp2
            obtain ⟨g0, g1⟩ := AF.out.1.2.1.put 3 (offL M i)
            refine bodyPost_ret (v := .tuple #[.slice none 0 0, flV 3 (offL M i)]) (by simp [results, Tryd.results11, go_sem, g0, g1]) rfl ⟨Or.inr ⟨3, offL M i, Or.inl ⟨by have := AF.out.2.1; omega, AF.out.2.2, rfl, by rw [AF.out.2.1]⟩, rfl⟩, below_store (below_store AF.out.1.1 _ _ (Nat.le_refl _) _) _ _ (Nat.le_refl _) _⟩
        · -- found: out, and the next outer round
          clear A
          by_cases hel : (e : Int) ≤ (s.length : Int)
          · go_wp2
            go_roundg (M.length - (i + 1))
            case measure => omega
            case rel => exact ⟨i + 1, ad', cap', by omega, by omega, by omega, rfl, rfl, B⟩
          · go_wp2
            go_roundg (M.length - (i + 1))
            case measure => omega
            case rel => exact ⟨i + 1, ad', cap', by omega, by omega, by omega, rfl, rfl, B⟩
    · have hiM : i = M.length := by
        rcases Nat.lt_or_ge i M.length with h | h
        · exact absurd (read_at s M bad HR.out i M[i] (List.getElem?_eq_getElem h)).2 hlt
        · omega
      have hbad : bad = false := by
        cases bad with
        | false => rfl
        | true => have := (HR.out.2.2.2 rfl).1; rw [hiM, offL_all] at hlt; omega
      have hlt' : ¬ ((offL M i : Nat) : Int) < (s.length : Int) := by omega
      have AF := Lib.hid (And.intro A.out (And.intro hiM hbad))
      clear A hiM hbad
      go_wp2_with (go_at_call 39; refine (G.out _).mono ?_; rintro e w2 ⟨rfl, h2⟩; obtain ⟨f0, f1, f2, f3, f4⟩ := AF.out.1.2.1.below h2)
      obtain ⟨g0, g1⟩ := (AF.out.1.2.1.below h2).put 0 (-1)
      obtain ⟨⟨hB, hFl, hrow⟩, hiM, hbad⟩ := AF.out
      subst hiM
      rw [List.take_length] at hrow
      have hrow2 := own_below hrow h2
      refine bodyPost_ret (v := .tuple #[.slice ad M.length cap, flV 0 (-1)]) (by simp [results, Tryd.results11, go_sem, g0, g1]) rfl ⟨Or.inl ⟨hi20, hbad, ad, cap, rfl, ?_⟩, below_store (below_store (hB.trans (h2.mono hB.size)) _ _ (Nat.le_refl _) _) _ _ (Nat.le_refl _) _⟩
      exact (pairsAt_store (pairsAt_store (row_pairs hrow2) _ _ _ (Nat.lt_succ_self _)) _ _ _ (Nat.lt_succ_self _)).2
end Go.Proofs.YtheiamidochooaaDoor
