/- hole.Find: the pieces of a text. -/
import Derived.Test.YtpkledmpldnhiaaDoorPz
import Derived.Laws.OwnMore
import Derived.Maps.AppendAt
namespace Go.Proofs.YtpkledmpldnhiaaDoor
open Go.RowKit Go.Joins
set_option linter.unusedVariables false

/-- The cells of a list of pieces. -/
def pcCells (l : List Pc) : List Value := l.flatMap fun p => [.int .i64 p.1, .int .i64 p.2]
theorem pcCells_length (l : List Pc) : (pcCells l).length = l.length * 2 := by
  induction l with
  | nil => rfl
  | cons p l ih => unfold pcCells at ih ⊢; rw [List.flatMap_cons, List.length_append, ih]; simp; omega
theorem pcCells_snoc (l : List Pc) (p : Pc) : pcCells (l ++ [p]) = pcCells l ++ [.int .i64 p.1, .int .i64 p.2] := by
  unfold pcCells; rw [List.flatMap_append]; simp
theorem pcCells_at : ∀ (l : List Pc) (i : Nat) (p : Pc), l[i]? = some p → (pcCells l)[i * 2]? = some (.int .i64 p.1) ∧ (pcCells l)[i * 2 + 1]? = some (.int .i64 p.2)
  | q :: l, 0, p, h => by
    simp at h; subst h
    exact ⟨rfl, rfl⟩
  | q :: l, i + 1, p, h => by
    have := pcCells_at l i p (by simpa using h)
    unfold pcCells at this ⊢
    rw [List.flatMap_cons, show (i + 1) * 2 = (i * 2) + 1 + 1 by omega]
    exact this
theorem piecesAt_of_row {W : World} {base : Nat} {e : TypeId} {ad : Option Addr} {cap : Nat} {M : List Pc} (h : W.ownsRow base e 2 (.slice ad M.length cap) M.length (pcCells M)) : PiecesAt W ad M := fun i p hi => by
  have hil := (List.getElem?_eq_some_iff.1 hi).1
  rcases h.2 with ⟨_, h0⟩ | ⟨g, cap', cur, hv, _, hg, _, _, _, htk⟩
  · omega
  · injection hv with e1 e2 e3
    obtain ⟨c1, c2⟩ := pcCells_at M i p hi
    rw [← htk, List.getElem?_take, if_pos (by omega)] at c1
    rw [← htk, List.getElem?_take, if_pos (by omega)] at c2
    refine ⟨g, 0, e1, (Array.getElem?_eq_some_iff.1 hg).1, ?_, ?_⟩
    · rw [Nat.zero_add]; simp only [World.cell?, hg]; simpa using c1
    · rw [Nat.zero_add]; simp only [World.cell?, hg]; simpa using c2
theorem row_shape {W : World} {base : Nat} {e : TypeId} {size : Nat} {v : Value} {k : Nat} {xs : List Value} (h : W.ownsRow base e size v k xs) : ∃ ad cap, v = .slice ad k cap := by
  rcases h.2 with ⟨rfl, h0⟩ | ⟨g, cap, _, rfl, _⟩
  · exact ⟨none, 0, by rw [h0]⟩
  · exact ⟨_, cap, rfl⟩
/-- The last piece's size, stored anew. -/
theorem pcCells_bump (m : List Pc) (p : Pc) (c : Int) : (pcCells (m ++ [p])).set (m.length * 2 + 1) (.int .i64 (p.2 + c)) = pcCells (bump (m ++ [p]) c) := by
  rw [bump_snoc, pcCells_snoc, pcCells_snoc, List.set_append_right _ _ (by rw [pcCells_length]; omega), pcCells_length, show m.length * 2 + 1 - m.length * 2 = 1 by omega]
  rfl

theorem below_grown {w W w1 : World} {v : Value} {base : Nat} {e : TypeId} {size n : Nat} {xs : List Value} (hB : Below w.heap.size w W) (hrow : W.ownsRow base e size v n xs) (hb : w.heap.size ≤ base) (hg : W.grownBy w1 v.ownBlock) : Below w.heap.size w w1 :=
  hB.grown hg hB.size fun j ej => by
    rcases hrow.2 with ⟨rfl, _⟩ | ⟨g, cap, cur, rfl, hbg, _, _⟩
    · simp [Value.ownBlock] at ej
    · obtain rfl : g = j := by simpa [Value.ownBlock] using ej
      omega
theorem cell_two (W : World) (t : TypeId) (a b : Value) : ∀ (j : Nat) (u : Value), [a, b][j]? = some u → (W.alloc (.cells #[a, b] t)).cell? ((⟨W.heap.size, 0, none⟩ : Addr).add j) = some u
  | 0, u, h => by simp at h; subst h; simp [Addr.add]
  | 1, u, h => by simp at h; subst h; simp [Addr.add]
  | j + 2, u, h => by simp at h
theorem Tryd.infoPiece : (Tryd.prog.info? 47).map (fun i => (i.zero, i.size, i.bytes)) = some (some (.agg #[.int .i64 0, .int .i64 0]), 2, 16) := by kernel_rfl
theorem info_parts {P : Program} {e : TypeId} {z : Value} {size bytes : Nat} (h : (P.info? e).map (fun i => (i.zero, i.size, i.bytes)) = some (some z, size, bytes)) : ∃ i, P.info? e = some i ∧ i.zero = some z ∧ i.size = size ∧ i.bytes = bytes := by
  cases hi : P.info? e with
  | none => rw [hi] at h; cases h
  | some i =>
    rw [hi] at h
    simp only [Option.map_some, Option.some.injEq, Prod.mk.injEq] at h
    exact ⟨i, rfl, h.1, h.2.1, h.2.2⟩
/-- The last piece of a row that the call owns. -/
theorem last_cells {W : World} {base : Nat} {e : TypeId} {ad : Option Addr} {cap : Nat} {m : List Pc} {p : Pc} {n : Nat} (hn : n = (m ++ [p]).length) (h : W.ownsRow base e 2 (.slice ad n cap) n (pcCells (m ++ [p]))) :
    ∃ g, ad = some ⟨g, 0, none⟩ ∧ base ≤ g ∧ W.cell? ⟨g, m.length * 2 + 1, none⟩ = some (.int .i64 p.2) ∧ W.frozen? ⟨g, m.length * 2 + 1, none⟩ = false ∧
      ∀ c : Int, (W.setCell ⟨g, m.length * 2 + 1, none⟩ (.int .i64 (p.2 + c))).ownsRow base e 2 (.slice ad n cap) n (pcCells (bump (m ++ [p]) c)) := by
  have h1 : n = m.length + 1 := by rw [hn]; simp
  rcases h.2 with ⟨_, h0⟩ | ⟨g, cap', cur, hv, hb, _⟩
  · omega
  · injection hv with e1 e2 e3
    subst e1
    refine ⟨g, rfl, hb, ?_, h.frozenAt _, fun c => ?_⟩
    · rw [h.cellAt _ (by omega)]
      exact (pcCells_at (m ++ [p]) m.length p (by simp)).2
    · rw [← pcCells_bump]
      exact (h.stored _ _).1

set_option maxHeartbeats 2000000 in
theorem find_bad (s : List UInt8) (k : Int) (hk : k < 1) (w : World) :
    Calls Tryd.prog 8 #[.string (mkS s), .int .i64 k] w fun e w' => e = .returned (.tuple #[.slice none 0 0, .iface 23 (.int .i64 1)]) ∧ w' = w := by
  go_enter Tryd.func8, Tryd.ntmps8
  go_wp2
  go_ret2
  exact ⟨rfl, rfl⟩

set_option maxHeartbeats 2000000 in
theorem find_any (s : List UInt8) (k : Nat) (hs : s.length ≤ 1000) (hk : 0 < k) (hk2 : k ≤ 9223372036854775807) (w : World) :
    Calls Tryd.prog 8 #[.string (mkS s), .int .i64 k] w fun e w' =>
      (((findF s k).length ≤ 20 ∧ ∃ ad cap, e = .returned (.tuple #[.slice ad (findF s k).length cap, .nilIface]) ∧ PiecesAt w' ad (findF s k)) ∨
       (20 < (findF s k).length ∧ e = .returned (.tuple #[.slice none 0 0, .iface 23 (.int .i64 4)]))) ∧ Below w.heap.size w w' := by
  have hz := mkS_size s
  go_enter Tryd.func8, Tryd.ntmps8
  go_wp2
  go_loopg [6, 7, 16] s.length (fun g s6 s7 s16 wr => ∃ (i : Nat) (L : List Pc) (e : Int) (ad : Option Addr) (cap : Nat), i ≤ s.length ∧ s.length - i ≤ g ∧ s6 = .slice ad L.length cap ∧ s7 = .int .i64 e ∧ s16 = .int .i64 i ∧ Aside (Below w.heap.size w wr ∧ wr.ownsRow w.heap.size 47 2 (.slice ad L.length cap) L.length (pcCells L) ∧ FInv s k i L e ∧ L.length ≤ 20))
  case atStart => exact ⟨0, [], -1, none, 0, by omega, by omega, rfl, rfl, rfl, (show Aside _ from ⟨Below.refl _ _, World.ownsRow_nil _ _ _ _, FInv.start s k, by simp⟩)⟩
  case round =>
    obtain ⟨i, L, e, ad, cap, hi, hg, rfl, rfl, rfl, A⟩ := hrel
    by_cases hil : i < s.length
    · obtain ⟨c, hc⟩ : ∃ c, s[i]? = some c := ⟨_, List.getElem?_eq_getElem hil⟩
      have hix := mkS_index s (i : Int) c (by omega) (by simpa using hc)
      have HI := Lib.hid A.out.2.2.1
      have HC := Lib.hid hc
      clear hc
      have hcb := c.toNat_lt
      by_cases h0 : c.toNat = 0
      · have b0 : ((c.toNat : Int) == 0) = true := by rw [h0]; rfl
        have HF := Lib.hid (HI.out.skip hk hil (Or.inl (by rw [HC.out]; congr 1; exact UInt8.toNat_inj.1 h0)))
        clear h0
        go_wp2
        go_roundg (s.length - (i + 1))
        case measure => omega
        case rel => exact ⟨i + 1, L, e, ad, cap, by omega, by omega, rfl, rfl, by first | rfl | simp, (show Aside _ from ⟨A.out.1, A.out.2.1, HF.out, A.out.2.2.2⟩)⟩
      have b0 : ((c.toNat : Int) == 0) = false := by simpa using h0
      have h1 : c ≠ 0 := fun h => h0 (by rw [h]; rfl)
      clear h0
      have H1 := Lib.hid h1
      clear h1
      by_cases h2 : (i : Int) < e
      · have b2 : decide ((i : Int) < e) = true := decide_eq_true h2
        have HF := Lib.hid (HI.out.skip hk hil (Or.inr h2))
        clear h2
        go_wp2
        go_roundg (s.length - (i + 1))
        case measure => omega
        case rel => exact ⟨i + 1, L, e, ad, cap, by omega, by omega, rfl, rfl, by first | rfl | simp, (show Aside _ from ⟨A.out.1, A.out.2.1, HF.out, A.out.2.2.2⟩)⟩
      have b2 : decide ((i : Int) < e) = false := decide_eq_false h2
      have HF := Lib.hid (HI.out.take hk HC.out H1.out h2)
      have HO := Lib.hid (HI.out.over hk HC.out H1.out h2)
      have HL := Lib.hid HI.out.length
      have hblk := block_div (i := i) hk
      generalize hA : i / k * k = a at hblk
      rw [hA] at HF HO
      have hr : (i : Int) % (k : Int) = ((i - a : Nat) : Int) := by
        have h3 := Int.emod_add_mul_ediv (i : Int) (k : Int)
        have h4 : ((i / k * k : Nat) : Int) = (a : Int) := by rw [hA]
        rw [Int.natCast_mul, Int.natCast_ediv] at h4
        rw [Int.mul_comm] at h4
        omega
      generalize hr' : i - a = r at hr
      have hsub : (i : Int) - (r : Int) = (a : Int) := by omega
      have hai : a ≤ i := hblk.1
      have hn : min k (s.length - a) ≤ s.length - a := Nat.min_le_right _ _
      clear hA
      have HP0 := Lib.hid (HI.out.last_pos)
      have HP2 := Lib.hid (HI.out.last_le)
      by_cases h5 : (k : Int) ≤ (s.length : Int) - (a : Int)
      · have hm : min k (s.length - a) = k := by omega
        rw [hm] at HF
        have hsz : a + k ≤ s.length := by omega
        clear hm hn
        by_cases h6 : e = (a : Int)
        · have b6 : ((a : Int) == e) = true := by simp [h6]
          rw [if_pos h6] at HF
          rcases snoc_cases L with rfl | ⟨m, p, hLm⟩
          · have h8 := HI.out.1
            simp only [endE] at h8
            omega
          · have h8 := HI.out.1
            have h9 := A.out.2.1
            rw [hLm, endE_snoc] at h8
            have hR := findF_right s k
            have hp0 : 0 ≤ p.1 := HP0.out m p hLm
            rw [hLm] at h9
            obtain ⟨G, hG, hGb, hG1, hG2, hG3⟩ := last_cells rfl h9
            rw [← hLm] at hG3
            subst hG
            have hl1 : L.length = m.length + 1 := by rw [hLm]; simp
            have hl2 : (L.length : Int) - 1 = (m.length : Int) := by omega
            have hl3 : m.length < L.length := by omega
            have hl4 : m.length ≤ 20 := by have := A.out.2.2.2; omega
            have hbb := bump_length L ((k : Nat) : Int)
            have HG := Lib.hid hG3
            have HB := Lib.hid (A.out.1.setCell (p := ⟨G, m.length * 2 + 1, none⟩) hGb (.int .i64 (p.2 + ((k : Nat) : Int))))
            have HA := Lib.hid A.out
            have hp2 : p.2 ≤ 1000 ∧ 0 ≤ p.2 := by have := HP2.out m p hLm; omega
            clear A h9 hG3 h8 hR hLm h6 hl1
            go_wp2
            go_roundg (s.length - (i + 1))
            case measure => omega
            case rel => exact ⟨i + 1, bump L ((k : Nat) : Int), ((a + k : Nat) : Int), _, cap, by omega, by omega, by rw [hbb], by first | rfl | simp, by first | rfl | simp, (show Aside _ from ⟨HB.out, by rw [hbb]; exact HG.out _, HF.out, by rw [hbb]; exact HA.out.2.2.2⟩)⟩
        · have b6 : ((a : Int) == e) = false := by simp; omega
          rw [if_neg h6] at HF
          by_cases h7 : L.length = 20
          · have b7 : ((L.length : Int) == 20) = true := by rw [h7]; rfl
            have HO' := Lib.hid (HO.out (by exact h6) h7)
            clear h7 h6
            go_wp2
            go_ret2
            exact ⟨Or.inr ⟨HO'.out, rfl⟩, A.out.1⟩
          · have b7 : ((L.length : Int) == 20) = false := by simp; omega
            have h20 : L.length ≤ 19 := by have := A.out.2.2.2; omega
            have HA := Lib.hid A.out
            have HC2 := Lib.hid (cell_two wr 47 (.int .i64 (a : Int)) (.int .i64 ((k : Nat) : Int)))
            clear A h7 h6
            obtain ⟨i0, hi0, hz0, hz1, hz2⟩ := info_parts Tryd.infoPiece
            go_wp2_with (at_builtin; refine wpList_append_own _ rfl _ _ 22 rfl w.heap.size 47 i0 (.agg #[.int .i64 0, .int .i64 0]) 2 16 Tryd.underlying22 hi0 hz0 hz1 hz2 rfl (by decide) _ _ _ rfl (HA.out.2.1.alloc _) ⟨wr.heap.size, 0, none⟩ 1 1 [.int .i64 (a : Int), .int .i64 ((k : Nat) : Int)] rfl rfl HC2.out (by simp [Value.oneCell']) (by unfold maxLen; omega) (by omega) (by simp; have := HA.out.1.size; omega) ?_; intro v' w4 hown' hgrow _)
            have hb3 := HA.out.1.alloc HA.out.1.size (.cells #[.int .i64 (a : Int), .int .i64 ((k : Nat) : Int)] 47)
            obtain ⟨ad', cap', rfl⟩ := row_shape hown'
            have hbg := below_grown hb3 (HA.out.2.1.alloc _) (Nat.le_refl _) hgrow
            have HO := Lib.hid (show Below w.heap.size w w4 ∧ w4.ownsRow w.heap.size 47 2 (.slice ad' (L.length + 1) cap') (L.length + 1) (pcCells (L ++ [((a : Int), ((k : Nat) : Int))])) from ⟨hbg, by rw [pcCells_snoc]; exact hown'⟩)
            clear hown' hgrow hbg hb3
            go_roundg (s.length - (i + 1))
            case measure => omega
            case rel => exact ⟨i + 1, L ++ [((a : Int), ((k : Nat) : Int))], ((a + k : Nat) : Int), ad', cap', by omega, by omega, by simp, by first | rfl | simp, by first | rfl | simp, (show Aside _ from ⟨HO.out.1, by rw [List.length_append]; exact HO.out.2, HF.out, by simp; omega⟩)⟩
      · have hm : min k (s.length - a) = s.length - a := by omega
        rw [hm] at HF
        clear hm hn
        have hszz : (s.length : Int) - (a : Int) = ((s.length - a : Nat) : Int) := by omega
        have hsz : a + (s.length - a) ≤ s.length := by omega
        have h5' : ((s.length - a : Nat) : Int) < (k : Int) := by omega
        generalize s.length - a = sz at HF hszz hsz h5'
        clear h5
        by_cases h6 : e = (a : Int)
        · have b6 : ((a : Int) == e) = true := by simp [h6]
          rw [if_pos h6] at HF
          rcases snoc_cases L with rfl | ⟨m, p, hLm⟩
          · have h8 := HI.out.1
            simp only [endE] at h8
            omega
          · have h8 := HI.out.1
            have h9 := A.out.2.1
            rw [hLm, endE_snoc] at h8
            have hR := findF_right s k
            have hp0 : 0 ≤ p.1 := HP0.out m p hLm
            rw [hLm] at h9
            obtain ⟨G, hG, hGb, hG1, hG2, hG3⟩ := last_cells rfl h9
            rw [← hLm] at hG3
            subst hG
            have hl1 : L.length = m.length + 1 := by rw [hLm]; simp
            have hl2 : (L.length : Int) - 1 = (m.length : Int) := by omega
            have hl3 : m.length < L.length := by omega
            have hl4 : m.length ≤ 20 := by have := A.out.2.2.2; omega
            have hbb := bump_length L ((sz : Nat) : Int)
            have HG := Lib.hid hG3
            have HB := Lib.hid (A.out.1.setCell (p := ⟨G, m.length * 2 + 1, none⟩) hGb (.int .i64 (p.2 + ((sz : Nat) : Int))))
            have HA := Lib.hid A.out
            have hp2 : p.2 ≤ 1000 ∧ 0 ≤ p.2 := by have := HP2.out m p hLm; omega
            clear A h9 hG3 h8 hR hLm h6 hl1
            go_wp2
            go_roundg (s.length - (i + 1))
            case measure => omega
            case rel => exact ⟨i + 1, bump L ((sz : Nat) : Int), ((a + sz : Nat) : Int), _, cap, by omega, by omega, by rw [hbb], by first | rfl | simp, by first | rfl | simp, (show Aside _ from ⟨HB.out, by rw [hbb]; exact HG.out _, HF.out, by rw [hbb]; exact HA.out.2.2.2⟩)⟩
        · have b6 : ((a : Int) == e) = false := by simp; omega
          rw [if_neg h6] at HF
          by_cases h7 : L.length = 20
          · have b7 : ((L.length : Int) == 20) = true := by rw [h7]; rfl
            have HO' := Lib.hid (HO.out (by exact h6) h7)
            clear h7 h6
            go_wp2
            go_ret2
            exact ⟨Or.inr ⟨HO'.out, rfl⟩, A.out.1⟩
          · have b7 : ((L.length : Int) == 20) = false := by simp; omega
            have h20 : L.length ≤ 19 := by have := A.out.2.2.2; omega
            have HA := Lib.hid A.out
            have HC2 := Lib.hid (cell_two wr 47 (.int .i64 (a : Int)) (.int .i64 ((sz : Nat) : Int)))
            clear A h7 h6
            obtain ⟨i0, hi0, hz0, hz1, hz2⟩ := info_parts Tryd.infoPiece
            go_wp2_with (at_builtin; refine wpList_append_own _ rfl _ _ 22 rfl w.heap.size 47 i0 (.agg #[.int .i64 0, .int .i64 0]) 2 16 Tryd.underlying22 hi0 hz0 hz1 hz2 rfl (by decide) _ _ _ rfl (HA.out.2.1.alloc _) ⟨wr.heap.size, 0, none⟩ 1 1 [.int .i64 (a : Int), .int .i64 ((sz : Nat) : Int)] rfl rfl HC2.out (by simp [Value.oneCell']) (by unfold maxLen; omega) (by omega) (by simp; have := HA.out.1.size; omega) ?_; intro v' w4 hown' hgrow _)
            have hb3 := HA.out.1.alloc HA.out.1.size (.cells #[.int .i64 (a : Int), .int .i64 ((sz : Nat) : Int)] 47)
            obtain ⟨ad', cap', rfl⟩ := row_shape hown'
            have hbg := below_grown hb3 (HA.out.2.1.alloc _) (Nat.le_refl _) hgrow
            have HO := Lib.hid (show Below w.heap.size w w4 ∧ w4.ownsRow w.heap.size 47 2 (.slice ad' (L.length + 1) cap') (L.length + 1) (pcCells (L ++ [((a : Int), ((sz : Nat) : Int))])) from ⟨hbg, by rw [pcCells_snoc]; exact hown'⟩)
            clear hown' hgrow hbg hb3
            go_roundg (s.length - (i + 1))
            case measure => omega
            case rel => exact ⟨i + 1, L ++ [((a : Int), ((sz : Nat) : Int))], ((a + sz : Nat) : Int), ad', cap', by omega, by omega, by simp, by first | rfl | simp, by first | rfl | simp, (show Aside _ from ⟨HO.out.1, by rw [List.length_append]; exact HO.out.2, HF.out, by simp; omega⟩)⟩
    · have hii : i = s.length := by omega
      have HA := Lib.hid A.out
      clear A
      go_wp2
      go_ret2
      have hfi := HA.out.2.2.1
      rw [hii] at hfi
      have hd := hfi.done hk
      refine ⟨Or.inl ⟨by rw [← hd]; exact HA.out.2.2.2, ad, cap, by rw [← hd]; rfl, ?_⟩, HA.out.1⟩
      rw [← hd]
      exact piecesAt_of_row HA.out.2.1
end Go.Proofs.YtpkledmpldnhiaaDoor
