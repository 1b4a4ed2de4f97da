/- hole.Take: the bytes of the pieces. -/
import Derived.Test.YtpkledmpldnhiaaDoorPz
import Derived.Test.YtpkledmpldnhiaaDoorBldr
import Derived.Laws.OwnMore
namespace Go.Proofs.YtpkledmpldnhiaaDoor
open Go.RowKit Go.Joins Go.Lib
set_option linter.unusedVariables false

theorem own_below {w w' : World} {base : Nat} {e : TypeId} {size : Nat} {v : Value} {k : Nat} {xs : List Value} (h : w.ownsRow base e size v k xs) (hb : Below w.heap.size w w') : w'.ownsRow base e size v k xs := by
  refine ⟨h.1, ?_⟩
  rcases h.2 with hn | ⟨g, cap, cur, rfl, h1, hg, rest⟩
  · exact .inl hn
  · exact .inr ⟨g, cap, cur, rfl, h1, (hb.block g (Array.getElem?_eq_some_iff.1 hg).1).trans hg, rest⟩
theorem builder_below {T e B b : Nat} {bs : List Value} {w w' : World} (h : Lib.IsBuilder T e B b bs w) (hb : Below w.heap.size w w') : Lib.IsBuilder T e B b bs w' := by
  rcases h with ⟨h1, v, h2, h3, h4⟩ | ⟨h1, v, h2, h3, h4⟩
  · exact Or.inl ⟨h1, v, (hb.block _ (Array.getElem?_eq_some_iff.1 h2).1).trans h2, own_below h3 hb, h4⟩
  · exact Or.inr ⟨h1, v, (hb.block _ (Array.getElem?_eq_some_iff.1 h2).1).trans h2, own_below h3 hb, h4⟩
theorem takeL_le {s : List UInt8} {l : List Pc} (h : rightF s.length (-1) l = true) (i : Nat) : (takeL s (l.take i)).length ≤ s.length := by
  have hp := rightF_prefix l (-1) i h
  have h1 := takeL_length (s := s) _ (-1) (by omega) hp
  rcases (sumL_bound _ _ hp).2 with h2 | h2
  · rw [h2]; simp [takeL]
  · omega

set_option maxHeartbeats 2000000 in
theorem take_bad (s : List UInt8) (ad : Option Addr) (cap : Nat) (l : List Pc) (hs : s.length ≤ 1000000) (hl : l.length ≤ maxLen) (hF : Fits l) (h : mapRight l s.length = false) (w : World) (hM : PiecesAt w ad l) :
    Calls Tryd.prog 12 #[.string (mkS s), .slice ad l.length cap] w fun e w' => e = .returned (.tuple #[.string (mkS []), .iface 23 (.int .i64 1)]) ∧ Below w.heap.size w w' := by
  have hz := mkS_size s
  have R := Lib.hid (fun w' hb => rightA_any ad cap l s.length (by omega) hl hF w' (hM.below hb))
  rw [h] at R
  clear hM hF h
  go_enter Tryd.func12, Tryd.ntmps12
  go_wp2_with (go_at_call 18; with_reducible refine (R.out _ (Below.refl _ _)).mono ?_; rintro e w1 ⟨rfl, hb1⟩; have B1 := Lib.hid hb1; clear hb1)
  go_ret2
  exact ⟨rfl, B1.out⟩

set_option maxHeartbeats 2000000 in
theorem take_ok (s : List UInt8) (ad : Option Addr) (cap : Nat) (l : List Pc) (hs : s.length ≤ 1000000) (hl : l.length ≤ maxLen) (hF : Fits l) (h : mapRight l s.length = true) (w : World) (hM : PiecesAt w ad l) :
    Calls Tryd.prog 12 #[.string (mkS s), .slice ad l.length cap] w fun e w' => e = .returned (.tuple #[.string (mkS (takeL s l)), .nilIface]) ∧ Below w.heap.size w w' := by
  have hz := mkS_size s
  have R := Lib.hid (fun w' hb => rightA_any ad cap l s.length (by omega) hl hF w' (hM.below hb))
  obtain ⟨_, h20, hrt⟩ := mapRight_inv h
  rw [h] at R
  have HM := Lib.hid (fun W' hb => PiecesAt.below (W' := W') hM hb)
  have HRT := Lib.hid hrt
  clear hM hF h hrt
  go_enter Tryd.func12, Tryd.ntmps12
  go_wp2_with (go_at_call 18; with_reducible refine (R.out _ (Below.refl _ _)).mono ?_; rintro e w1 ⟨rfl, hb1⟩; have B1 := Lib.hid hb1; clear hb1)
  have hF := Lib.fresh_isBuilder 54 5 w1
  have hb0 : Below w1.heap.size w1 (w1.alloc (.cells #[.pointer none, .slice none 0 0] 54)) := (Below.refl _ _).alloc (Nat.le_refl _) _
  have HF := Lib.hid hF
  have HB0 := Lib.hid hb0
  clear hF hb0
  have HW := Lib.hid (show ∀ (i : Nat) (p : Pc) W, l[i]? = some p → Lib.IsBuilder 54 5 w1.heap.size w1.heap.size (Lib.byteCells (takeL s (l.take i))) W → w1.heap.size ≤ W.heap.size →
      Calls Tryd.prog 23 #[.pointer (some ⟨w1.heap.size, 0, none⟩), .string (mkS (cutP s p))] W fun e w' => (∃ v, e = .returned v) ∧ Lib.IsBuilder 54 5 w1.heap.size w1.heap.size (Lib.byteCells (takeL s (l.take (i + 1)))) w' ∧ Below w1.heap.size W w' from fun i q W hq hW hs2 => by
    have h1 := takeL_le HRT.out i
    have h2 : (cutP s q).length ≤ s.length := by unfold cutP; rw [List.length_take, List.length_drop]; omega
    refine (bld_WriteString w1.heap.size w1.heap.size _ (mkS (cutP s q)) W hW (by rw [Lib.byteCells_length, mkS_size]; omega) hs2).mono fun e w' ⟨h5, h6, h7⟩ => ⟨⟨_, h5⟩, Or.inr ?_, h7⟩
    rw [takeL_take s hq]
    have hc : Lib.byteCells (takeL s (l.take i)) ++ Lib.strCells (mkS (cutP s q)) = Lib.byteCells (takeL s (l.take i) ++ cutP s q) := by
      unfold Lib.strCells Lib.byteCells; rw [mkS_list, List.map_append]
    rw [hc] at h6
    exact h6)
  have HS := Lib.hid (show ∀ W, Lib.IsBuilder 54 5 w1.heap.size w1.heap.size (Lib.byteCells (takeL s l)) W → w1.heap.size ≤ W.heap.size → Calls Tryd.prog 24 #[.pointer (some ⟨w1.heap.size, 0, none⟩)] W fun e w' => e = .returned (.string (mkS (takeL s l))) ∧ Below w1.heap.size W w' from fun W h1 h2 => bld_String w1.heap.size w1.heap.size (takeL s l) W h1 h2)
  go_loopg [17] l.length (fun g s17 wr => ∃ i : Nat, i ≤ l.length ∧ l.length - i ≤ g ∧ s17 = .int .i64 i ∧ Aside (Below w1.heap.size w1 wr ∧ Lib.IsBuilder 54 5 w1.heap.size w1.heap.size (Lib.byteCells (takeL s (l.take i))) wr))
  case atStart => exact ⟨0, by omega, by omega, rfl, (show Aside _ from ⟨HB0.out, HF.out⟩)⟩
  case round =>
    obtain ⟨i, hi, hg, rfl, A⟩ := hrel
    by_cases hil : i < l.length
    · obtain ⟨p, hp⟩ : ∃ p, l[i]? = some p := ⟨_, List.getElem?_eq_getElem hil⟩
      obtain ⟨b, off, hAd, _, c1, c2⟩ := HM.out wr (B1.out.trans (A.out.1.mono B1.out.size)) i p hp
      subst hAd
      have hpa := rightF_at hp HRT.out
      obtain ⟨a, ha⟩ : ∃ a : Nat, p.1 = (a : Int) := ⟨p.1.toNat, by omega⟩
      obtain ⟨c, hc⟩ : ∃ c : Nat, p.2 = (c : Int) := ⟨p.2.toNat, by omega⟩
      have hn1 : a + c ≤ s.length := by omega
      rw [ha] at c1
      rw [hc] at c2
      have hcut : cutP s p = (s.drop a).take c := by unfold cutP; rw [ha, hc]; rfl
      have hmid : ∀ W, (Instr.slice 9 (.string (mkS s)) (some (.int .i64 (a : Int))) (some (.int .i64 ((a : Int) + (c : Int)))) none).run Tryd.prog W = .ok (.string (mkS (cutP s p))) W := fun W => by
        have h := mkS_mid s a (a + c) (by omega) hn1 W
        rw [show a + c - a = c by omega] at h
        rw [hcut]
        exact h
      have HW2 := Lib.hid (fun W => HW.out i p W hp)
      have A1 := Lib.hid (show Below w1.heap.size w1 (wr.alloc (.cells #[.int .i64 (a : Int), .int .i64 (c : Int)] 47)) ∧ Lib.IsBuilder 54 5 w1.heap.size w1.heap.size (Lib.byteCells (takeL s (l.take i))) (wr.alloc (.cells #[.int .i64 (a : Int), .int .i64 (c : Int)] 47)) from
        ⟨A.out.1.alloc A.out.1.size _, builder_below A.out.2 ((Below.refl _ _).alloc (Nat.le_refl _) _)⟩)
      clear A hp ha hc hpa hcut
      generalize cutP s p = T at hmid HW2
      go_wp2_with (go_at_call 23; refine (HW2.out _ A1.out.2 A1.out.1.size).mono ?_; rintro e w3 ⟨⟨v, rfl⟩, h3, h4⟩)
      go_roundg (l.length - (i + 1))
      case measure => omega
      case rel => exact ⟨i + 1, by omega, by omega, by first | rfl | simp, (show Aside _ from ⟨A1.out.1.trans h4, h3⟩)⟩
    · obtain rfl : i = l.length := by omega
      rw [List.take_length] at A
      go_wp2_with (go_at_call 24; refine (HS.out _ A.out.2 A.out.1.size).mono ?_; rintro e w2 ⟨rfl, h2⟩)
      go_ret2
      exact ⟨rfl, B1.out.trans ((A.out.1.trans h2).mono B1.out.size)⟩
end Go.Proofs.YtpkledmpldnhiaaDoor
