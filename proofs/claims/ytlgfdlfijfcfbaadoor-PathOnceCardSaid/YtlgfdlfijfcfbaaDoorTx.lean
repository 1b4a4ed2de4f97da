/- Lists of texts in memory; strings.Join over them; how long what is joined can be. -/
import Derived.Test.YtlgfdlfijfcfbaaDoorShelf
import Derived.Test.YtlgfdlfijfcfbaaDoorMk
import Derived.Test.YtlgfdlfijfcfbaaDoorPn
import Derived.RangeFuncBox
import Derived.Laws.MakeOwn
namespace Go.Proofs.YtlgfdlfijfcfbaaDoor
open Go.RowKit Go.Joins
set_option linter.unusedVariables false

abbrev encS (x : List UInt8) : Value := .string (mkS x)
/-- The texts L lie in block b from off on. -/
def TxAt (w : World) (b off : Nat) (L : List (List UInt8)) : Prop := b < w.heap.size ∧ ∀ (i : Nat) x, L[i]? = some x → w.cell? ⟨b, off + i, none⟩ = some (encS x)
/-- A slice of the texts L. -/
def SlIs (w : World) (v : Value) (L : List (List UInt8)) : Prop := ∃ ad cap, v = .slice ad L.length cap ∧ L.length ≤ cap ∧ ((∃ b off, ad = some ⟨b, off, none⟩ ∧ TxAt w b off L) ∨ (ad = none ∧ cap = 0 ∧ L = []))
theorem TxAt.below {w w' : World} {b off : Nat} {L : List (List UInt8)} (h : TxAt w b off L) (hb : Below w.heap.size w w') : TxAt w' b off L :=
  ⟨Nat.lt_of_lt_of_le h.1 hb.size, fun i x hi => (hb.cell (p := ⟨b, off + i, none⟩) h.1).trans (h.2 i x hi)⟩
theorem SlIs.below {w w' : World} {v : Value} {L : List (List UInt8)} (h : SlIs w v L) (hb : Below w.heap.size w w') : SlIs w' v L := by
  obtain ⟨ad, cap, e, hc, h | h⟩ := h
  · obtain ⟨b, off, e2, ht⟩ := h
    exact ⟨ad, cap, e, hc, .inl ⟨b, off, e2, ht.below hb⟩⟩
  · exact ⟨ad, cap, e, hc, .inr h⟩
theorem SlIs.nil (w : World) : SlIs w (.slice none 0 0) [] := ⟨none, 0, rfl, Nat.le_refl _, .inr ⟨rfl, rfl, rfl⟩⟩
theorem SlIs.len {w : World} {v : Value} {L : List (List UInt8)} (h : SlIs w v L) : ∃ ad cap, v = .slice ad L.length cap ∧ L.length ≤ cap := by
  obtain ⟨ad, cap, e, hc, _⟩ := h; exact ⟨ad, cap, e, hc⟩
/-- What owns its row is a slice of its texts. -/
theorem slIs_of_own {w : World} {base : Nat} {v : Value} {L : List (List UInt8)} (h : w.ownsRow base 9 1 v L.length (L.map encS)) : SlIs w v L := by
  rcases h.2 with ⟨rfl, h0⟩ | ⟨g, cap, cur, rfl, _, hg, hc, _, hs, ht⟩
  · obtain rfl := List.length_eq_zero_iff.1 h0
    exact SlIs.nil w
  · refine ⟨_, cap, rfl, hc, .inl ⟨g, 0, rfl, (Array.getElem?_eq_some_iff.1 hg).1, fun i x hi => ?_⟩⟩
    have hlt : i < L.length := (List.getElem?_eq_some_iff.1 hi).1
    have h1 : (cur.toList.take (L.length * 1))[i]? = some (encS x) := by rw [ht, List.getElem?_map, hi]; rfl
    rw [List.getElem?_take_of_lt (by omega)] at h1
    have h2 : cur[i]? = some (encS x) := by simpa using h1
    simp [World.cell?, hg, h2]
theorem own_below {w w' : World} {base : Nat} {e : TypeId} {size : Nat} {v : Value} {k : Nat} {xs : List Value} (h : w.ownsRow base e size v k xs) (hb : Below w.heap.size w w') : w'.ownsRow base e size v k xs := by
  refine ⟨h.1, ?_⟩
  rcases h.2 with hn | ⟨g, cap, cur, rfl, h1, hg, rest⟩
  · exact .inl hn
  · exact .inr ⟨g, cap, cur, rfl, h1, (hb.block g (Array.getElem?_eq_some_iff.1 hg).1).trans hg, rest⟩
theorem boxed_below {w w' : World} {B : Nat} {t : TypeId} {v : Value} (h : Boxed w B t v) (hb : Below w.heap.size w w') : Boxed w' B t v := (hb.block B h.lt).trans h

/-- How much texts are, each with one byte more. -/
def wt (ps : List (List UInt8)) : Nat := (ps.map fun p => p.length + 1).sum
theorem wt_nil : wt [] = 0 := rfl
theorem wt_cons (p : List UInt8) (ps : List (List UInt8)) : wt (p :: ps) = p.length + 1 + wt ps := by simp [wt]
theorem wt_append (a b : List (List UInt8)) : wt (a ++ b) = wt a + wt b := by simp [wt]
theorem joinS_wt : ∀ ps, (joinS ps).length ≤ wt ps
  | [] => by rw [joinS_nil]; simp
  | [x] => by rw [joinS_one, wt_cons]; omega
  | x :: y :: r => by
    have := joinS_wt (y :: r)
    rw [joinS_cons, wt_cons, List.length_append, List.length_cons]; omega
theorem wt_pieces : ∀ l, wt (piecesL l) = l.length + 1
  | [] => rfl
  | c :: r => by
    have ih := wt_pieces r
    by_cases h : c = 47
    · subst h; rw [pieces_slash, wt_cons, ih]; simp; omega
    · obtain ⟨p, ps, e1, e2⟩ := pieces_cons c r h
      rw [e2, wt_cons]; rw [e1, wt_cons] at ih; simp; omega
theorem wt_filter (f : List UInt8 → Bool) : ∀ ps, wt (ps.filter f) ≤ wt ps
  | [] => by simp
  | p :: ps => by
    have := wt_filter f ps
    rw [List.filter_cons, wt_cons]
    split
    · rw [wt_cons]; omega
    · omega
theorem wt_parts (l : List UInt8) : wt (partsL l) ≤ l.length + 1 := by
  have := wt_filter okPart (piecesL l)
  rw [wt_pieces] at this
  exact this
theorem wt_take (k : Nat) (ps : List (List UInt8)) : wt (ps.take k) ≤ wt ps := by
  have := wt_append (ps.take k) (ps.drop k)
  rw [List.take_append_drop] at this
  omega
theorem wt_drop (k : Nat) (ps : List (List UInt8)) : wt (ps.drop k) ≤ wt ps := by
  have := wt_append (ps.take k) (ps.drop k)
  rw [List.take_append_drop] at this
  omega
theorem wt_fold : ∀ (ps : List (List UInt8)) (s : St), wt (foldC ps s).1 ≤ wt s.1 + wt ps
  | [], s => by simp [foldC, wt_nil]
  | p :: ps, s => by
    have ih := wt_fold ps (stepC s p)
    rw [foldC_cons, wt_cons]
    have : wt (stepC s p).1 ≤ wt s.1 + (p.length + 1) := by
      unfold stepC
      split
      · split
        · simp [wt_nil]
        · rw [List.dropLast_eq_take]
          have := wt_take (s.1.length - 1) s.1
          dsimp only
          omega
      · dsimp only
        rw [wt_append, wt_cons, wt_nil]; omega
    omega
theorem wt_length : ∀ ps, ps.length ≤ wt ps
  | [] => by simp
  | p :: ps => by have := wt_length ps; rw [wt_cons, List.length_cons]; omega
theorem cleanL_le (l : List UInt8) : (cleanL l).1.length ≤ l.length + 1 := by
  have h1 := joinS_wt (foldC (partsL l) ([], true)).1
  have h2 := wt_fold (partsL l) ([], true)
  have h3 := wt_parts l
  have e : (cleanL l).1 = joinS (foldC (partsL l) ([], true)).1 := rfl
  rw [e]
  rw [wt_nil] at h2
  omega

/-- strings.Join at a slash. -/
theorem join_mk (v : Value) (L : List (List UInt8)) (hw : wt L ≤ 1000000) (w : World) (h : SlIs w v L) :
    Calls Tryd.prog 33 #[v, .string (mkS [47])] w fun e w' => e = .returned (.string (mkS (joinS L))) ∧ Below w.heap.size w w' := by
  have hj := joinS_wt L
  have hlen := wt_length L
  obtain ⟨ad, cap, rfl, hc, ⟨b, off, rfl, hb, ht⟩ | ⟨rfl, rfl, rfl⟩⟩ := h
  · have e1 : (L.map mkS).map (fun x : ByteArray => x.data.toList) = L := by
      rw [List.map_map]; conv => rhs; rw [← List.map_id L]
      exact List.map_congr_left fun x _ => mkS_list x
    have := Tryd.strings_Join b off cap (L.map mkS) (mkS [47]) w (fun j x hj => by
      rw [List.getElem?_map] at hj
      obtain ⟨y, h1, h2⟩ := Option.map_eq_some_iff.1 hj
      rw [← h2]; exact ht j y h1) hb (by simp; omega) (by simpa using hc) (by rw [e1, mkS_list]; show (joinS L).length ≤ _; omega)
    rw [e1, mkS_list, List.length_map] at this
    exact this
  · exact (Tryd.strings_Join_none none 0 (mkS [47]) w).mono fun e w' ⟨he, hw⟩ => ⟨he, hw ▸ Below.refl _ _⟩
end Go.Proofs.YtlgfdlfijfcfbaaDoor
