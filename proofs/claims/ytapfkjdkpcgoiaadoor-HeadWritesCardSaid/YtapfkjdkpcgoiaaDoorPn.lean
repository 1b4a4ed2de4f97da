/- Names as lists of bytes: their pieces, parts, what is clean, where they lie, how they are ordered. No run of the model in this text. -/
import Derived.Lib.Split
import Derived.Lib.Join
namespace Go.Proofs.YtapfkjdkpcgoiaaDoor
set_option linter.unusedVariables false

/-- The texts between the slashes. -/
def piecesL : List UInt8 → List (List UInt8)
  | [] => [[]]
  | c :: r => if c = 47 then [] :: piecesL r else match piecesL r with
    | [] => [[c]]
    | p :: ps => (c :: p) :: ps
def dd : List UInt8 := [46, 46]
def okPart (p : List UInt8) : Bool := !(p == []) && !(p == [46])
/-- The parts: the texts between the slashes, without empty ones and a point. -/
def partsL (l : List UInt8) : List (List UInt8) := (piecesL l).filter okPart
def joinS (ps : List (List UInt8)) : List UInt8 := Lib.join ps [47]

theorem pieces_ne : ∀ l : List UInt8, piecesL l ≠ []
  | [] => by simp [piecesL]
  | c :: r => by
    unfold piecesL
    split
    · simp
    · split <;> simp
theorem pieces_slash (r : List UInt8) : piecesL (47 :: r) = [] :: piecesL r := by rw [piecesL, if_pos rfl]
theorem pieces_cons (c : UInt8) (r : List UInt8) (h : c ≠ 47) : ∃ p ps, piecesL r = p :: ps ∧ piecesL (c :: r) = (c :: p) :: ps := by
  cases e : piecesL r with
  | nil => exact absurd e (pieces_ne r)
  | cons p ps => exact ⟨p, ps, rfl, by rw [piecesL, if_neg h, e]⟩
theorem pieces_append : ∀ a b : List UInt8, piecesL (a ++ 47 :: b) = piecesL a ++ piecesL b
  | [], b => by rw [List.nil_append, pieces_slash]; rfl
  | c :: a, b => by
    by_cases h : c = 47
    · subst h
      rw [List.cons_append, pieces_slash, pieces_slash, pieces_append a b]; rfl
    · obtain ⟨p, ps, e1, e2⟩ := pieces_cons c a h
      obtain ⟨q, qs, f1, f2⟩ := pieces_cons c (a ++ 47 :: b) h
      rw [pieces_append a b, e1] at f1
      rw [List.cons_append, f2, e2]
      injection f1 with g1 g2
      rw [← g1, ← g2]; rfl
theorem pieces_free : ∀ (l : List UInt8), ∀ p ∈ piecesL l, (47 : UInt8) ∉ p
  | [], p, h => by
    rw [piecesL, List.mem_singleton] at h
    subst h; simp
  | c :: r, p, h => by
    by_cases hc : c = 47
    · subst hc
      rw [pieces_slash] at h
      rcases List.mem_cons.1 h with e | h
      · subst e; simp
      · exact pieces_free r p h
    · obtain ⟨q, qs, e1, e2⟩ := pieces_cons c r hc
      have ih := pieces_free r
      rw [e1] at ih
      rw [e2] at h
      rcases List.mem_cons.1 h with e | h
      · subst e
        intro hm
        rcases List.mem_cons.1 hm with e | hm
        · exact hc e.symm
        · exact ih q (List.mem_cons_self ..) hm
      · exact ih p (List.mem_cons_of_mem _ h)
theorem pieces_one : ∀ a : List UInt8, (47 : UInt8) ∉ a → piecesL a = [a]
  | [], _ => rfl
  | c :: a, h => by
    have h1 : c ≠ 47 := fun e => h (by rw [e]; exact List.mem_cons_self ..)
    obtain ⟨p, ps, e1, e2⟩ := pieces_cons c a h1
    rw [pieces_one a (fun hm => h (List.mem_cons_of_mem _ hm))] at e1
    injection e1 with g1 g2
    rw [e2, ← g1, ← g2]
theorem pieces_head (a b : List UInt8) (h : (47 : UInt8) ∉ a) : piecesL (a ++ 47 :: b) = a :: piecesL b := by
  rw [pieces_append, pieces_one a h]; rfl

theorem joinS_nil : joinS [] = [] := rfl
theorem joinS_one (x : List UInt8) : joinS [x] = x := Lib.join_one x [47]
theorem joinS_cons (x y : List UInt8) (r : List (List UInt8)) : joinS (x :: y :: r) = x ++ 47 :: joinS (y :: r) := by
  unfold joinS
  rw [Lib.join_cons, Lib.join_cons]
  simp [Lib.joinTail]
theorem joinS_append : ∀ (a b : List (List UInt8)), a ≠ [] → b ≠ [] → joinS (a ++ b) = joinS a ++ 47 :: joinS b
  | [], _, h, _ => absurd rfl h
  | [x], [], _, h => absurd rfl h
  | [x], y :: b, _, _ => by rw [joinS_one]; exact joinS_cons x y b
  | x :: y :: a, b, _, h => by
    have ih := joinS_append (y :: a) b (by simp) h
    rw [joinS_cons, List.cons_append, List.cons_append, joinS_cons, ← List.cons_append, ih]
    simp
theorem joinS_pieces : ∀ l : List UInt8, joinS (piecesL l) = l
  | [] => by rw [piecesL]; exact joinS_one _
  | c :: r => by
    have ih := joinS_pieces r
    by_cases h : c = 47
    · subst h
      rw [pieces_slash]
      cases e : piecesL r with
      | nil => exact absurd e (pieces_ne r)
      | cons p ps => rw [joinS_cons, ← e, ih]; rfl
    · obtain ⟨p, ps, e1, e2⟩ := pieces_cons c r h
      rw [e2]
      rw [e1] at ih
      cases ps with
      | nil => rw [joinS_one] at ih ⊢; rw [ih]
      | cons q qs => rw [joinS_cons] at ih ⊢; rw [← ih]; rfl
theorem pieces_join : ∀ ps : List (List UInt8), ps ≠ [] → (∀ p ∈ ps, (47 : UInt8) ∉ p) → piecesL (joinS ps) = ps
  | [], h, _ => absurd rfl h
  | [x], _, h => by rw [joinS_one]; exact pieces_one x (h x (List.mem_cons_self ..))
  | x :: y :: r, _, h => by
    rw [joinS_cons, pieces_head x _ (h x (List.mem_cons_self ..)), pieces_join (y :: r) (by simp) fun p hp => h p (List.mem_cons_of_mem _ hp)]
theorem pieces_length_le (l : List UInt8) : (piecesL l).length ≤ l.length + 1 := by
  induction l with
  | nil => simp [piecesL]
  | cons c r ih =>
    by_cases h : c = 47
    · subst h; rw [pieces_slash]; simp; exact ih
    · obtain ⟨p, ps, e1, e2⟩ := pieces_cons c r h
      rw [e2]; rw [e1] at ih; simp at ih ⊢; omega

theorem okPart_iff (p : List UInt8) : okPart p = true ↔ p ≠ [] ∧ p ≠ [46] := by
  unfold okPart
  simp
theorem parts_append (a b : List UInt8) : partsL (a ++ 47 :: b) = partsL a ++ partsL b := by
  unfold partsL
  rw [pieces_append, List.filter_append]
theorem parts_nil : partsL [] = [] := rfl
theorem parts_good (l : List UInt8) : ∀ p ∈ partsL l, okPart p = true ∧ (47 : UInt8) ∉ p := fun p hp =>
  ⟨(List.mem_filter.1 hp).2, pieces_free l p (List.mem_filter.1 hp).1⟩
theorem parts_join (ps : List (List UInt8)) (h : ∀ p ∈ ps, okPart p = true ∧ (47 : UInt8) ∉ p) : partsL (joinS ps) = ps := by
  by_cases e : ps = []
  · subst e; rfl
  · unfold partsL
    rw [pieces_join ps e fun p hp => (h p hp).2]
    exact List.filter_eq_self.2 fun p hp => (h p hp).1
theorem parts_length_le (l : List UInt8) : (partsL l).length ≤ l.length + 1 := Nat.le_trans (List.length_filter_le _ _) (pieces_length_le l)
theorem parts_slash (l : List UInt8) : partsL (47 :: l) = partsL l := by
  have := parts_append [] l
  rwa [List.nil_append, parts_nil, List.nil_append] at this

/-! ### Clean -/
abbrev St := List (List UInt8) × Bool
/-- What a part does to what is kept. -/
def stepC (s : St) (p : List UInt8) : St := if p = dd then (if s.1 = [] then ([], false) else (s.1.dropLast, s.2)) else (s.1 ++ [p], s.2)
def foldC (ps : List (List UInt8)) (s : St) : St := ps.foldl stepC s
def cleanL (l : List UInt8) : List UInt8 × Bool := (joinS (foldC (partsL l) ([], true)).1, (foldC (partsL l) ([], true)).2)

theorem stepC_part (s : St) (p : List UInt8) (h : p ≠ dd) : stepC s p = (s.1 ++ [p], s.2) := by unfold stepC; rw [if_neg h]
theorem stepC_up (s : St) (h : s.1 ≠ []) : stepC s dd = (s.1.dropLast, s.2) := by unfold stepC; rw [if_pos rfl, if_neg h]
theorem stepC_none (b : Bool) : stepC ([], b) dd = ([], false) := by unfold stepC; rw [if_pos rfl, if_pos rfl]
theorem foldC_append (a b : List (List UInt8)) (s : St) : foldC (a ++ b) s = foldC b (foldC a s) := List.foldl_append ..
theorem foldC_cons (p : List UInt8) (b : List (List UInt8)) (s : St) : foldC (p :: b) s = foldC b (stepC s p) := rfl
theorem foldC_snoc (a : List (List UInt8)) (p : List UInt8) (s : St) : foldC (a ++ [p]) s = stepC (foldC a s) p := by rw [foldC_append]; rfl
theorem foldC_plain : ∀ (ps : List (List UInt8)) (s : St), (∀ p ∈ ps, p ≠ dd) → foldC ps s = (s.1 ++ ps, s.2)
  | [], s, _ => by simp [foldC]
  | p :: ps, s, h => by
    rw [foldC_cons, stepC_part s p (h p (List.mem_cons_self ..)), foldC_plain ps _ fun q hq => h q (List.mem_cons_of_mem _ hq)]
    simp
/-- What is kept came, and is no '..'. -/
theorem foldC_mem : ∀ (ps : List (List UInt8)) (s : St), ∀ p ∈ (foldC ps s).1, p ∈ s.1 ∨ (p ∈ ps ∧ p ≠ dd)
  | [], s, p, h => .inl h
  | q :: ps, s, p, h => by
    rw [foldC_cons] at h
    rcases foldC_mem ps _ p h with h | ⟨h1, h2⟩
    · by_cases e : q = dd
      · subst e
        by_cases hs : s.1 = []
        · obtain ⟨k, b⟩ := s
          dsimp only at hs; subst hs
          rw [stepC_none] at h; cases h
        · rw [stepC_up s hs] at h
          exact .inl (List.dropLast_subset _ h)
      · rw [stepC_part s q e] at h
        rcases List.mem_append.1 h with h | h
        · exact .inl h
        · rw [List.mem_singleton] at h
          subst h
          exact .inr ⟨List.mem_cons_self .., e⟩
    · exact .inr ⟨List.mem_cons_of_mem _ h1, h2⟩
theorem foldC_length : ∀ (ps : List (List UInt8)) (s : St), (foldC ps s).1.length ≤ s.1.length + ps.length
  | [], s => by simp [foldC]
  | q :: ps, s => by
    rw [foldC_cons]
    have ih := foldC_length ps (stepC s q)
    have : (stepC s q).1.length ≤ s.1.length + 1 := by
      unfold stepC
      split
      · split
        · simp
        · simp; omega
      · simp
    simp only [List.length_cons]; omega
/-- The flag goes beside. -/
theorem foldC_flag : ∀ (ps : List (List UInt8)) (k : List (List UInt8)) (b : Bool), foldC ps (k, b) = ((foldC ps (k, true)).1, b && (foldC ps (k, true)).2)
  | [], k, b => by simp [foldC]
  | q :: ps, k, b => by
    rw [foldC_cons, foldC_cons]
    by_cases e : q = dd
    · subst e
      by_cases hk : k = []
      · subst hk
        rw [stepC_none, stepC_none, foldC_flag ps [] false]; simp
      · rw [stepC_up (k, b) hk, stepC_up (k, true) hk]
        exact foldC_flag ps _ b
    · rw [stepC_part _ q e, stepC_part _ q e]
      exact foldC_flag ps _ b
theorem kept_good (l : List UInt8) : ∀ p ∈ (foldC (partsL l) ([], true)).1, (okPart p = true ∧ (47 : UInt8) ∉ p) ∧ p ≠ dd := fun p hp => by
  rcases foldC_mem _ _ p hp with h | ⟨h1, h2⟩
  · cases h
  · exact ⟨parts_good l p h1, h2⟩
theorem clean_parts (l : List UInt8) : partsL (cleanL l).1 = (foldC (partsL l) ([], true)).1 := parts_join _ fun p hp => (kept_good l p hp).1
theorem clean_idem (l : List UInt8) : cleanL (cleanL l).1 = ((cleanL l).1, true) := by
  rw [cleanL, clean_parts, foldC_plain _ _ fun p hp => (kept_good l p hp).2]
  rfl
/-- What is the same to what is kept of the way there is the same to what is kept of the way on. -/
theorem clean_on (a b : List UInt8) : cleanL (a ++ 47 :: b) = ((cleanL ((cleanL a).1 ++ 47 :: b)).1, (cleanL a).2 && (cleanL ((cleanL a).1 ++ 47 :: b)).2) := by
  have h1 : foldC (partsL (a ++ 47 :: b)) ([], true) = foldC (partsL b) ((foldC (partsL a) ([], true)).1, (foldC (partsL a) ([], true)).2) := by rw [parts_append, foldC_append]
  have h2 : foldC (partsL ((cleanL a).1 ++ 47 :: b)) ([], true) = foldC (partsL b) ((foldC (partsL a) ([], true)).1, true) := by
    rw [parts_append, clean_parts, foldC_append, foldC_plain _ _ fun p hp => (kept_good a p hp).2]; rfl
  have h3 := foldC_flag (partsL b) (foldC (partsL a) ([], true)).1 (foldC (partsL a) ([], true)).2
  have e1 : cleanL (a ++ 47 :: b) = (joinS (foldC (partsL b) ((foldC (partsL a) ([], true)).1, true)).1, (foldC (partsL a) ([], true)).2 && (foldC (partsL b) ((foldC (partsL a) ([], true)).1, true)).2) := by
    rw [cleanL, h1, h3]
  have e2 : cleanL ((cleanL a).1 ++ 47 :: b) = (joinS (foldC (partsL b) ((foldC (partsL a) ([], true)).1, true)).1, (foldC (partsL b) ((foldC (partsL a) ([], true)).1, true)).2) := by
    rw [cleanL, h2]
  rw [e1, e2]
  rfl

/-! ### Right -/
def goodPiece (p : List UInt8) : Bool := !(p == []) && !(p == [46]) && !(p == [46, 46])
theorem goodPiece_iff (p : List UInt8) : goodPiece p = true ↔ okPart p = true ∧ p ≠ dd := by
  unfold goodPiece okPart dd
  simp
def rightB (l : List UInt8) : Bool := decide (l ≠ [] ∧ l.length ≤ 120 ∧ (0 : UInt8) ∉ l ∧ (piecesL l).all goodPiece = true ∧ (piecesL l).length ≤ 12)
theorem clean_self (l : List UInt8) (hl : l ≠ []) : cleanL l = (l, true) ↔ (piecesL l).all goodPiece = true := by
  constructor
  · intro h
    have e : joinS (foldC (partsL l) ([], true)).1 = l := congrArg Prod.fst h
    have hk : (foldC (partsL l) ([], true)).1 ≠ [] := fun e2 => hl (by rw [← e, e2]; rfl)
    have hp := pieces_join _ hk fun p hp => (kept_good l p hp).1.2
    rw [e] at hp
    rw [hp, List.all_eq_true]
    intro p hp2
    obtain ⟨⟨h1, _⟩, h2⟩ := kept_good l p hp2
    exact (goodPiece_iff p).2 ⟨h1, h2⟩
  · intro h
    rw [List.all_eq_true] at h
    have hp : partsL l = piecesL l := List.filter_eq_self.2 fun p hp => ((goodPiece_iff p).1 (h p hp)).1
    unfold cleanL
    rw [hp, foldC_plain _ _ fun p hp => ((goodPiece_iff p).1 (h p hp)).2]
    simp only [List.nil_append, joinS_pieces]
theorem right_iff (l : List UInt8) : rightB l = true ↔ l ≠ [] ∧ l.length ≤ 120 ∧ (0 : UInt8) ∉ l ∧ cleanL l = (l, true) ∧ (partsL l).length ≤ 12 := by
  unfold rightB
  rw [decide_eq_true_eq]
  constructor
  · rintro ⟨h1, h2, h3, h4, h5⟩
    refine ⟨h1, h2, h3, (clean_self l h1).2 h4, Nat.le_trans (List.length_filter_le _ _) h5⟩
  · rintro ⟨h1, h2, h3, h4, h5⟩
    have h6 := (clean_self l h1).1 h4
    refine ⟨h1, h2, h3, h6, ?_⟩
    rw [List.all_eq_true] at h6
    have hp : partsL l = piecesL l := List.filter_eq_self.2 fun p hp => ((goodPiece_iff p).1 (h6 p hp)).1
    rwa [hp] at h5
theorem right_facts (l : List UInt8) (h : rightB l = true) : l ≠ [] ∧ l.length ≤ 120 ∧ (0 : UInt8) ∉ l ∧ partsL l = piecesL l ∧ (∀ p ∈ partsL l, p ≠ dd) ∧ joinS (partsL l) = l ∧ partsL l ≠ [] ∧ (partsL l).length ≤ 12 := by
  unfold rightB at h
  rw [decide_eq_true_eq] at h
  obtain ⟨h1, h2, h3, h4, h5⟩ := h
  rw [List.all_eq_true] at h4
  have hp : partsL l = piecesL l := List.filter_eq_self.2 fun p hp => ((goodPiece_iff p).1 (h4 p hp)).1
  refine ⟨h1, h2, h3, hp, ?_, ?_, ?_, ?_⟩
  · rw [hp]; exact fun p hp => ((goodPiece_iff p).1 (h4 p hp)).2
  · rw [hp]; exact joinS_pieces l
  · rw [hp]; exact pieces_ne l
  · rw [hp]; exact h5
/-- A name of good parts. -/
theorem right_of_join (ps : List (List UInt8)) (h0 : ps ≠ []) (h : ∀ p ∈ ps, okPart p = true ∧ (47 : UInt8) ∉ p) (hd : ∀ p ∈ ps, p ≠ dd) (hz : (0 : UInt8) ∉ joinS ps) (hl : (joinS ps).length ≤ 120) (hn : ps.length ≤ 12) : rightB (joinS ps) = true := by
  unfold rightB
  rw [decide_eq_true_eq, pieces_join ps h0 fun p hp => (h p hp).2]
  refine ⟨fun e => ?_, hl, hz, List.all_eq_true.2 fun p hp => (goodPiece_iff p).2 ⟨(h p hp).1, hd p hp⟩, hn⟩
  have := pieces_join ps h0 fun p hp => (h p hp).2
  rw [e] at this
  have h1 := (h [] (by rw [← this]; simp [piecesL])).1
  simp [okPart] at h1

/-! ### Up -/
def upL (l : List UInt8) : List UInt8 × List UInt8 := (joinS (piecesL l).dropLast, (piecesL l).getLast (pieces_ne l))
theorem upL_slash (a b : List UInt8) (h : (47 : UInt8) ∉ b) : upL (a ++ 47 :: b) = (a, b) := by
  have e : piecesL (a ++ 47 :: b) = piecesL a ++ [b] := by rw [pieces_append, pieces_one b h]
  unfold upL
  simp only [e, List.dropLast_concat, joinS_pieces]
  rw [List.getLast_concat]
theorem upL_none (l : List UInt8) (h : (47 : UInt8) ∉ l) : upL l = ([], l) := by
  have e := pieces_one l h
  unfold upL
  simp only [e, List.dropLast_singleton, List.getLast_singleton, joinS_nil]

/-! ### In -/
def inB (n d : List UInt8) : Bool := decide (d = [] ∨ n = d ∨ d ++ [47] <+: n)
theorem in_ref (n d : List UInt8) : inB n d = decide (d = [] ∨ d ++ [47] <+: n ++ [47]) := by
  unfold inB
  congr 1
  refine propext ⟨?_, ?_⟩
  · rintro (h | h | h)
    · exact .inl h
    · exact .inr (by rw [h]; exact List.prefix_refl _)
    · exact .inr (h.trans (List.prefix_append _ _))
  · rintro (h | ⟨t, h⟩)
    · exact .inl h
    · right
      rcases List.eq_nil_or_concat t with e | ⟨t', c, e⟩
      · subst e
        rw [List.append_nil] at h
        exact .inl (List.append_inj_left' h rfl).symm
      · subst e
        rw [List.concat_eq_append, ← List.append_assoc] at h
        exact .inr ⟨t', List.append_inj_left' h rfl⟩
theorem in_trans (a b c : List UInt8) (h1 : inB a b = true) (h2 : inB b c = true) : inB a c = true := by
  unfold inB at *
  rw [decide_eq_true_eq] at *
  rcases h2 with h2 | h2 | h2
  · exact .inl h2
  · subst h2; exact h1
  · rcases h1 with h1 | h1 | h1
    · subst h1
      have := h2.length_le
      simp at this
    · subst h1; exact .inr (.inr h2)
    · exact .inr (.inr ((h2.trans (List.prefix_append b [47])).trans h1))
theorem in_antisymm (a b : List UInt8) (ha : a ≠ []) (hb : b ≠ []) (h1 : inB a b = true) (h2 : inB b a = true) : a = b := by
  unfold inB at *
  rw [decide_eq_true_eq] at *
  rcases h1 with h1 | h1 | h1
  · exact absurd h1 hb
  · exact h1
  · rcases h2 with h2 | h2 | h2
    · exact absurd h2 ha
    · exact h2.symm
    · have l1 := h1.length_le
      have l2 := h2.length_le
      simp at l1 l2
      omega
theorem in_parts (n d : List UInt8) (hn : rightB n = true) (hd : rightB d = true) : inB n d = true ↔ partsL d <+: partsL n := by
  obtain ⟨n1, _, _, n4, _, n6, n7, _⟩ := right_facts n hn
  obtain ⟨d1, _, _, d4, _, d6, d7, _⟩ := right_facts d hd
  unfold inB
  rw [decide_eq_true_eq]
  constructor
  · rintro (h | h | ⟨t, h⟩)
    · exact absurd h d1
    · subst h; exact List.prefix_refl _
    · rw [List.append_assoc] at h
      rw [← h]
      show partsL d <+: partsL (d ++ 47 :: t)
      rw [parts_append]
      exact List.prefix_append _ _
  · rintro ⟨t, h⟩
    right
    by_cases e : t = []
    · subst e
      rw [List.append_nil] at h
      left
      rw [← n6, ← d6, h]
    · right
      refine ⟨joinS t, ?_⟩
      rw [← n6, ← h, joinS_append _ _ d7 e, d6]
      simp

/-! ### Compare -/
theorem tlt_irrefl (a : List UInt8) : ¬ a < a := List.lt_irrefl a
theorem tlt_asymm {a b : List UInt8} (h : a < b) : ¬ b < a := List.lt_asymm h
theorem tlt_trans {a b c : List UInt8} (h : a < b) (h' : b < c) : a < c := List.lt_trans h h'
theorem tlt_tri {a b : List UInt8} (h1 : ¬ a < b) (h2 : ¬ b < a) : a = b := List.le_antisymm (List.not_lt.1 h2) (List.not_lt.1 h1)
def cmpL : List (List UInt8) → List (List UInt8) → Int
  | [], [] => 0
  | [], _ :: _ => -1
  | _ :: _, [] => 1
  | x :: a, y :: b => if x < y then -1 else if y < x then 1 else cmpL a b
theorem cmpL_eq (x : List UInt8) (a b : List (List UInt8)) : cmpL (x :: a) (x :: b) = cmpL a b := by
  rw [cmpL, if_neg (tlt_irrefl x), if_neg (tlt_irrefl x)]
theorem cmpL_three : ∀ a b, cmpL a b = -1 ∨ cmpL a b = 0 ∨ cmpL a b = 1
  | [], [] => .inr (.inl rfl)
  | [], _ :: _ => .inl rfl
  | _ :: _, [] => .inr (.inr rfl)
  | x :: a, y :: b => by
    rw [cmpL]
    split
    · exact .inl rfl
    · split
      · exact .inr (.inr rfl)
      · exact cmpL_three a b
theorem cmpL_neg : ∀ a b, cmpL b a = - cmpL a b
  | [], [] => rfl
  | [], _ :: _ => rfl
  | _ :: _, [] => rfl
  | x :: a, y :: b => by
    rw [cmpL, cmpL]
    by_cases h1 : x < y
    · rw [if_neg (tlt_asymm h1), if_pos h1, if_pos h1]; rfl
    · rw [if_neg h1]
      by_cases h2 : y < x
      · rw [if_pos h2, if_neg h1, if_pos h2]
      · rw [if_neg h2, if_neg h1, if_neg h2]; exact cmpL_neg a b
theorem cmpL_zero : ∀ a b, cmpL a b = 0 ↔ a = b
  | [], [] => by simp [cmpL]
  | [], _ :: _ => by simp [cmpL]
  | _ :: _, [] => by simp [cmpL]
  | x :: a, y :: b => by
    rw [cmpL]
    by_cases h1 : x < y
    · rw [if_pos h1]
      constructor
      · intro h; omega
      · intro h; injection h with h _; subst h; exact absurd h1 (tlt_irrefl x)
    · rw [if_neg h1]
      by_cases h2 : y < x
      · rw [if_pos h2]
        constructor
        · intro h; omega
        · intro h; injection h with h _; subst h; exact absurd h2 (tlt_irrefl x)
      · rw [if_neg h2, cmpL_zero a b, tlt_tri h1 h2]; simp
theorem cmpL_trans : ∀ a b c, cmpL a b < 0 → cmpL b c < 0 → cmpL a c < 0
  | [], [], _, h, _ => by simp [cmpL] at h
  | [], _ :: _, [], _, h => by simp [cmpL] at h
  | [], _ :: _, _ :: _, _, _ => by simp [cmpL]
  | _ :: _, [], _, h, _ => by simp [cmpL] at h
  | _ :: _, _ :: _, [], _, h => by simp [cmpL] at h
  | x :: a, y :: b, z :: c, h1, h2 => by
    by_cases g1 : x < y
    · by_cases g2 : y < z
      · rw [cmpL, if_pos (tlt_trans g1 g2)]; omega
      · by_cases g3 : z < y
        · rw [cmpL, if_neg g2, if_pos g3] at h2; omega
        · obtain rfl := tlt_tri g2 g3
          rw [cmpL, if_pos g1]; omega
    · by_cases g3 : y < x
      · rw [cmpL, if_neg g1, if_pos g3] at h1; omega
      · obtain rfl := tlt_tri g1 g3
        rw [cmpL_eq] at h1
        by_cases g2 : x < z
        · rw [cmpL, if_pos g2]; omega
        · by_cases g4 : z < x
          · rw [cmpL, if_neg g2, if_pos g4] at h2; omega
          · obtain rfl := tlt_tri g2 g4
            rw [cmpL_eq] at h2 ⊢
            exact cmpL_trans a b c h1 h2
theorem cmpL_head : ∀ a t, t ≠ [] → cmpL a (a ++ t) = -1
  | [], [], h => absurd rfl h
  | [], _ :: _, _ => rfl
  | x :: a, t, h => by rw [List.cons_append, cmpL_eq]; exact cmpL_head a t h
/-- What stands between a list and one that begins with it begins with it, too. -/
theorem cmpL_between : ∀ a b c, a <+: c → cmpL a b < 0 → cmpL b c < 0 → a <+: b
  | [], b, _, _, _, _ => List.nil_prefix
  | x :: a, [], _, _, h, _ => by simp [cmpL] at h
  | x :: a, y :: b, [], hp, _, _ => by have := hp.length_le; simp at this
  | x :: a, y :: b, z :: c, hp, h1, h2 => by
    obtain ⟨rfl, hp2⟩ := List.cons_prefix_cons.1 hp
    by_cases g1 : x < y
    · rw [cmpL, if_neg (tlt_asymm g1), if_pos g1] at h2; omega
    · by_cases g2 : y < x
      · rw [cmpL, if_neg g1, if_pos g2] at h1; omega
      · obtain rfl := tlt_tri g1 g2
        rw [cmpL_eq] at h1 h2
        exact List.cons_prefix_cons.2 ⟨rfl, cmpL_between a b c hp2 h1 h2⟩

/-! ### To, Away -/
def toL (n k : List UInt8) : List UInt8 × Bool := if k.head? = some 47 then cleanL k else cleanL ((upL n).1 ++ 47 :: k)
/-- How many of the first m parts are the same. -/
def commL : Nat → List (List UInt8) → List (List UInt8) → Nat
  | m + 1, x :: a, y :: b => if x = y then commL m a b + 1 else 0
  | _, _, _ => 0
def upsL (k : Nat) : List UInt8 := (List.replicate k ([46, 46, 47] : List UInt8)).flatten
def awayP (x y : List (List UInt8)) : List UInt8 := upsL (x.length - 1 - commL (min x.length y.length - 1) x y) ++ joinS (y.drop (commL (min x.length y.length - 1) x y))
def awayL (a b : List UInt8) : List UInt8 := awayP (partsL a) (partsL b)

theorem commL_le : ∀ m x y, commL m x y ≤ m
  | 0, _, _ => by simp [commL]
  | m + 1, [], _ => by simp [commL]
  | m + 1, _ :: _, [] => by simp [commL]
  | m + 1, x :: a, y :: b => by
    rw [commL]
    split
    · have := commL_le m a b; omega
    · omega
theorem commL_take : ∀ (m : Nat) (x y : List (List UInt8)), x.take (commL m x y) = y.take (commL m x y)
  | 0, _, _ => by simp [commL]
  | m + 1, [], _ => by simp [commL]
  | m + 1, _ :: _, [] => by simp [commL]
  | m + 1, x :: a, y :: b => by
    rw [commL]
    split
    · rename_i e
      rw [List.take_succ_cons, List.take_succ_cons, e, commL_take m a b]
    · rfl
theorem commL_more : ∀ (m k : Nat) (x y : List (List UInt8)), k ≤ commL m x y → k < m → k < x.length → k < y.length → (k < commL m x y ↔ x[k]? = y[k]?)
  | 0, k, _, _, _, h, _, _ => by omega
  | m + 1, k, [], _, _, _, h, _ => by simp at h
  | m + 1, k, _ :: _, [], _, _, _, h => by simp at h
  | m + 1, 0, x :: a, y :: b, h, _, _, _ => by
    rw [commL]
    by_cases e : x = y
    · rw [if_pos e]; simp [e]
    · rw [if_neg e]; simp [e]
  | m + 1, k + 1, x :: a, y :: b, h, h1, h2, h3 => by
    rw [commL] at h ⊢
    by_cases e : x = y
    · rw [if_pos e] at h ⊢
      have := commL_more m k a b (by omega) (by omega) (by simp at h2; omega) (by simp at h3; omega)
      simp only [List.getElem?_cons_succ]
      rw [← this]
      omega
    · rw [if_neg e] at h; omega
theorem upsL_succ (k : Nat) : upsL (k + 1) = [46, 46, 47] ++ upsL k := by unfold upsL; rw [List.replicate_succ, List.flatten_cons]
theorem upsL_snoc (k : Nat) : upsL (k + 1) = upsL k ++ [46, 46, 47] := by unfold upsL; rw [List.replicate_succ', List.flatten_append]; simp
theorem upsL_length (k : Nat) : (upsL k).length = 3 * k := by
  induction k with
  | zero => rfl
  | succ k ih => rw [upsL_succ, List.length_append, ih]; simp; omega
theorem parts_ups (t : List UInt8) : ∀ k, partsL (upsL k ++ t) = List.replicate k dd ++ partsL t
  | 0 => by simp [upsL]
  | k + 1 => by
    have e : upsL (k + 1) ++ t = [46, 46] ++ 47 :: (upsL k ++ t) := by rw [upsL_succ]; simp
    rw [e, parts_append, parts_ups t k, List.replicate_succ]
    rfl
theorem foldC_ups : ∀ (k : Nat) (s : List (List UInt8)) (b : Bool), k ≤ s.length → foldC (List.replicate k dd) (s, b) = (s.take (s.length - k), b)
  | 0, s, b, _ => by simp [foldC]
  | k + 1, s, b, h => by
    rw [List.replicate_succ, foldC_cons, stepC_up (s, b) (fun e => by rw [show s = [] from e] at h; simp at h), foldC_ups k _ _ (by simp; omega)]
    simp only [List.length_dropLast]
    rw [List.dropLast_eq_take, List.take_take]
    congr 2
    omega
theorem foldC_plain' (ps s : List (List UInt8)) (b : Bool) (h : ∀ p ∈ ps, p ≠ dd) : foldC ps (s, b) = (s ++ ps, b) := foldC_plain ps (s, b) h
theorem up_parts (a : List UInt8) (ha : rightB a = true) : partsL (upL a).1 = (partsL a).dropLast := by
  obtain ⟨_, _, _, a4, _⟩ := right_facts a ha
  unfold upL
  dsimp only
  rw [← a4]
  exact parts_join _ fun p hp => parts_good a p (List.dropLast_subset _ hp)
theorem joinS_head (x : List UInt8) (r : List (List UInt8)) (hx : okPart x = true ∧ (47 : UInt8) ∉ x) : (joinS (x :: r)).head? ≠ some 47 := by
  have h1 := (okPart_iff x).1 hx.1
  cases x with
  | nil => exact absurd rfl h1.1
  | cons c x =>
    have hc : c ≠ 47 := fun e => hx.2 (by rw [e]; exact List.mem_cons_self ..)
    cases r with
    | nil => rw [joinS_one]; simpa using hc
    | cons y r => rw [joinS_cons]; simpa using hc
/-- There and there. -/
theorem to_away (a b : List UInt8) (ha : rightB a = true) (hb : rightB b = true) : toL a (awayL a b) = (b, true) := by
  obtain ⟨_, _, _, a4, a5, a6, a7, _⟩ := right_facts a ha
  obtain ⟨_, _, _, b4, b5, b6, b7, _⟩ := right_facts b hb
  have hla : 1 ≤ (partsL a).length := List.length_pos_iff.2 a7
  have hlb : 1 ≤ (partsL b).length := List.length_pos_iff.2 b7
  have hup := up_parts a ha
  have hgb := parts_good b
  unfold awayL
  generalize partsL a = x at *
  generalize hy : partsL b = y at *
  have hk := commL_le (min x.length y.length - 1) x y
  have ht := commL_take (min x.length y.length - 1) x y
  unfold awayP
  generalize commL (min x.length y.length - 1) x y = k at *
  have hkx : k ≤ x.length - 1 := by omega
  have hky : k < y.length := by omega
  have hd : y.drop k ≠ [] := fun e => by have := congrArg List.length e; simp at this; omega
  have hh : (upsL (x.length - 1 - k) ++ joinS (y.drop k)).head? ≠ some 47 := by
    cases hu : x.length - 1 - k with
    | zero =>
      cases hyd : y.drop k with
      | nil => exact absurd hyd hd
      | cons z r =>
        show (joinS (z :: r)).head? ≠ some 47
        exact joinS_head z r (hgb z (List.mem_of_mem_drop (by rw [hyd]; exact List.mem_cons_self ..)))
    | succ u => rw [upsL_succ]; simp
  unfold toL
  rw [if_neg hh]
  have hp : partsL ((upL a).1 ++ 47 :: (upsL (x.length - 1 - k) ++ joinS (y.drop k))) = x.dropLast ++ (List.replicate (x.length - 1 - k) dd ++ y.drop k) := by
    rw [parts_append, hup, parts_ups, parts_join _ fun p hp => hgb p (List.mem_of_mem_drop hp)]
  unfold cleanL
  rw [hp, foldC_append, foldC_append, foldC_plain' x.dropLast [] true fun p hp => a5 p (List.dropLast_subset _ hp), List.nil_append,
    foldC_ups _ _ _ (by simp), foldC_plain' _ _ _ fun p hp => b5 p (List.mem_of_mem_drop hp)]
  have e : x.dropLast.take (x.dropLast.length - (x.length - 1 - k)) = y.take k := by
    rw [← ht, List.length_dropLast, List.dropLast_eq_take, List.take_take]
    congr 1
    omega
  dsimp only
  rw [e, List.take_append_drop, b6]
theorem to_abs (a b : List UInt8) (hb : rightB b = true) : toL a (47 :: b) = (b, true) := by
  obtain ⟨h1, h2, h3, h4, h5⟩ := (right_iff b).1 hb
  unfold toL
  rw [if_pos (by simp)]
  unfold cleanL at h4 ⊢
  rw [parts_slash]
  exact h4
/-- What the reference does: heads that are the same go. -/
def stripL : List (List UInt8) → List (List UInt8) → List (List UInt8) × List (List UInt8)
  | x :: x' :: a, y :: y' :: b => if x = y then stripL (x' :: a) (y' :: b) else (x :: x' :: a, y :: y' :: b)
  | a, b => (a, b)
theorem strip_away : ∀ (x y : List (List UInt8)), stripL x y = (x.drop (commL (min x.length y.length - 1) x y), y.drop (commL (min x.length y.length - 1) x y))
  | [], y => by simp [stripL, commL]
  | [x], y => by
    have : min [x].length y.length - 1 = 0 := by simp only [List.length_cons, List.length_nil]; omega
    rw [this]; simp [stripL, commL]
  | x :: x' :: a, [] => by simp [stripL, commL]
  | x :: x' :: a, [y] => by
    have : min (x :: x' :: a).length [y].length - 1 = 0 := by simp only [List.length_cons, List.length_nil]; omega
    rw [this]; simp [stripL, commL]
  | x :: x' :: a, y :: y' :: b => by
    have ih := strip_away (x' :: a) (y' :: b)
    rw [stripL]
    have e : min (x :: x' :: a).length (y :: y' :: b).length - 1 = (min (x' :: a).length (y' :: b).length - 1) + 1 := by simp only [List.length_cons]; omega
    rw [e, commL]
    by_cases h : x = y
    · rw [if_pos h, if_pos h, ih]; simp
    · rw [if_neg h, if_neg h]; simp
theorem strip_away2 (x y : List (List UInt8)) : awayP x y = upsL ((stripL x y).1.length - 1) ++ joinS (stripL x y).2 := by
  rw [strip_away]
  unfold awayP
  dsimp only
  rw [List.length_drop]
  congr 2
  omega

/-! ### Split -/
def halfAt (l : List UInt8) (i : Nat) : Prop := 1 ≤ i ∧ i ≤ 155 ∧ l[i]? = some 47 ∧ 1 ≤ l.length - (i + 1) ∧ l.length - (i + 1) ≤ 100
/-- What Split answers. -/
def HalfIs (l a b : List UInt8) (ok : Bool) : Prop :=
  (l.length ≤ 100 ∧ a = [] ∧ b = l ∧ ok = true) ∨
  (100 < l.length ∧ ((∃ i, halfAt l i ∧ (∀ j, j < i → ¬ halfAt l j) ∧ a = l.take i ∧ b = l.drop (i + 1) ∧ ok = true) ∨ ((∀ i, ¬ halfAt l i) ∧ a = [] ∧ b = [] ∧ ok = false)))
theorem HalfIs.unique {l a b a' b' : List UInt8} {k k' : Bool} (h : HalfIs l a b k) (h' : HalfIs l a' b' k') : a = a' ∧ b = b' ∧ k = k' := by
  rcases h with ⟨h0, rfl, rfl, rfl⟩ | ⟨h0, h⟩
  · rcases h' with ⟨_, rfl, rfl, rfl⟩ | ⟨h1, _⟩
    · exact ⟨rfl, rfl, rfl⟩
    · omega
  · rcases h' with ⟨h1, _⟩ | ⟨_, h'⟩
    · omega
    · rcases h with ⟨i, hi, hl, rfl, rfl, rfl⟩ | ⟨hn, rfl, rfl, rfl⟩
      · rcases h' with ⟨j, hj, hl', rfl, rfl, rfl⟩ | ⟨hn', _⟩
        · obtain rfl : i = j := by
            by_cases h1 : i < j
            · exact absurd hi (hl' i h1)
            · by_cases h2 : j < i
              · exact absurd hj (hl j h2)
              · omega
          exact ⟨rfl, rfl, rfl⟩
        · exact absurd hi (hn' i)
      · rcases h' with ⟨j, hj, _⟩ | ⟨_, rfl, rfl, rfl⟩
        · exact absurd hj (hn j)
        · exact ⟨rfl, rfl, rfl⟩
theorem take_slash (l : List UInt8) (i : Nat) (h : l[i]? = some 47) : l.take i ++ 47 :: l.drop (i + 1) = l := by
  obtain ⟨h1, h2⟩ := List.getElem?_eq_some_iff.1 h
  have e : l.drop i = 47 :: l.drop (i + 1) := by rw [List.drop_eq_getElem_cons h1, h2]
  have := List.take_append_drop i l
  rwa [e] at this

/-! ### What lies in what -/
theorem up_facts (a : List UInt8) (ha : rightB a = true) :
    (upL a).1 ++ 47 :: (upL a).2 = a ∧ (upL a).1 ≠ [] ∧ rightB (upL a).1 = true ∨ (upL a).1 = [] ∧ (upL a).2 = a ∧ (partsL a).length = 1 := by
  obtain ⟨a1, a2, a3, a4, a5, a6, a7, a8⟩ := right_facts a ha
  have hg := parts_good a
  by_cases h : (partsL a).dropLast = []
  · right
    have hl : (partsL a).length = 1 := by
      have := congrArg List.length h
      simp at this
      have := List.length_pos_iff.2 a7
      omega
    obtain ⟨p, hp⟩ := List.length_eq_one_iff.1 hl
    unfold upL
    simp only [← a4]
    rw [h]
    refine ⟨rfl, ?_, hl⟩
    have e : joinS (partsL a) = a := a6
    simp only [hp] at e ⊢
    rw [joinS_one] at e
    exact e
  · left
    have e1 : joinS (partsL a).dropLast ++ 47 :: (partsL a).getLast a7 = a := by
      have h1 := joinS_append (partsL a).dropLast [(partsL a).getLast a7] h (by simp)
      rw [List.dropLast_concat_getLast, a6, joinS_one] at h1
      exact h1.symm
    have hu : upL a = (joinS (partsL a).dropLast, (partsL a).getLast a7) := by
      unfold upL
      simp only [← a4]
    rw [hu]
    dsimp only
    have hr : rightB (joinS (partsL a).dropLast) = true := by
      refine right_of_join _ h (fun p hp => hg p (List.dropLast_subset _ hp)) (fun p hp => a5 p (List.dropLast_subset _ hp)) (fun hz => a3 ?_) ?_ (by simp; omega)
      · rw [← e1]; exact List.mem_append_left _ hz
      · have := congrArg List.length e1
        simp at this
        omega
    exact ⟨e1, (right_facts _ hr).1, hr⟩
end Go.Proofs.YtapfkjdkpcgoiaaDoor
