/- pax.Merge, walked: the map is made. -/
import Derived.Test.YtheiamidochooaaMrg
import Derived.Test.YtheiamidochooaaKeys
import Derived.Test.YtheiamidochooaaCat
namespace Go.Proofs.Ytheiamidochooaa
open Go.RowKit Go.Joins Go.Maps Go.Sort
set_option linter.unusedVariables false

/-- While the map is being made. -/
def MapIs (w W : World) (l : List Pr) : Prop :=
  Below w.heap.size w W ∧ ∃ D n, W.ownsMap Try.prog 9 pairElem w.heap.size n D ∧ n ≤ l.length ∧ Tells D l
theorem MapIs.made (w : World) : MapIs w (w.alloc (.map #[] 0)) [] :=
  ⟨below_alloc1 w _, .map [], 0, World.ownsMap_made _ _ _ _, Nat.le_refl _, tells_nil⟩
theorem MapIs.put {w W W1 : World} {l : List Pr} {D : DataW Unit} {n : Nat} {p : Pr} (hB : Below w.heap.size w W) (hown : W1.ownsMap Try.prog 9 pairElem w.heap.size (n + 1) (D.put (.string p.1) (prU p))) (hn : n ≤ l.length) (hD : IsMap D) (ht : Tells D l) (hg : W.grownBy W1 (some w.heap.size)) : MapIs w W1 (l ++ [p]) :=
  ⟨hB.grown hg hB.size fun j ej => by (injection ej with ej; omega), _, _, hown, by rw [List.length_append]; simp; omega, tells_put hD ht p⟩

/-- A row of texts. -/
def StrsAt (W : World) (va : Option Addr) (K : List (List UInt8)) : Prop := ∀ (i : Nat) k, K[i]? = some k → ∃ g, va = some ⟨g, 0, none⟩ ∧ g < W.heap.size ∧ W.cell? ⟨g, i, none⟩ = some (.string (mkS k))
theorem StrsAt.below {W W' : World} {va : Option Addr} {K : List (List UInt8)} (h : StrsAt W va K) (hb : Below W.heap.size W W') : StrsAt W' va K := fun i k hi => by
  obtain ⟨g, h1, h2, h3⟩ := h i k hi
  exact ⟨g, h1, Nat.lt_of_lt_of_le h2 hb.size, (hb.cell (p := ⟨g, i, none⟩) h2).trans h3⟩
theorem strs_of_row {W : World} {base : Nat} {e : TypeId} {v : Value} {n : Nat} {K : List (List UInt8)} (h : W.ownsRow base e 1 v n (K.map encStr)) : ∃ va vc, v = .slice va n vc ∧ StrsAt W va K := by
  rcases h.2 with ⟨rfl, h0⟩ | ⟨g, cap, cur, rfl, _, h2, _, _, _, h6⟩
  · subst h0
    have hl := h.1
    rw [List.length_map] at hl
    exact ⟨none, 0, rfl, fun i k hi => by
      have := (List.getElem?_eq_some_iff.1 hi).1
      omega⟩
  · refine ⟨_, cap, rfl, fun i k hi => ⟨g, rfl, (Array.getElem?_eq_some_iff.1 h2).1, ?_⟩⟩
    have e1 : (K.map encStr)[i]? = some (encStr k) := by rw [List.getElem?_map, hi]; rfl
    rw [← h6, List.getElem?_take] at e1
    split at e1
    · rw [Array.getElem?_toList] at e1
      simp [World.cell?, h2, e1]
      rfl
    · cases e1

/-- What has been merged of the first i keys. -/
def mergedTo (K : List (List UInt8)) (L : List Pr) (i : Nat) : List Pr := ((K.take i).filterMap (lastOf L)).filter fun p => !p.2.isEmpty
theorem mergedTo_none (K : List (List UInt8)) (L : List Pr) (i : Nat) (k : List UInt8) (p : Pr) (h : K[i]? = some k) (hp : lastOf L k = some p) (he : p.2 = []) : mergedTo K L (i + 1) = mergedTo K L i := by
  unfold mergedTo; rw [List.take_add_one, h, List.filterMap_append, List.filter_append]; simp [hp, he]
theorem mergedTo_some (K : List (List UInt8)) (L : List Pr) (i : Nat) (k : List UInt8) (p : Pr) (h : K[i]? = some k) (hp : lastOf L k = some p) (he : p.2 ≠ []) : mergedTo K L (i + 1) = mergedTo K L i ++ [p] := by
  unfold mergedTo; rw [List.take_add_one, h, List.filterMap_append, List.filter_append]; simp [hp, he]
theorem mergedTo_le (K : List (List UInt8)) (L : List Pr) (i : Nat) : (mergedTo K L i).length ≤ i := by
  unfold mergedTo
  refine Nat.le_trans (List.length_filter_le _ _) (Nat.le_trans (List.length_filterMap_le _ _) ?_)
  rw [List.length_take]; omega
theorem ownsMap_below {W W' : World} {P : Program} {k : TypeId} {R : Value → Option (DataW Unit × List MemPlace)} {b n : Nat} {D : DataW Unit} (h : W.ownsMap P k R b n D) (hb : Below W.heap.size W W') : W'.ownsMap P k R b n D := by
  have hlt := h.lt
  obtain ⟨es, clock, h1, h2⟩ := h
  exact ⟨es, clock, (hb.block b hlt).trans h1, h2⟩
theorem look_pair {W : World} {b n : Nat} {D : DataW Unit} {L : List Pr} (h : W.ownsMap Try.prog 9 pairElem b n D) (ht : Tells D L) (k : List UInt8) (p : Pr) (hp : lastOf L k = some p) (hkey : keyOf Try.prog 9 (.string (mkS k)) = some (.string k)) :
    (Instr.lookup 36 (.map (some b)) (.string (mkS k)) false).run Try.prog W = .ok (prV p.1 p.2) W := by
  obtain ⟨v, ps, hrun, hR⟩ := h.lookup (string_keyed Try.underlying9) Try.underlying36 (Try.zeroValue23 W) (pairElem_pr [] []) hkey
  rw [((ht k).2 p hp).2] at hR
  obtain ⟨q, hv, hq⟩ := pairElem_inv hR
  rw [hrun, hv, ← prU_inj p q hq]

theorem keys_of_map {W : World} {b n : Nat} {D : DataW Unit} (h : W.ownsMap Try.prog 9 pairElem b n D) : (strKeys D).Nodup ∧ ∀ x, x ∈ strKeys D ↔ has D (.string x) = true := by
  obtain ⟨es, hD, hpw, _⟩ := h.entries (string_keyed Try.underlying9)
  obtain ⟨es', hD', hko⟩ := h.keysOf
  obtain rfl : es = es' := by rw [hD] at hD'; simpa using hD'
  subst hD
  have hstr : ∀ p ∈ es, p.1 = .string (strOf p.1) := fun p hp => by
    obtain ⟨v, hv⟩ := hko p hp
    obtain ⟨x, _, hx, _⟩ := Maps.keyOf_str Try.underlying9 hv
    rw [hx]; rfl
  constructor
  · refine List.pairwise_map.2 (hpw.imp_of_mem fun {p q} hp hq hne e => hne ?_)
    rw [hstr p hp, hstr q hq, e]
  · intro x
    rw [has_eq, List.any_eq_true]
    constructor
    · intro hx
      obtain ⟨p, hp, rfl⟩ := List.mem_map.1 hx
      exact ⟨p, hp, by rw [hstr p hp]; simp [Lit.sameKey, strOf]⟩
    · rintro ⟨p, hp, hs⟩
      rw [hstr p hp] at hs
      exact List.mem_map.2 ⟨p, hp, by simpa [Lit.sameKey] using hs⟩
/-- The keys, sorted: they ascend. -/
theorem sorted_rising (ss : List (List UInt8)) (hn : ss.Nodup) : (ss.mergeSort (fun x y => decide (x ≤ y))).Pairwise (fun a b => a < b) := by
  have tr : ∀ a b c : List UInt8, decide (a ≤ b) = true → decide (b ≤ c) = true → decide (a ≤ c) = true := fun a b c h1 h2 => by simp only [decide_eq_true_eq] at *; exact List.le_trans h1 h2
  have to : ∀ a b : List UInt8, (decide (a ≤ b) || decide (b ≤ a)) = true := fun a b => by simp only [Bool.or_eq_true, decide_eq_true_eq]; exact List.le_total a b
  have h1 := List.pairwise_mergeSort tr to ss
  have h2 : (ss.mergeSort (fun x y => decide (x ≤ y))).Nodup := (List.mergeSort_perm ss _).nodup_iff.2 hn
  refine (h1.and h2).imp fun {a b} h => ?_
  simp only [decide_eq_true_eq] at h
  rcases Classical.em (a < b) with hlt | hlt
  · exact hlt
  · exact absurd (List.le_antisymm h.1 (List.not_lt.1 hlt)) h.2
theorem merged_all (K : List (List UInt8)) (L : List Pr) (hs : K.Pairwise (fun a b => a < b)) (hm : ∀ k, k ∈ K ↔ ∃ p, lastOf L k = some p) : MergedOf (mergedTo K L K.length) L := by
  unfold mergedTo
  rw [List.take_length]
  constructor
  · refine List.Pairwise.filter _ (List.pairwise_filterMap.2 (hs.imp fun {a b} hab p hp q hq => ?_))
    rw [(lastOf_mem hp).2, (lastOf_mem hq).2]
    exact hab
  · intro p
    rw [List.mem_filter, List.mem_filterMap]
    constructor
    · rintro ⟨⟨k, _, hp⟩, h2⟩
      exact ⟨by rw [(lastOf_mem hp).2]; exact hp, by simpa using h2⟩
    · rintro ⟨h1, h2⟩
      exact ⟨⟨p.1, (hm _).2 ⟨p, h1⟩, h1⟩, by simpa using h2⟩

set_option maxHeartbeats 4000000 in
theorem merge_any (gb : Nat) (cp : Nat) (Ls : List (Value × List Pr)) (hk : Ls.length ≤ 3) (hl : ∀ x ∈ Ls, x.2.length ≤ 1000) (hz : ∀ x ∈ Ls, ∀ p ∈ x.2, p.1.length ≤ reachBytes ∧ p.2.length ≤ reachBytes) (w : World) (hgb : gb < w.heap.size) (hc : ∀ (i : Nat) x, Ls[i]? = some x → w.cell? ⟨gb, i, none⟩ = some x.1 ∧ SliceIs w x.1 x.2) :
    Calls Try.prog 10 #[.slice (some ⟨gb, 0, none⟩) Ls.length cp] w fun e w' => (∃ v M, e = .returned v ∧ SliceIs w' v M ∧ MergedOf M (Ls.flatMap fun y => y.2)) ∧ Below w.heap.size w w' := by
  have HC := Lib.hid (show ∀ (i : Nat) x, Ls[i]? = some x → (∀ W, Below w.heap.size w W → W.cell? ⟨gb, i, none⟩ = some x.1) ∧ SliceIs w x.1 x.2 from fun i x hx => ⟨fun W hW => (hW.cell (p := ⟨gb, i, none⟩) hgb).trans (hc i x hx).1, (hc i x hx).2⟩)
  have HL := Lib.hid hl
  have HM0 := Lib.hid (MapIs.made w)
  have HT := Lib.hid (show ∀ i, (catTo Ls i).length ≤ 3000 from fun i => by
    have := flat_bound (Ls.take i) fun x hx => hl x (List.mem_of_mem_take hx)
    have h2 : (Ls.take i).length ≤ Ls.length := by simp; omega
    unfold catTo
    omega)
  have hmm := @run_makeMap Try.prog
  have HK := Lib.hid (show ∀ k : List UInt8, k.length ≤ reachBytes → keyOf Try.prog 9 (.string (mkS k)) = some (.string k) from fun k hk => by
    have hr := reachBytes_lt
    have : (mkS k).size ≤ maxLen := by rw [mkS_size]; unfold maxLen; omega
    simp [keyOf, mapKey, Try.underlying9, mkS_list, this])
  have HZ := Lib.hid hz
  clear hc hl hz
  go_enter Try.func10, Try.ntmps10
  go_wp2
  go_loopg [15, 5, 7, 21] Ls.length (fun g s15 _ _ _ wr => ∃ i : Nat, i ≤ Ls.length ∧ Ls.length - i ≤ g ∧ s15 = .int .i64 i ∧ Aside (MapIs w wr (catTo Ls i)))
  case atStart => exact ⟨0, by omega, by omega, rfl, HM0.out⟩
  case round =>
    obtain ⟨i, hi1, hg, rfl, A⟩ := hrel
    by_cases hil : i < Ls.length
    · obtain ⟨x, hx⟩ : ∃ x, Ls[i]? = some x := ⟨_, List.getElem?_eq_getElem hil⟩
      obtain ⟨c0, ad, cap, hv, hn, hP⟩ := HC.out i x hx
      have c1 := c0 wr A.out.1
      rw [hv] at c1
      have hxl := HL.out x (List.mem_of_getElem? hx)
      have HS := Lib.hid (catTo_succ Ls i x hx)
      have HZx := Lib.hid (HZ.out x (List.mem_of_getElem? hx))
      have HP := Lib.hid hP
      have HA := Lib.hid A.out
      clear c0 hv hn hx hP A
      go_wp2
      go_loopg [7, 21] x.2.length (fun g _ s21 wr2 => ∃ j : Nat, j ≤ x.2.length ∧ x.2.length - j ≤ g ∧ s21 = .int .i64 j ∧ Aside (MapIs w wr2 (catTo Ls i ++ x.2.take j)))
      case atStart => exact ⟨0, by omega, by omega, rfl, by rw [List.take_zero, List.append_nil]; exact HA.out⟩
      case round =>
        obtain ⟨j, hj1, hgj, rfl, A⟩ := hrel
        by_cases hjl : j < x.2.length
        · obtain ⟨p, hp⟩ : ∃ p, x.2[j]? = some p := ⟨_, List.getElem?_eq_getElem hjl⟩
          obtain ⟨b, off, e0, hlt, d1, d2⟩ := (HP.out.below A.out.1) j p hp
          rcases ad with _ | ⟨b', off', sp'⟩
          · cases e0
          injection e0 with e0
          injection e0 with e1 e2 e3
          subst e1 e2 e3
          obtain ⟨hB, D, n, hown, hnl, ht⟩ := A.out
          have hkey := HK.out p.1 (HZx.out p (List.mem_of_getElem? hp)).1
          have hlen := HT.out i
          have hn2 : n < 100000 := by rw [List.length_append, List.length_take] at hnl; omega
          have hown' := Lib.hid hown
          have HD := Lib.hid (And.intro hB (And.intro hnl (And.intro ht hown.isMap)))
          have HE := Lib.hid (show catTo Ls i ++ x.2.take (j + 1) = catTo Ls i ++ x.2.take j ++ [p] from by rw [List.take_add_one, hp]; simp)
          clear hown hB hnl ht A hp hlt
          go_wp2_with (at_mapUpdate; refine wpList_mapUpdate_own _ rfl _ _ _ 36 rfl 9 23 (string_keyed Try.underlying9) Try.underlying36 pairElem w.heap.size n D rfl (hown'.out.alloc _) (by unfold maxLen; omega) _ _ (.string p.1) rfl rfl hkey (prU p) [] (pairElem_pr p.1 p.2) ?_; intro w1 hown1 hgrow1)
          have HF := Lib.hid (show MapIs w w1 (catTo Ls i ++ x.2.take (j + 1)) from by
            rw [HE.out]
            exact MapIs.put (HD.out.1.alloc HD.out.1.size _) hown1 HD.out.2.1 HD.out.2.2.2 HD.out.2.2.1 hgrow1)
          clear hown1 hgrow1
          go_roundg (x.2.length - (j + 1))
          case measure => omega
          case rel => exact ⟨j + 1, by omega, by omega, by first | rfl | simp, HF.out⟩
        · obtain rfl : j = x.2.length := by omega
          have HF := Lib.hid (show MapIs w wr (catTo Ls (i + 1)) from by
            have h := A.out
            rw [List.take_length] at h
            rw [HS.out]
            exact h)
          clear A
          go_wp2
          go_roundg (Ls.length - (i + 1))
          case measure => omega
          case rel => exact ⟨i + 1, by omega, by omega, by first | rfl | simp, HF.out⟩
    · obtain rfl : i = Ls.length := by omega
      have HF := Lib.hid A.out
      have hT := HT.out Ls.length
      obtain ⟨hB, D, n, hown, hnl, ht⟩ := A.out
      have KC := Lib.hid (keys_call (some w.heap.size) wr)
      have SC := Lib.hid (sorted_call w.heap.size n D pairElem wr hown (by have := hown.size_le; omega))
      have HD := Lib.hid (And.intro hB (And.intro hown (And.intro hnl ht)))
      clear A hB hown hnl ht HF
      go_wp2_with (first
        | (go_at_call 17; refine KC.out.mono ?_; rintro e w1 ⟨rfl, hw1⟩; replace hw1 := hw1.symm; subst hw1)
        | (go_at_call 16; refine SC.out.mono ?_; rintro e w2 ⟨v, ss, rfl, hperm, hrow, hnil, hb2⟩; obtain ⟨va, vc, rfl, hst⟩ := strs_of_row hrow; have HS2 := Lib.hid (And.intro hperm (And.intro hst hb2)); clear hperm hrow hnil hb2 hst; obtain ⟨kn, hkn⟩ : ∃ kn, ss.length = kn := ⟨_, rfl⟩; rw [hkn]; have H1 := Lib.hid hkn; clear hkn))
      obtain ⟨K, hKd⟩ : ∃ K, (ss.mergeSort fun x y => decide (x ≤ y)) = K := ⟨_, rfl⟩
      have HF := Lib.hid (show Below w.heap.size w w2 ∧ w2.ownsMap Try.prog 9 pairElem w.heap.size n D ∧ Tells D (catTo Ls Ls.length) ∧ StrsAt w2 va K ∧ K.length = kn ∧ K.Pairwise (fun a b => a < b) ∧ (∀ k, k ∈ K ↔ ∃ p, lastOf (catTo Ls Ls.length) k = some p) from by
        obtain ⟨b1, b2, b3, b4⟩ := HD.out
        obtain ⟨c1, c2, c3⟩ := HS2.out
        obtain ⟨k1, k2⟩ := keys_of_map b2
        have hperm := (List.mergeSort_perm ss fun x y => decide (x ≤ y))
        have e1 := b1.alloc b1.size (.cells #[.map (some w.heap.size)] 36)
        refine ⟨e1.trans (c3.mono e1.size), ownsMap_below (b2.alloc _) c3, b4, hKd ▸ c2, by rw [← hKd, List.length_mergeSort]; exact H1.out, by rw [← hKd]; exact sorted_rising ss (c1.nodup_iff.2 k1), fun k => ?_⟩
        rw [← hKd, hperm.mem_iff, c1.mem_iff, k2]
        constructor
        · intro hk
          cases hl : lastOf (catTo Ls Ls.length) k with
          | none => rw [(b4 k).1 hl] at hk; cases hk
          | some p => exact ⟨p, rfl⟩
        · rintro ⟨p, hp⟩; exact ((b4 k).2 p hp).1)
      have HSZ := Lib.hid (show ∀ p ∈ catTo Ls Ls.length, p.1.length ≤ reachBytes from fun p hp => by
        unfold catTo at hp
        obtain ⟨x, hx, hpx⟩ := List.mem_flatMap.1 hp
        exact (HZ.out x (List.mem_of_mem_take hx) p hpx).1)
      obtain ⟨L, hLd⟩ : ∃ L, catTo Ls Ls.length = L := ⟨_, rfl⟩
      rw [hLd] at HF HSZ hT
      have HLd := Lib.hid hLd
      have hkn : kn ≤ 100000 := by
        have h1 := HD.out.2.1.size_le
        have h2 := HD.out.2.2.1
        rw [hLd] at h2
        have h3 := HS2.out.1.length_eq
        rw [H1.out] at h3
        have h4 : (strKeys D).length ≤ n := by
          obtain ⟨es, hD, _⟩ := HD.out.2.1.keysOf
          rw [hD] at h1 ⊢
          have e : (strKeys (.map es)).length = es.length := by show (es.map _).length = _; simp
          rw [e]; exact h1
        omega
      obtain ⟨i0, hi0, hz0, hz1, hz2⟩ := info_parts Try.infoPair
      have HI := Lib.hid (And.intro hi0 (And.intro hz0 (And.intro hz1 hz2)))
      clear hLd hKd KC SC HD HS2 H1 hi0 hz0 hz1 hz2 hi1 hg
      go_loopg [35, 10, 11, 8] kn (fun g s35 _ _ s8 wr3 => ∃ i : Nat, i ≤ kn ∧ kn - i ≤ g ∧ s35 = .int .i64 i ∧ Aside (Below w2.heap.size w2 wr3 ∧ wr3.ownsRow w2.heap.size 23 2 s8 (mergedTo K L i).length (pairCells (mergedTo K L i))))
      case atStart => exact ⟨0, by omega, by omega, rfl, Below.refl _ _, World.ownsRow_nil _ _ _ _⟩
      case round =>
        obtain ⟨i, hi1, hg, rfl, A⟩ := hrel
        by_cases hik : i < kn
        · obtain ⟨k, hkk⟩ : ∃ k, K[i]? = some k := ⟨_, List.getElem?_eq_getElem (by rw [HF.out.2.2.2.2.1]; exact hik)⟩
          obtain ⟨p, hp⟩ := (HF.out.2.2.2.2.2.2 k).1 (List.mem_of_getElem? hkk)
          have hpk := (lastOf_mem hp)
          have hkey := HK.out k (by rw [← hpk.2]; exact HSZ.out p hpk.1)
          have hlook : (Instr.lookup 36 (.map (some w.heap.size)) (.string (mkS k)) false).run Try.prog wr = .ok (.agg #[.string (mkS p.1), .string (mkS p.2)]) wr := look_pair (ownsMap_below HF.out.2.1 A.out.1) HF.out.2.2.1 k p hp hkey
          obtain ⟨vg, hva, _, hcell⟩ := (HF.out.2.2.2.1.below A.out.1) i k hkk
          subst hva
          have hm := mergedTo_le K L i
          have HA := Lib.hid A.out
          have hb1 := Lib.hid (HA.out.1.alloc HA.out.1.size (.cells #[.string (mkS p.1), .string (mkS p.2)] 23))
          by_cases he : p.2 = []
          · have E : (mkS p.2).toList = [] := by rw [ByteArray.toList_eq, mkS_list]; exact he
            have HN := Lib.hid (mergedTo_none K L i k p hkk hp he)
            clear A hkk hp hpk hkey he
            go_wp2
            go_roundg (kn - (i + 1))
            case measure => omega
            case rel => exact ⟨i + 1, by omega, by omega, by first | rfl | simp, hb1.out, by rw [HN.out]; exact HA.out.2.alloc _⟩
          · obtain ⟨x0, r0, hx⟩ : ∃ x r, p.2 = x :: r := by
              cases h : p.2 with
              | nil => exact absurd h he
              | cons x r => exact ⟨x, r, rfl⟩
            have E : (mkS p.2).toList = x0 :: r0 := by rw [ByteArray.toList_eq, mkS_list]; exact hx
            have HN := Lib.hid (mergedTo_some K L i k p hkk hp he)
            obtain ⟨m, hmm2⟩ : ∃ m, (mergedTo K L i).length = m := ⟨_, rfl⟩
            have HM := Lib.hid hmm2
            rw [hmm2] at hm
            clear A hkk hp hpk hkey he hx hmm2
            obtain ⟨hi0, hz0, hz1, hz2⟩ := HI.out
            have HC2 := Lib.hid (show ∀ (j : Nat) (u : Value), [Value.string (mkS p.1), Value.string (mkS p.2)][j]? = some u → ((wr.alloc (.cells #[.string (mkS p.1), .string (mkS p.2)] 23)).alloc (.cells #[.string (mkS p.1), .string (mkS p.2)] 23)).cell? ((⟨wr.heap.size + 1, 0, none⟩ : Addr).add j) = some u from fun j u h => by
              have h2 := cell_two_new (wr.alloc (.cells #[.string (mkS p.1), .string (mkS p.2)] 23)) 23 (.string (mkS p.1)) (.string (mkS p.2)) j u h
              rwa [World.size_alloc] at h2)
            go_wp2_with (at_builtin; refine wpList_append_own _ rfl _ _ 25 rfl w2.heap.size 23 i0 (.agg #[.string { data := #[] }, .string { data := #[] }]) 2 32 Try.underlying25 hi0 hz0 hz1 hz2 rfl (by decide) _ _ _ rfl ((HA.out.2.alloc _).alloc _) ⟨wr.heap.size + 1, 0, none⟩ 1 1 [.string (mkS p.1), .string (mkS p.2)] rfl rfl HC2.out (by simp [Value.oneCell']) (by rw [HM.out]; unfold maxLen; omega) (by rw [HM.out]; omega) (by simp; have := HA.out.1.size; omega) ?_; intro v' w4 hown' hgrow _)
            have hb3 := hb1.out.alloc hb1.out.size (.cells #[.string (mkS p.1), .string (mkS p.2)] 23)
            have HO := Lib.hid (show Below w2.heap.size w2 w4 ∧ w4.ownsRow w2.heap.size 23 2 v' (mergedTo K L (i + 1)).length (pairCells (mergedTo K L (i + 1))) from ⟨below_grown hb3 ((HA.out.2.alloc _).alloc _) (Nat.le_refl _) hgrow, by rw [HN.out, pairCells_append, List.length_append]; exact hown'⟩)
            clear hown' hgrow
            go_roundg (kn - (i + 1))
            case measure => omega
            case rel => exact ⟨i + 1, by omega, by omega, by first | rfl | simp, HO.out⟩
        · obtain rfl : i = kn := by omega
          have HA := Lib.hid A.out
          clear A
          go_wp2
          go_ret
          refine ⟨⟨_, mergedTo K L K.length, rfl, ?_, ?_⟩, HF.out.1.trans (HA.out.1.mono HF.out.1.size)⟩
          · have h := sliceIs_of_row HA.out.2
            rw [HF.out.2.2.2.2.1]; exact h
          · have h := merged_all K L HF.out.2.2.2.2.2.1 HF.out.2.2.2.2.2.2
            have e : L = Ls.flatMap fun y => y.2 := by rw [← HLd.out]; unfold catTo; rw [List.take_length]
            rw [← e]; exact h
end Go.Proofs.Ytheiamidochooaa
