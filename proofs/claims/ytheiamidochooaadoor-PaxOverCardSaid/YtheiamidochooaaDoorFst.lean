/- pax.first: the record that a text begins with, if any. -/
import Derived.Test.YtheiamidochooaaDoorSeq
import Derived.Test.YtheiamidochooaaDoorCut
import Derived.Lib.AtoiErrMem
import Derived.Lib.AtoiAllCases
namespace Go.Proofs.YtheiamidochooaaDoor
open Go.RowKit Go.Joins

/-- strconv's two errors lie in their variables. -/
def AtoiLaid (w : World) : Prop := (∃ te pe, w.cell? ⟨3, 0, none⟩ = some (.iface te pe)) ∧ (∃ te pe, w.cell? ⟨4, 0, none⟩ = some (.iface te pe))
theorem lt_of_cell {w : World} {b o : Nat} {v : Value} (h : w.cell? ⟨b, o, none⟩ = some v) : b < w.heap.size := by
  rcases Nat.lt_or_ge b w.heap.size with h0 | h0
  · exact h0
  · simp [World.cell?, Array.getElem?_eq_none h0] at h
theorem AtoiLaid.below {w w' : World} (h : AtoiLaid w) (hb : Below w.heap.size w w') : AtoiLaid w' := by
  obtain ⟨⟨t1, p1, h1⟩, t2, p2, h2⟩ := h
  exact ⟨⟨t1, p1, (hb.cell (p := ⟨3, 0, none⟩) (lt_of_cell h1)).trans h1⟩, t2, p2, (hb.cell (p := ⟨4, 0, none⟩) (lt_of_cell h2)).trans h2⟩

/-- strconv.Atoi at any text: a number, or an error. -/
theorem atoi_any (l : List UInt8) (hl : l.length ≤ 100000) (w : World) (hA : AtoiLaid w) :
    Calls Tryd.prog 74 #[.string (mkS l)] w fun e w' => ((∃ v, Lib.atoiAll l = .ok v ∧ e = .returned (.tuple #[.int .i64 v, .nilIface])) ∨ ((∀ v, Lib.atoiAll l ≠ .ok v) ∧ ∃ v te pe, e = .returned (.tuple #[.int .i64 v, .iface te pe]))) ∧ Below w.heap.size w w' := by
  have hs := mkS_size l
  have hd := mkS_list l
  obtain ⟨⟨t1, p1, h1⟩, t2, p2, h2⟩ := hA
  cases hc : Lib.atoiAll l
  · rename_i v
    refine (Any.strconv_Atoi_ok Tryd.laysC172 (mkS l) (by omega) v (by rw [hd]; exact hc) w).mono fun e w' ⟨he, hw⟩ => ⟨Or.inl ⟨v, rfl, he⟩, ?_⟩
    rcases hw with rfl | ⟨t, rfl⟩
    · exact Below.refl _ _
    · exact below_bytesWorld _ _ _ _ (Nat.le_refl _)
  · exact (Any.strconv_Atoi_syntax Tryd.laysC172 (mkS l) (by omega) (by rw [hd]; exact hc) (.iface t1 p1) w h1 (Or.inr ⟨_, _, rfl⟩)).mono fun e w' ⟨_, he, _, _, hb⟩ => ⟨Or.inr ⟨(fun v h => nomatch h), _, _, _, he⟩, hb⟩
  · exact (Any.strconv_Atoi_range Tryd.laysC172 (mkS l) (by omega) (by rw [hd]; exact hc) (.iface t2 p2) w h2 (Or.inr ⟨_, _, rfl⟩)).mono fun e w' ⟨_, he, _, _, hb⟩ => ⟨Or.inr ⟨(fun v h => nomatch h), _, _, _, he⟩, hb⟩

theorem parse_snoc (d : UInt8) (h1 : 48 ≤ d.toNat) (h2 : d.toNat ≤ 57) : ∀ (a : List UInt8) (acc u : Nat), Lib.parseUint10 acc a = .ok u → u < 1000000000000 → Lib.parseUint10 acc (a ++ [d]) = .ok (u * 10 + (d.toNat - 48))
  | [], acc, u, h, hu => by
    simp only [Lib.parseUint10] at h
    injection h with h
    subst h
    simp only [List.nil_append, Lib.parseUint10]
    rw [if_pos ⟨h1, h2⟩, if_neg (by omega), if_neg (by omega)]
  | c :: r, acc, u, h, hu => by
    simp only [Lib.parseUint10] at h
    simp only [List.cons_append, Lib.parseUint10]
    split at h
    · next hc =>
      rw [if_pos hc]
      split at h
      · cases h
      · next h3 =>
        rw [if_neg h3]
        split at h
        · cases h
        · next h4 =>
          rw [if_neg h4]
          exact parse_snoc d h1 h2 r _ u h hu
    · cases h
theorem dec_parse : ∀ (n : Nat), n < 1000000 → Lib.parseUint10 0 (Lib.decDigits n) = .ok n := by
  intro n
  induction n using Nat.strongRecOn with
  | ind n ih =>
    intro hn
    by_cases h : n < 10
    · rw [dec_small n h]
      have e : (UInt8.ofNat (48 + n)).toNat = 48 + n := by simp only [UInt8.toNat_ofNat']; omega
      simp only [Lib.parseUint10, e]
      rw [if_pos ⟨by omega, by omega⟩, if_neg (by omega), if_neg (by omega)]
      congr 1; omega
    · rw [dec_step n h]
      have e : (UInt8.ofNat (48 + n % 10)).toNat = 48 + n % 10 := by simp only [UInt8.toNat_ofNat']; omega
      rw [parse_snoc _ (by omega) (by omega) _ 0 (n / 10) (ih (n / 10) (by omega) (by omega)) (by omega), e]
      congr 1; omega
theorem dec_atoi (n : Nat) (h : n < 1000000) : Lib.atoiAll (Lib.decDigits n) = .ok (n : Int) := by
  have hp := dec_parse n h
  have hr := dec_range n
  have hl := dec_pos n
  cases hd : Lib.decDigits n with
  | nil => rw [hd] at hl; simp at hl
  | cons c r =>
    rw [hd] at hp hr
    have hc := hr c (List.mem_cons_self ..)
    rw [Lib.atoiAll_plain c r (by omega) (by omega)]
    unfold Lib.parseMag
    rw [if_neg (by simp), hp]
    simp only [Lib.signless]
    rw [if_neg (by omega)]

/-- What pax.first hands back: the pair and its record's length, or the empty pair and 0. -/
def FirstIs (u : List UInt8) (e : Ending) : Prop :=
  (∃ k v, Begins u k v ∧ e = .returned (.tuple #[prV k v, .int .i64 ((recL k v).length : Int)])) ∨ (¬ Nx u ∧ e = .returned (.tuple #[prV [] [], .int .i64 0]))

def PairRow (W : World) (b : Nat) : Prop := b < W.heap.size ∧ W.cell? ⟨b, 0, none⟩ = some (.string { data := #[] }) ∧ W.cell? ⟨b, 1, none⟩ = some (.string { data := #[] }) ∧ W.frozen? ⟨b, 0, none⟩ = false ∧ W.frozen? ⟨b, 1, none⟩ = false
theorem PairRow.new (w : World) : PairRow (w.alloc (.cells #[.string { data := #[] }, .string { data := #[] }] 36)) w.heap.size := ⟨by simp, by simp, by simp, by simp, by simp⟩
theorem PairRow.below {W W' : World} {b : Nat} (h : PairRow W b) (hb : Below W.heap.size W W') : PairRow W' b :=
  ⟨Nat.lt_of_lt_of_le h.1 hb.size, (hb.cell (p := ⟨b, 0, none⟩) h.1).trans h.2.1, (hb.cell (p := ⟨b, 1, none⟩) h.1).trans h.2.2.1, (hb.frozen (p := ⟨b, 0, none⟩) h.1).trans h.2.2.2.1, (hb.frozen (p := ⟨b, 1, none⟩) h.1).trans h.2.2.2.2⟩
theorem PairRow.put {W : World} {b : Nat} (h : PairRow W b) (x y : ByteArray) :
    ((W.setCell ⟨b, 0, none⟩ (.string x)).setCell ⟨b, 1, none⟩ (.string y)).cell? ⟨b, 0, none⟩ = some (.string x) ∧ ((W.setCell ⟨b, 0, none⟩ (.string x)).setCell ⟨b, 1, none⟩ (.string y)).cell? ⟨b, 1, none⟩ = some (.string y) := by
  obtain ⟨h0, h1, h2, _⟩ := h
  have e1 : (W.setCell ⟨b, 0, none⟩ (.string x)).cell? ⟨b, 0, none⟩ = some (.string x) := World.cell?_setCell_same' _ _ _ (by rw [h1]; rfl)
  have e2 : (W.setCell ⟨b, 0, none⟩ (.string x)).cell? ⟨b, 1, none⟩ = some (.string { data := #[] }) := by rw [World.cell?_setCell_other _ _ _ _ (by simp)]; exact h2
  exact ⟨by rw [World.cell?_setCell_other _ _ _ _ (by simp)]; exact e1, World.cell?_setCell_same' _ _ _ (by rw [e2]; rfl)⟩

theorem PairRow.base {w W : World} (hb : Below (w.alloc (.cells #[.string { data := #[] }, .string { data := #[] }] 36)).heap.size (w.alloc (.cells #[.string { data := #[] }, .string { data := #[] }] 36)) W) : PairRow W w.heap.size ∧ Below w.heap.size w W :=
  ⟨(PairRow.new w).below hb, (below_alloc1 w _).trans (hb.mono (below_alloc1 w _).size)⟩
/-- the base world: the result's block has been made. -/
abbrev baseW (w : World) : World := w.alloc (.cells #[.string { data := #[] }, .string { data := #[] }] 36)

set_option maxRecDepth 100000 in
set_option maxHeartbeats 4000000 in
theorem first_err (u : List UInt8) (hu : u.length ≤ 6000) (w : World) (hA : AtoiLaid w) (hv : ∀ v, Lib.atoiAll (wholeOf 32 u) ≠ .ok v) :
    Calls Tryd.prog 62 #[.string (mkS u)] w fun e w' => e = .returned (.tuple #[prV [] [], .int .i64 0]) ∧ Below w.heap.size w w' := by
  have C1 := Lib.hid (fun w => cut_any 32 u w (by omega))
  have hD : (wholeOf 32 u).length ≤ u.length := (List.takeWhile_sublist _).length_le
  have A1 := Lib.hid (show ∀ W, Below (baseW w).heap.size (baseW w) W → Calls Tryd.prog 74 #[.string (mkS (wholeOf 32 u))] W fun e w' => (∃ v te pe, e = .returned (.tuple #[.int .i64 v, .iface te pe])) ∧ (PairRow w' w.heap.size ∧ Below w.heap.size w w') from fun W hb =>
    (atoi_any (wholeOf 32 u) (by omega) W (hA.below (PairRow.base hb).2)).mono fun e w' ⟨h1, h2⟩ => by
      refine ⟨?_, PairRow.base (hb.trans (h2.mono hb.size))⟩
      rcases h1 with ⟨v, h, _⟩ | ⟨_, h⟩
      · exact absurd h (hv v)
      · exact h)
  clear hA hv hD
  generalize wholeOf 32 u = D at *
  go_enter Tryd.func62, Tryd.ntmps62
  go_wp2_with (first
    | (go_at_call 25; with_reducible refine (C1.out _).mono ?_; rintro e w1 ⟨rfl, n1, rfl⟩)
    | (go_at_call 74; refine (A1.out _ (below_draws _ _ _)).mono ?_; rintro e w2 ⟨⟨v, te, pe, rfl⟩, hF, hB⟩; obtain ⟨f0, f1, f2, f3, f4⟩ := id hF))
  obtain ⟨g0, g1⟩ := hF.put { data := #[] } { data := #[] }
  refine bodyPost_ret (v := .tuple #[prV [] [], .int .i64 0]) (by simp [results, Tryd.results62, go_sem, g0, g1]; rfl) rfl ⟨rfl, below_store (below_store hB _ _ (Nat.le_refl _) _) _ _ (Nat.le_refl _) _⟩

set_option maxRecDepth 100000 in
set_option maxHeartbeats 4000000 in
theorem first_short (u : List UInt8) (hu : u.length ≤ 6000) (w : World) (hA : AtoiLaid w) (v : Int) (hv : Lib.atoiAll (wholeOf 32 u) = .ok v) (hs : v < ((wholeOf 32 u).length : Int) + 2 ∨ (u.length : Int) < v) :
    Calls Tryd.prog 62 #[.string (mkS u)] w fun e w' => e = .returned (.tuple #[prV [] [], .int .i64 0]) ∧ Below w.heap.size w w' := by
  have C1 := Lib.hid (fun w => cut_any 32 u w (by omega))
  have hD : (wholeOf 32 u).length ≤ u.length := (List.takeWhile_sublist _).length_le
  have z1 := mkS_size u
  have z2 := mkS_size (wholeOf 32 u)
  have A1 := Lib.hid (show ∀ W, Below (baseW w).heap.size (baseW w) W → Calls Tryd.prog 74 #[.string (mkS (wholeOf 32 u))] W fun e w' => e = .returned (.tuple #[.int .i64 v, .nilIface]) ∧ (PairRow w' w.heap.size ∧ Below w.heap.size w w') from fun W hb =>
    (atoi_any (wholeOf 32 u) (by omega) W (hA.below (PairRow.base hb).2)).mono fun e w' ⟨h1, h2⟩ => by
      refine ⟨?_, PairRow.base (hb.trans (h2.mono hb.size))⟩
      rcases h1 with ⟨v', h, he⟩ | ⟨h, _⟩
      · rw [hv] at h; cases h; exact he
      · exact absurd hv (h v))
  clear hA hv
  generalize wholeOf 32 u = D at *
  by_cases h1 : v < (D.length : Int) + 2
  · clear hs
    go_enter Tryd.func62, Tryd.ntmps62
    go_wp2_with (first
      | (go_at_call 25; with_reducible refine (C1.out _).mono ?_; rintro e w1 ⟨rfl, n1, rfl⟩)
      | (go_at_call 74; refine (A1.out _ (below_draws _ _ _)).mono ?_; rintro e w2 ⟨rfl, hF, hB⟩; obtain ⟨f0, f1, f2, f3, f4⟩ := id hF))
    obtain ⟨g0, g1⟩ := hF.put { data := #[] } { data := #[] }
    refine bodyPost_ret (v := .tuple #[prV [] [], .int .i64 0]) (by simp [results, Tryd.results62, go_sem, g0, g1]; rfl) rfl ⟨rfl, below_store (below_store hB _ _ (Nat.le_refl _) _) _ _ (Nat.le_refl _) _⟩
  · have h2 : (u.length : Int) < v := by omega
    clear hs
    go_enter Tryd.func62, Tryd.ntmps62
    go_wp2_with (first
      | (go_at_call 25; with_reducible refine (C1.out _).mono ?_; rintro e w1 ⟨rfl, n1, rfl⟩)
      | (go_at_call 74; refine (A1.out _ (below_draws _ _ _)).mono ?_; rintro e w2 ⟨rfl, hF, hB⟩; obtain ⟨f0, f1, f2, f3, f4⟩ := id hF))
    obtain ⟨g0, g1⟩ := hF.put { data := #[] } { data := #[] }
    refine bodyPost_ret (v := .tuple #[prV [] [], .int .i64 0]) (by simp [results, Tryd.results62, go_sem, g0, g1]; rfl) rfl ⟨rfl, below_store (below_store hB _ _ (Nat.le_refl _) _) _ _ (Nat.le_refl _) _⟩

/-- what stands between the space and the last byte of the first n. -/
def midL (u : List UInt8) (n : Nat) : List UInt8 := (u.drop ((wholeOf 32 u).length + 1)).take (n - 1 - ((wholeOf 32 u).length + 1))

set_option maxRecDepth 100000 in
set_option maxHeartbeats 4000000 in
theorem first_go (u : List UInt8) (hu : u.length ≤ 6000) (w : World) (hp : PowLaid w) (hA : AtoiLaid w) (n : Nat) (hv : Lib.atoiAll (wholeOf 32 u) = .ok (n : Int)) (h1 : (wholeOf 32 u).length + 2 ≤ n) (h2 : n ≤ u.length) :
    Calls Tryd.prog 62 #[.string (mkS u)] w fun e w' =>
      ((rightP (wholeOf 61 (midL u n)) (fracOf 61 (midL u n)) = true ∧ recL (wholeOf 61 (midL u n)) (fracOf 61 (midL u n)) = u.take n ∧ e = .returned (.tuple #[prV (wholeOf 61 (midL u n)) (fracOf 61 (midL u n)), .int .i64 n])) ∨
       (¬ (rightP (wholeOf 61 (midL u n)) (fracOf 61 (midL u n)) = true ∧ recL (wholeOf 61 (midL u n)) (fracOf 61 (midL u n)) = u.take n) ∧ e = .returned (.tuple #[prV [] [], .int .i64 0]))) ∧ Below w.heap.size w w' := by
  have C1 := Lib.hid (fun w => cut_any 32 u w (by omega))
  have hm : (midL u n).length ≤ 6000 := by unfold midL; simp only [List.length_take, List.length_drop]; omega
  have C2 := Lib.hid (fun w => cut_any 61 (midL u n) w hm)
  have z1 := mkS_size u
  have z2 := mkS_size (wholeOf 32 u)
  have A1 := Lib.hid (show ∀ W, Below (baseW w).heap.size (baseW w) W → Calls Tryd.prog 74 #[.string (mkS (wholeOf 32 u))] W fun e w' => e = .returned (.tuple #[.int .i64 (n : Int), .nilIface]) ∧ Below (baseW w).heap.size (baseW w) w' from fun W hb =>
    (atoi_any (wholeOf 32 u) (by omega) W (hA.below (PairRow.base hb).2)).mono fun e w' ⟨h1, h2⟩ => by
      refine ⟨?_, hb.trans (h2.mono hb.size)⟩
      rcases h1 with ⟨v', h, he⟩ | ⟨h, _⟩
      · rw [hv] at h; cases h; exact he
      · exact absurd hv (h n))
  have S1 : ∀ W, (Instr.slice 9 (.string (mkS u)) (some (.int .i64 (((wholeOf 32 u).length : Int) + 1))) (some (.int .i64 ((n : Int) - 1))) none).run Tryd.prog W = .ok (.string (mkS (midL u n))) W := fun W => by
    have h := mkS_mid u ((wholeOf 32 u).length + 1) (n - 1) (by omega) (by omega) W
    rwa [show (((n - 1 : Nat) : Int)) = (n : Int) - 1 by omega, show ((((wholeOf 32 u).length + 1 : Nat)) : Int) = ((wholeOf 32 u).length : Int) + 1 by omega] at h
  have S2 : ∀ W, (Instr.slice 9 (.string (mkS u)) none (some (.int .i64 (n : Int))) none).run Tryd.prog W = .ok (.string (mkS (u.take n))) W := fun W => mkS_upto u n h2 W
  have HP := Lib.hid (show ∀ W, Below (baseW w).heap.size (baseW w) W → PowLaid W from fun W hb => hp.below (PairRow.base hb).2)
  have hk : (wholeOf 61 (midL u n)).length ≤ 6000 := Nat.le_trans (List.takeWhile_sublist _).length_le hm
  have hf : (fracOf 61 (midL u n)).length ≤ 6000 := by unfold fracOf; rw [List.length_drop]; have := (List.dropWhile_sublist (p := (· != 61)) (l := midL u n)).length_le; omega
  have i1 : ¬ (n : Int) < ((wholeOf 32 u).length : Int) + 2 := by omega
  have i2 : ¬ (u.length : Int) < (n : Int) := by omega
  have B0 := Lib.hid (show ∀ W W', Below (baseW w).heap.size (baseW w) W → Below (W.alloc (.cells #[.string (mkS (wholeOf 61 (midL u n))), .string (mkS (fracOf 61 (midL u n)))] 36)).heap.size (W.alloc (.cells #[.string (mkS (wholeOf 61 (midL u n))), .string (mkS (fracOf 61 (midL u n)))] 36)) W' →
      W'.cell? ⟨W.heap.size, 0, none⟩ = some (.string (mkS (wholeOf 61 (midL u n)))) ∧ W'.cell? ⟨W.heap.size, 1, none⟩ = some (.string (mkS (fracOf 61 (midL u n)))) ∧ PairRow W' w.heap.size ∧ Below w.heap.size w W' from fun W W' h h' => by
    have h3 := h.alloc h.size (.cells #[.string (mkS (wholeOf 61 (midL u n))), .string (mkS (fracOf 61 (midL u n)))] 36)
    exact ⟨(h'.cell (p := ⟨W.heap.size, 0, none⟩) (by simp)).trans (by simp), (h'.cell (p := ⟨W.heap.size, 1, none⟩) (by simp)).trans (by simp), PairRow.base (h3.trans (h'.mono h3.size))⟩)
  have q1 : ((mkS (recL (wholeOf 61 (midL u n)) (fracOf 61 (midL u n)))).toList == (mkS (u.take n)).toList) = (decide (recL (wholeOf 61 (midL u n)) (fracOf 61 (midL u n)) = u.take n)) := by
    rw [ByteArray.toList_eq, ByteArray.toList_eq, mkS_list, mkS_list]
    by_cases h : recL (wholeOf 61 (midL u n)) (fracOf 61 (midL u n)) = u.take n
    · rw [h]; simp
    · simp [h]
  cases hr : rightP (wholeOf 61 (midL u n)) (fracOf 61 (midL u n))
  · have R := Lib.hid (fun W => record_bad (wholeOf 61 (midL u n)) (fracOf 61 (midL u n)) (by omega) (by omega) hr W)
    clear hA hv hp hr q1 h1 h2 hk hf hm
    generalize wholeOf 61 (midL u n) = K at *
    generalize fracOf 61 (midL u n) = V at *
    generalize midL u n = M at *
    generalize wholeOf 32 u = D at *
    go_enter Tryd.func62, Tryd.ntmps62
    go_wp2_with (first
      | (go_at_call 25; with_reducible refine (C1.out _).mono ?_; rintro e w1 ⟨rfl, n1, rfl⟩)
      | (go_at_call 74; refine (A1.out _ (below_draws _ _ _)).mono ?_; rintro e w2 ⟨rfl, hB2⟩)
      | (go_at_call 25; with_reducible refine (C2.out _).mono ?_; rintro e w3 ⟨rfl, n3, hw3⟩; have hB3 := (show Below (baseW w).heap.size (baseW w) w3 from hw3 ▸ hB2.trans (below_draws _ _ _)); clear hw3)
      | (go_at_call 16; refine (R.out _).mono ?_; rintro e w4 ⟨rfl, h4⟩; obtain ⟨_, _, hF, hB⟩ := B0.out _ _ hB3 h4; obtain ⟨f0, f1, f2, f3, f4⟩ := id hF))
    obtain ⟨g0, g1⟩ := hF.put { data := #[] } { data := #[] }
    refine bodyPost_ret (v := .tuple #[prV [] [], .int .i64 0]) (by simp [results, Tryd.results62, go_sem, g0, g1]; rfl) rfl ⟨Or.inr ⟨(fun h => Bool.noConfusion h.1), rfl⟩, below_store (below_store hB _ _ (Nat.le_refl _) _) _ _ (Nat.le_refl _) _⟩
  · have R := Lib.hid (fun W hp => record_ok (wholeOf 61 (midL u n)) (fracOf 61 (midL u n)) hr W hp)
    clear hA hv hp hr h1 h2 hk hf hm
    generalize hT : recL (wholeOf 61 (midL u n)) (fracOf 61 (midL u n)) = T at *
    clear hT
    generalize wholeOf 61 (midL u n) = K at *
    generalize fracOf 61 (midL u n) = V at *
    generalize midL u n = M at *
    generalize wholeOf 32 u = D at *
    generalize hU : u.take n = U at *
    clear hU
    by_cases ht : T = U
    · rw [decide_eq_true ht] at q1
      have HT := Lib.hid ht
      clear ht
      go_enter Tryd.func62, Tryd.ntmps62
      go_wp2_with (first
        | (go_at_call 25; with_reducible refine (C1.out _).mono ?_; rintro e w1 ⟨rfl, n1, rfl⟩)
        | (go_at_call 74; refine (A1.out _ (below_draws _ _ _)).mono ?_; rintro e w2 ⟨rfl, hB2⟩)
        | (go_at_call 25; with_reducible refine (C2.out _).mono ?_; rintro e w3 ⟨rfl, n3, hw3⟩; have hB3 := (show Below (baseW w).heap.size (baseW w) w3 from hw3 ▸ hB2.trans (below_draws _ _ _)); clear hw3)
        | (go_at_call 16; refine (R.out _ (HP.out _ (hB3.alloc hB3.size _))).mono ?_; rintro e w4 ⟨rfl, h4⟩; obtain ⟨b1, b2, hF, hB⟩ := B0.out _ _ hB3 h4; obtain ⟨f0, f1, f2, f3, f4⟩ := id hF))
      obtain ⟨g0, g1⟩ := hF.put (mkS K) (mkS V)
      refine bodyPost_ret (v := .tuple #[prV K V, .int .i64 n]) (by simp [results, Tryd.results62, go_sem, g0, g1]) rfl ⟨Or.inl ⟨trivial, HT.out, rfl⟩, below_store (below_store hB _ _ (Nat.le_refl _) _) _ _ (Nat.le_refl _) _⟩
    · rw [decide_eq_false ht] at q1
      have HT := Lib.hid ht
      clear ht
      go_enter Tryd.func62, Tryd.ntmps62
      go_wp2_with (first
        | (go_at_call 25; with_reducible refine (C1.out _).mono ?_; rintro e w1 ⟨rfl, n1, rfl⟩)
        | (go_at_call 74; refine (A1.out _ (below_draws _ _ _)).mono ?_; rintro e w2 ⟨rfl, hB2⟩)
        | (go_at_call 25; with_reducible refine (C2.out _).mono ?_; rintro e w3 ⟨rfl, n3, hw3⟩; have hB3 := (show Below (baseW w).heap.size (baseW w) w3 from hw3 ▸ hB2.trans (below_draws _ _ _)); clear hw3)
        | (go_at_call 16; refine (R.out _ (HP.out _ (hB3.alloc hB3.size _))).mono ?_; rintro e w4 ⟨rfl, h4⟩; obtain ⟨b1, b2, hF, hB⟩ := B0.out _ _ hB3 h4; obtain ⟨f0, f1, f2, f3, f4⟩ := id hF))
      obtain ⟨g0, g1⟩ := hF.put { data := #[] } { data := #[] }
      refine bodyPost_ret (v := .tuple #[prV [] [], .int .i64 0]) (by simp [results, Tryd.results62, go_sem, g0, g1]; rfl) rfl ⟨Or.inr ⟨fun h => HT.out h.2, rfl⟩, below_store (below_store hB _ _ (Nat.le_refl _) _) _ _ (Nat.le_refl _) _⟩
end Go.Proofs.YtheiamidochooaaDoor
