/- glob.set. -/
import Derived.Test.YtcdoiadmnckccaaDoorEle
import Derived.Test.YtcdoiadmnckccaaDoorZer
import Derived.Deep.RegionHeld
namespace Go.Proofs.YtcdoiadmnckccaaDoor
set_option linter.unusedVariables false
set_option linter.unusedSimpArgs false
open Go.RowKit Go.Joins
set_option maxRecDepth 100000

/-- Does c stand ahead? -/
def ahead (c : UInt8) : List UInt8 → Bool
  | [] => false
  | d :: _ => decide (d = c)
theorem prefix_c (l : List UInt8) (c : UInt8) (w : World) : Calls Tryd.prog 14 #[.string (mkS l), .string { data := #[c] }] w fun e w' => e = .returned (.bool (ahead c l)) ∧ w' = w := by
  have h := prefix_any l [c] w
  rw [prefix_one] at h
  exact h
theorem shuts_eq (s : List UInt8) : shuts s = ahead 93 s := by cases s <;> rfl
theorem negL_eq (s : List UInt8) : negL s = (ahead 33 s || ahead 94 s) := by cases s <;> rfl
theorem starred_eq (s : List UInt8) : starred s = ahead 42 s := by cases s <;> rfl

theorem conv_u8 (x : UInt8) (w : World) : (convert 5 3 (.int .u8 (x.toNat : Int))).run Tryd.prog w = .ok (.int .i64 (x.toNat : Int)) w := by
  have h := x.toNat_lt
  have h1 : (0 : Int) ≤ (x.toNat : Int) := by omega
  have h2 : (x.toNat : Int) < 256 := by omega
  generalize (x.toNat : Int) = n at *
  clear h
  have u5 := Tryd.underlying5
  have u3 := Tryd.underlying3
  simp [convert, go_sem, u5, u3]
  exact wrap_small n h1 (by omega)
/-- The set's elements laid over E, up to the place i. -/
def upTo (E : Nat → Bool) (a b : UInt8) (i : Nat) : Nat → Bool := fun j => if j < i then E j || within a b j else E j
theorem upTo_zero (E : Nat → Bool) (a b : UInt8) : upTo E a b 0 = E := by funext j; simp [upTo]
theorem upTo_at (E : Nat → Bool) (a b : UInt8) (i : Nat) : upTo E a b i i = E i := by simp [upTo]
theorem upTo_succ (E : Nat → Bool) (a b : UInt8) (i : Nat) : ∀ j, j < 256 → (fun j => if j = i then E i || within a b i else upTo E a b i j) j = upTo E a b (i + 1) j := by
  intro j _
  simp only [upTo]
  by_cases h : j = i
  · subst h; simp
  · by_cases h2 : j < i
    · simp [h, h2, show j < i + 1 by omega]
    · simp [h, h2, show ¬ j < i + 1 by omega]
theorem upTo_end (E : Nat → Bool) (a b : UInt8) : ∀ j, j < 256 → upTo E a b 256 j = (E j || within a b j) := by
  intro j hj; simp [upTo, hj]

/-- What the loop leaves: the rest, and the set laid. -/
def SetAt (n₀ : Nat) (w wr : World) (E : Nat → Bool) : Prop := IsRow wr n₀ 40 256 (fun _ => false) ∧ IsRow wr (n₀ + 1) 40 256 E ∧ Below n₀ w wr

/-- What set tells. -/
def setR (o : Option ((Nat → Bool) × List UInt8)) : Value := match o with | none => .tuple #[setV (fun _ => false), .string (mkS []), .bool false] | some (F, r) => .tuple #[setV F, .string (mkS r), .bool true]
def setOf (neg : Bool) (o : Option ((Nat → Bool) × List UInt8)) : Option ((Nat → Bool) × List UInt8) := match o with | none => none | some (E, r) => some (takesOf neg E, r)

set_option maxHeartbeats 4000000 in
theorem set_no (s : List UInt8) (h1 : ahead 33 s = false) (h2 : ahead 94 s = false) (w : World) :
    Calls Tryd.prog 20 #[.string (mkS s)] w fun e w' => e = .returned (setR (setOf false (elsL false s (fun _ => false)))) ∧ Below w.heap.size w w' := by
  have Z := Lib.hid (fun (w : World) => zeroSet w)
  have P1 := Lib.hid (fun (w : World) => prefix_c s 33 w)
  have P2 := Lib.hid (fun (w : World) => prefix_c s 94 w)
  rw [h1] at P1
  rw [h2] at P2
  clear h1 h2
  have W0 := Lib.hid (show SetAt w.heap.size w ((w.alloc (.cells (rowA 256 (fun _ => false)) 40)).alloc (.cells (rowA 256 (fun _ => false)) 40)) (fun _ => false) from
    ⟨(IsRow.new w _ _ _).alloc _, by have := IsRow.new (w.alloc (.cells (rowA 256 (fun _ => false)) 40)) 40 256 (fun _ => false); simpa using this, (below_alloc1 w _).alloc (by simp) _⟩)
  go_enter Tryd.func20, Tryd.ntmps20
  go_wp2_with (first
    | refine wpList_alloc_row rfl _ rfl _ (Z.out _) ?_
    | (go_at_call 14; with_reducible refine (P1.out _).mono ?_; rintro e w' ⟨rfl, hw⟩; replace hw := hw.symm; subst hw)
    | (go_at_call 14; with_reducible refine (P2.out _).mono ?_; rintro e w' ⟨rfl, hw⟩; replace hw := hw.symm; subst hw))
  go_loopg [0, 7] s.length (fun g s0 s7 wr => ∃ (b : Bool) (u : List UInt8) (E : Nat → Bool), u.length = g ∧ s0 = .string (mkS u) ∧ s7 = .bool b ∧ SetAt w.heap.size w wr E ∧ elsL b u E = elsL false s (fun _ => false))
  case atStart => exact ⟨false, s, _, rfl, rfl, rfl, W0.out, rfl⟩
  case round =>
    obtain ⟨b, u, E, hg, rfl, rfl, hS, hE⟩ := hrel
    have hlt := hS.1.lt
    by_cases hsh : b = true ∧ shuts u = true
    · obtain ⟨rfl, hu⟩ := hsh
      have P3 := Lib.hid (fun (w : World) => prefix_c u 93 w)
      rw [← shuts_eq, hu] at P3
      obtain ⟨r, rfl⟩ : ∃ r, u = 93 :: r := by
        cases u with
        | nil => cases hu
        | cons c r => exact ⟨r, by simp only [shuts, decide_eq_true_eq] at hu; rw [hu]⟩
      rw [elsL_shut hu] at hE
      have HE := Lib.hid hE
      have hc0 := hS.2.1.cell (show 47 < 256 by decide)
      have hf0 := hS.2.1.frozen 47
      have HS := Lib.hid (show SetAt w.heap.size w (wr.setCell ⟨w.heap.size + 1, 47, none⟩ (.bool false)) (takesOf false E) from
        ⟨hS.1.setOther (by simp) _, (hS.2.1.set 47 false).congr (fun j hj => by unfold takesOf; by_cases h : j = 47 <;> simp [h]), hS.2.2.setCell (by simp) _⟩)
      have s1 := mkS_tail 93 r
      clear hE hS hu
      go_wp2_with (go_at_call 14; with_reducible refine (P3.out _).mono ?_; rintro e w' ⟨rfl, hw⟩; replace hw := hw.symm; subst hw)
      generalize wr.setCell ⟨w.heap.size + 1, 47, none⟩ (.bool false) = W at HS ⊢
      generalize hF : takesOf false E = F at *
      have HF := Lib.hid hF
      clear hF
      have hW := HS.out
      refine wp_region_held_drew (S := fun w' => (∃ g, IsRow w' w.heap.size 40 256 g) ∧ IsRow w' (w.heap.size + 1) 40 256 F ∧ Below w.heap.size w w') (by kernel_rfl) ⟨⟨_, hW.1⟩, hW.2.1, hW.2.2.drew⟩ (fun hHeld => ?_)
      clear hW
      refine take_to (i := 0) 65 (.agg (rowA 256 F)) rfl rfl (by kernel_rfl) (by kernel_rfl) (by kernel_rfl) (fun _ _ _ h => h) (Or.inl ⟨by rfl, fun w1 h1 => exec_load_row _ _ rfl _ rfl h1.2.1 Tryd.underlying40 rfl (infoSet' _)⟩) (by assumption) ?_
      simp only [List.setIfInBounds_toArray, List.set_cons_succ, List.set_cons_zero]
      refine take_to (i := 1) 66 (.string (mkS (93 :: r))) rfl rfl (by kernel_rfl) (by kernel_rfl) (by kernel_rfl) (fun _ _ _ h => h) (Or.inl ⟨by rfl, ?_⟩) (by assumption) ?_
      · intro w hSw; rfl
      simp only [List.setIfInBounds_toArray, List.set_cons_succ, List.set_cons_zero]
      refine take_to (i := 2) 67 (.string (mkS r)) rfl rfl (by kernel_rfl) (by kernel_rfl) (by kernel_rfl) (fun _ _ _ h => h) (Or.inl ⟨by rfl, ?_⟩) (by assumption) ?_
      · (intro w hSw; (try dsimp only at hSw); go_simp; try with_reducible rfl)
      simp only [List.setIfInBounds_toArray, List.set_cons_succ, List.set_cons_zero]
      refine wpAnyH_ready (rs := [3]) (by kernel_rfl) (by simp) ?_
      refine AllReadyH.cons rfl (fun K hK => ?_) AllReadyH.nil
      rw [if_pos (by rfl)]
      obtain ⟨⟨g, hg0⟩, hg1, hg2⟩ := hHeld
      refine store_row_no rfl _ _ _ rfl _ (rowA 256 F) rfl rfl _ _ hg0 (infoSet' _) (by rw [rowA_size, rowA_size]) (rowA_one _ _) ?_
      refine hK.out _ _ ⟨⟨_, hg0.setRow F⟩, hg1.setRowOther (by omega) _, below_setRow hg2 (Nat.le_refl _) _⟩ (fun hHeld => ?_)
      have hrow := hg0.setRow F
      clear hg0 hg1 hg2 hK
      generalize W.drew.setRow w.heap.size (rowA 256 F) = W2 at *
      refine take_to (i := 4) 3 (.string (mkS r)) rfl rfl (by kernel_rfl) (by kernel_rfl) (by kernel_rfl) (fun _ _ _ h => h) (Or.inl ⟨by rfl, ?_⟩) (by assumption) ?_
      · intro w hSw; rfl
      simp only [List.setIfInBounds_toArray, List.set_cons_succ, List.set_cons_zero]
      refine take_to (i := 5) 4 (.bool true) rfl rfl (by kernel_rfl) (by kernel_rfl) (by kernel_rfl) (fun _ _ _ h => h) (Or.inl ⟨by rfl, ?_⟩) (by assumption) ?_
      · intro w hSw; rfl
      simp only [List.setIfInBounds_toArray, List.set_cons_succ, List.set_cons_zero]
      refine wpAnyH_done (by kernel_rfl) ?_ _
      go_wp2
      refine bodyPost_ret (results_row3 rfl _ _ w.heap.size _ _ _ _ rfl hrow Tryd.underlying40 rfl (infoSet' _)) rfl ?_
      refine ⟨?_, hHeld.2.2⟩
      rw [← HE.out]
      show _ = Ending.returned (.tuple #[setV (takesOf false E), .string (mkS r), .bool true])
      rw [HF.out]; rfl
    · have hcond : ∀ w, b = true → Calls Tryd.prog 14 #[.string (mkS u), .string { data := #[93] }] w fun e w' => e = .returned (.bool false) ∧ w' = w := fun w hb => by
        have h := prefix_c u 93 w
        rw [← shuts_eq] at h
        rwa [show shuts u = false by
          cases hq : shuts u
          · rfl
          · exact absurd ⟨hb, hq⟩ hsh] at h
      have P3 := Lib.hid hcond
      clear hcond
      cases hsp : spanL u with
      | none =>
        rw [elsL_none hsh hsp] at hE
        have HE := Lib.hid hE
        have SP := Lib.hid (fun (w : World) => span_none hsp w)
        have hbelow := Lib.hid (show ∀ w1, Below wr.heap.size wr w1 → IsRow w1 w.heap.size 40 256 (fun _ => false) ∧ Below w.heap.size w w1 from fun w1 h1 => ⟨hS.1.below h1 hlt, hS.2.2.trans (h1.mono hS.2.2.size)⟩)
        have hb0 := set_zero
        clear hE hsp hS hsh
        rcases b with _ | _ <;> (
          go_wp2_with (first
            | (go_at_call 14; with_reducible refine (P3.out _ (by trivial)).mono ?_; rintro e w' ⟨rfl, hw⟩; replace hw := hw.symm; subst hw)
            | (go_at_call 24; with_reducible refine (SP.out _).mono ?_; rintro e w1 ⟨⟨_, _, _, rfl⟩, hb1⟩; obtain ⟨h1, h2⟩ := hbelow.out w1 hb1; clear hb1)
            | refine wpList_store_row rfl _ _ _ rfl _ _ rfl rfl _ _ h1 (infoSet' _) rfl (rowA_one _ _) ?_)
          (try simp only [Exit.inBlock, Exit.then])
          refine bodyPost_ret (results_row3 rfl _ _ w.heap.size _ _ _ _ rfl (h1.setRow _) Tryd.underlying40 rfl (infoSet' _)) rfl ?_
          exact ⟨by rw [← HE.out]; rfl, below_setRow h2 (Nat.le_refl _) _⟩)
      | some x =>
        obtain ⟨x, y, r⟩ := x
        rw [elsL_some hsh hsp] at hE
        have HE := Lib.hid hE
        have hrl := spanL_lt hsp
        have SP := Lib.hid (fun (w : World) => span_some hsp w)
        have hbelow := Lib.hid (show ∀ w1, Below wr.heap.size wr w1 → SetAt w.heap.size w w1 E from fun w1 h1 => ⟨hS.1.below h1 hlt, hS.2.1.below h1 hS.2.1.lt, hS.2.2.trans (h1.mono hS.2.2.size)⟩)
        clear hE hsp hS hsh
        have x0 : ∀ w, (convert 5 3 (.int .u8 (x.toNat : Int))).run Tryd.prog w = .ok (.int .i64 (x.toNat : Int)) w := fun w => conv_u8 x w
        have y0 : ∀ w, (convert 5 3 (.int .u8 (y.toNat : Int))).run Tryd.prog w = .ok (.int .i64 (y.toNat : Int)) w := fun w => conv_u8 y w
        rcases b with _ | _ <;> (
          go_wp2_with (first
            | (go_at_call 14; with_reducible refine (P3.out _ (by trivial)).mono ?_; rintro e w' ⟨rfl, hw⟩; replace hw := hw.symm; subst hw)
            | (go_at_call 24; with_reducible refine (SP.out _).mono ?_; rintro e w1 ⟨rfl, hb1⟩; have hS1 := Lib.hid (hbelow.out w1 hb1); clear hb1))
          go_loopg [39] 256 (fun g s39 wx => ∃ i : Nat, i + g = 256 ∧ s39 = .int .i64 (i : Int) ∧ SetAt w.heap.size w wx (upTo E x y i))
          case atStart => exact ⟨0, rfl, rfl, by rw [upTo_zero]; exact hS1.out⟩
          case round =>
            obtain ⟨i, hig, rfl, hS2⟩ := hrel
            cases gk with
            | zero =>
              obtain rfl : i = 256 := by omega
              have HS2 := Lib.hid (show SetAt w.heap.size w wr (fun i => E i || within x y i) from ⟨hS2.1, hS2.2.1.congr (upTo_end E x y), hS2.2.2⟩)
              clear hS2 hig
              go_wp2
              go_roundg r.length
              case measure => omega
              case rel => exact ⟨true, r, _, rfl, rfl, rfl, HS2.out, HE.out⟩
            | succ g =>
              have hi : i < 256 := by omega
              have hiz : (i : Int) < 256 := by omega
              have hc1 := hS2.2.1.cell hi
              rw [upTo_at] at hc1
              have hf1 := hS2.2.1.frozen i
              have HN := Lib.hid (show ∀ v, v = (E i || within x y i) → SetAt w.heap.size w (wr.setCell ⟨w.heap.size + 1, i, none⟩ (.bool v)) (upTo E x y (i + 1)) from fun v hv => by
                subst hv
                exact ⟨hS2.1.setOther (by simp) _, (hS2.2.1.set i _).congr (upTo_succ E x y i), hS2.2.2.setCell (by simp) _⟩)
              clear hS2
              generalize hv : E i = v1 at HN hc1
              have h2 : ((x.toNat : Int) ≤ (i : Int)) = (x.toNat ≤ i) := by simp
              have h3 : ((i : Int) ≤ (y.toNat : Int)) = (i ≤ y.toNat) := by simp
              unfold within at HN
              clear hv
              cases v1
              · by_cases hx : x.toNat ≤ i
                · have e2 : decide ((x.toNat : Int) ≤ (i : Int)) = true := decide_eq_true (by omega)
                  have n2 : decide (x.toNat ≤ i) = true := decide_eq_true (by omega)
                  by_cases hy : i ≤ y.toNat
                  · have e3 : decide ((i : Int) ≤ (y.toNat : Int)) = true := decide_eq_true (by omega)
                    have n3 : decide (i ≤ y.toNat) = true := decide_eq_true (by omega)
                    simp only [decide_eq_true hx, decide_eq_true hy] at HN
                    clear h2 h3 hx hy
                    go_wp2
                    go_roundg g
                    case measure => omega
                    case rel => exact ⟨i + 1, by omega, by first | rfl | simp, HN.out _ rfl⟩
                  · have e3 : decide ((i : Int) ≤ (y.toNat : Int)) = false := decide_eq_false (by omega)
                    have n3 : decide (i ≤ y.toNat) = false := decide_eq_false (by omega)
                    simp only [decide_eq_true hx, decide_eq_false hy] at HN
                    clear h2 h3 hx hy
                    go_wp2
                    go_roundg g
                    case measure => omega
                    case rel => exact ⟨i + 1, by omega, by first | rfl | simp, HN.out _ rfl⟩
                · have e2 : decide ((x.toNat : Int) ≤ (i : Int)) = false := decide_eq_false (by omega)
                  have n2 : decide (x.toNat ≤ i) = false := decide_eq_false (by omega)
                  simp only [decide_eq_false hx] at HN
                  clear h2 h3 hx
                  go_wp2
                  go_roundg g
                  case measure => omega
                  case rel => exact ⟨i + 1, by omega, by first | rfl | simp, HN.out _ rfl⟩
              · clear h2 h3
                go_wp2
                go_roundg g
                case measure => omega
                case rel => exact ⟨i + 1, by omega, by first | rfl | simp, HN.out _ (by simp)⟩)

set_option maxHeartbeats 4000000 in
theorem set_neg (c : UInt8) (s : List UInt8) (hc : c = 33 ∨ c = 94) (w : World) :
    Calls Tryd.prog 20 #[.string (mkS (c :: s))] w fun e w' => e = .returned (setR (setOf true (elsL false s (fun _ => false)))) ∧ Below w.heap.size w w' := by
  have Z := Lib.hid (fun (w : World) => zeroSet w)
  have P1 := Lib.hid (fun (w : World) => prefix_c (c :: s) 33 w)
  have P2 := Lib.hid (fun (w : World) => prefix_c (c :: s) 94 w)
  have sl := mkS_tail c s
  have W0 := Lib.hid (show SetAt w.heap.size w ((w.alloc (.cells (rowA 256 (fun _ => false)) 40)).alloc (.cells (rowA 256 (fun _ => false)) 40)) (fun _ => false) from
    ⟨(IsRow.new w _ _ _).alloc _, by have := IsRow.new (w.alloc (.cells (rowA 256 (fun _ => false)) 40)) 40 256 (fun _ => false); simpa using this, (below_alloc1 w _).alloc (by simp) _⟩)
  rcases hc with rfl | rfl
  all_goals
    simp only [ahead, decide_true, show decide ((94 : UInt8) = 33) = false from rfl, show decide ((33 : UInt8) = 94) = false from rfl] at P1 P2
    go_enter Tryd.func20, Tryd.ntmps20
    go_wp2_with (first
      | refine wpList_alloc_row rfl _ rfl _ (Z.out _) ?_
      | (go_at_call 14; with_reducible refine (P1.out _).mono ?_; rintro e w' ⟨rfl, hw⟩; replace hw := hw.symm; subst hw)
      | (go_at_call 14; with_reducible refine (P2.out _).mono ?_; rintro e w' ⟨rfl, hw⟩; replace hw := hw.symm; subst hw))
    go_loopg [0, 7] s.length (fun g s0 s7 wr => ∃ (b : Bool) (u : List UInt8) (E : Nat → Bool), u.length = g ∧ s0 = .string (mkS u) ∧ s7 = .bool b ∧ SetAt w.heap.size w wr E ∧ elsL b u E = elsL false s (fun _ => false))
    case atStart => exact ⟨false, s, _, rfl, rfl, rfl, W0.out, rfl⟩
    case round =>
      obtain ⟨b, u, E, hg, rfl, rfl, hS, hE⟩ := hrel
      have hlt := hS.1.lt
      by_cases hsh : b = true ∧ shuts u = true
      · obtain ⟨rfl, hu⟩ := hsh
        have P3 := Lib.hid (fun (w : World) => prefix_c u 93 w)
        rw [← shuts_eq, hu] at P3
        obtain ⟨r, rfl⟩ : ∃ r, u = 93 :: r := by
          cases u with
          | nil => cases hu
          | cons c r => exact ⟨r, by simp only [shuts, decide_eq_true_eq] at hu; rw [hu]⟩
        rw [elsL_shut hu] at hE
        have HE := Lib.hid hE
        have hS0 := Lib.hid hS
        have NV := Lib.hid (show ∀ w, Calls Tryd.prog 18 #[.agg (rowA 256 E)] w fun e w' => e = .returned (.agg (rowA 256 (fun i => !E i))) ∧ Below w.heap.size w w' from fun (w : World) => inverse_any E w)
        have AFT := Lib.hid (show ∀ w1, Below wr.heap.size wr w1 → SetAt w.heap.size w w1 E from fun w1 h1 => ⟨hS.1.below h1 hlt, hS.2.1.below h1 hS.2.1.lt, hS.2.2.trans (h1.mono hS.2.2.size)⟩)
        have hrow := hS.2.1
        have s1 := mkS_tail 93 r
        clear hE hS hu
        go_wp2_with (first
          | (go_at_call 14; with_reducible refine (P3.out _).mono ?_; rintro e w' ⟨rfl, hw⟩; replace hw := hw.symm; subst hw)
          | refine wpList_load_row rfl _ _ rfl _ rfl _ _ _ _ hrow Tryd.underlying40 rfl (infoSet' _) ?_
          | (go_at_call 18; with_reducible refine (NV.out _).mono ?_; rintro e w1 ⟨rfl, hb1⟩; have hS1 := AFT.out w1 hb1; clear hb1)
          | (refine wpList_store_row rfl _ _ _ rfl _ (rowA 256 (fun i => !E i)) rfl rfl _ _ hS1.2.1 (infoSet' _) (by rw [rowA_size, rowA_size]) (rowA_one _ _) ?_
             have hS2 : SetAt w.heap.size w (w1.setRow (w.heap.size + 1) (rowA 256 (fun i => !E i))) (fun i => !E i) := ⟨hS1.1.setRowOther (by omega) _, hS1.2.1.setRow _, below_setRow hS1.2.2 (Nat.le_succ _) _⟩
             clear hS1
             generalize w1.setRow (w.heap.size + 1) (rowA 256 (fun i => !E i)) = W1 at hS2 ⊢
             have hc0 := hS2.2.1.cell (show 47 < 256 by decide)
             have hf0 := hS2.2.1.frozen 47
             have HS := Lib.hid (show SetAt w.heap.size w (W1.setCell ⟨w.heap.size + 1, 47, none⟩ (.bool false)) (takesOf true E) from
               ⟨hS2.1.setOther (by simp) _, (hS2.2.1.set 47 false).congr (fun j hj => by unfold takesOf; by_cases h : j = 47 <;> simp [h]), hS2.2.2.setCell (by simp) _⟩)
             clear hS2))
        generalize W1.setCell ⟨w.heap.size + 1, 47, none⟩ (.bool false) = W at HS ⊢
        generalize hF : takesOf true E = F at *
        have HF := Lib.hid hF
        clear hF
        have hW := HS.out
        refine wp_region_held_drew (S := fun w' => (∃ g, IsRow w' w.heap.size 40 256 g) ∧ IsRow w' (w.heap.size + 1) 40 256 F ∧ Below w.heap.size w w') (by kernel_rfl) ⟨⟨_, hW.1⟩, hW.2.1, hW.2.2.drew⟩ (fun hHeld => ?_)
        clear hW
        refine take_to (i := 0) 65 (.agg (rowA 256 F)) rfl rfl (by kernel_rfl) (by kernel_rfl) (by kernel_rfl) (fun _ _ _ h => h) (Or.inl ⟨by rfl, fun w1 h1 => exec_load_row _ _ rfl _ rfl h1.2.1 Tryd.underlying40 rfl (infoSet' _)⟩) (by assumption) ?_
        simp only [List.setIfInBounds_toArray, List.set_cons_succ, List.set_cons_zero]
        refine take_to (i := 1) 66 (.string (mkS (93 :: r))) rfl rfl (by kernel_rfl) (by kernel_rfl) (by kernel_rfl) (fun _ _ _ h => h) (Or.inl ⟨by rfl, ?_⟩) (by assumption) ?_
        · intro w hSw; rfl
        simp only [List.setIfInBounds_toArray, List.set_cons_succ, List.set_cons_zero]
        refine take_to (i := 2) 67 (.string (mkS r)) rfl rfl (by kernel_rfl) (by kernel_rfl) (by kernel_rfl) (fun _ _ _ h => h) (Or.inl ⟨by rfl, ?_⟩) (by assumption) ?_
        · (intro w hSw; (try dsimp only at hSw); go_simp; try with_reducible rfl)
        simp only [List.setIfInBounds_toArray, List.set_cons_succ, List.set_cons_zero]
        refine wpAnyH_ready (rs := [3]) (by kernel_rfl) (by simp) ?_
        refine AllReadyH.cons rfl (fun K hK => ?_) AllReadyH.nil
        rw [if_pos (by rfl)]
        obtain ⟨⟨g, hg0⟩, hg1, hg2⟩ := hHeld
        refine store_row_no rfl _ _ _ rfl _ (rowA 256 F) rfl rfl _ _ hg0 (infoSet' _) (by rw [rowA_size, rowA_size]) (rowA_one _ _) ?_
        refine hK.out _ _ ⟨⟨_, hg0.setRow F⟩, hg1.setRowOther (by omega) _, below_setRow hg2 (Nat.le_refl _) _⟩ (fun hHeld => ?_)
        have hrow := hg0.setRow F
        clear hg0 hg1 hg2 hK
        generalize W.drew.setRow w.heap.size (rowA 256 F) = W2 at *
        refine take_to (i := 4) 3 (.string (mkS r)) rfl rfl (by kernel_rfl) (by kernel_rfl) (by kernel_rfl) (fun _ _ _ h => h) (Or.inl ⟨by rfl, ?_⟩) (by assumption) ?_
        · intro w hSw; rfl
        simp only [List.setIfInBounds_toArray, List.set_cons_succ, List.set_cons_zero]
        refine take_to (i := 5) 4 (.bool true) rfl rfl (by kernel_rfl) (by kernel_rfl) (by kernel_rfl) (fun _ _ _ h => h) (Or.inl ⟨by rfl, ?_⟩) (by assumption) ?_
        · intro w hSw; rfl
        simp only [List.setIfInBounds_toArray, List.set_cons_succ, List.set_cons_zero]
        refine wpAnyH_done (by kernel_rfl) ?_ _
        go_wp2
        refine bodyPost_ret (results_row3 rfl _ _ w.heap.size _ _ _ _ rfl hrow Tryd.underlying40 rfl (infoSet' _)) rfl ?_
        refine ⟨?_, hHeld.2.2⟩
        rw [← HE.out]
        show _ = Ending.returned (.tuple #[setV (takesOf true E), .string (mkS r), .bool true])
        rw [HF.out]; rfl
      · have hcond : ∀ w, b = true → Calls Tryd.prog 14 #[.string (mkS u), .string { data := #[93] }] w fun e w' => e = .returned (.bool false) ∧ w' = w := fun w hb => by
          have h := prefix_c u 93 w
          rw [← shuts_eq] at h
          rwa [show shuts u = false by
            cases hq : shuts u
            · rfl
            · exact absurd ⟨hb, hq⟩ hsh] at h
        have P3 := Lib.hid hcond
        clear hcond
        cases hsp : spanL u with
        | none =>
          rw [elsL_none hsh hsp] at hE
          have HE := Lib.hid hE
          have SP := Lib.hid (fun (w : World) => span_none hsp w)
          have hbelow := Lib.hid (show ∀ w1, Below wr.heap.size wr w1 → IsRow w1 w.heap.size 40 256 (fun _ => false) ∧ Below w.heap.size w w1 from fun w1 h1 => ⟨hS.1.below h1 hlt, hS.2.2.trans (h1.mono hS.2.2.size)⟩)
          have hb0 := set_zero
          clear hE hsp hS hsh
          rcases b with _ | _ <;> (
            go_wp2_with (first
              | (go_at_call 14; with_reducible refine (P3.out _ (by trivial)).mono ?_; rintro e w' ⟨rfl, hw⟩; replace hw := hw.symm; subst hw)
              | (go_at_call 24; with_reducible refine (SP.out _).mono ?_; rintro e w1 ⟨⟨_, _, _, rfl⟩, hb1⟩; obtain ⟨h1, h2⟩ := hbelow.out w1 hb1; clear hb1)
              | refine wpList_store_row rfl _ _ _ rfl _ _ rfl rfl _ _ h1 (infoSet' _) rfl (rowA_one _ _) ?_)
            (try simp only [Exit.inBlock, Exit.then])
            refine bodyPost_ret (results_row3 rfl _ _ w.heap.size _ _ _ _ rfl (h1.setRow _) Tryd.underlying40 rfl (infoSet' _)) rfl ?_
            exact ⟨by rw [← HE.out]; rfl, below_setRow h2 (Nat.le_refl _) _⟩)
        | some x =>
          obtain ⟨x, y, r⟩ := x
          rw [elsL_some hsh hsp] at hE
          have HE := Lib.hid hE
          have hrl := spanL_lt hsp
          have SP := Lib.hid (fun (w : World) => span_some hsp w)
          have hbelow := Lib.hid (show ∀ w1, Below wr.heap.size wr w1 → SetAt w.heap.size w w1 E from fun w1 h1 => ⟨hS.1.below h1 hlt, hS.2.1.below h1 hS.2.1.lt, hS.2.2.trans (h1.mono hS.2.2.size)⟩)
          clear hE hsp hS hsh
          have x0 : ∀ w, (convert 5 3 (.int .u8 (x.toNat : Int))).run Tryd.prog w = .ok (.int .i64 (x.toNat : Int)) w := fun w => conv_u8 x w
          have y0 : ∀ w, (convert 5 3 (.int .u8 (y.toNat : Int))).run Tryd.prog w = .ok (.int .i64 (y.toNat : Int)) w := fun w => conv_u8 y w
          rcases b with _ | _ <;> (
            go_wp2_with (first
              | (go_at_call 14; with_reducible refine (P3.out _ (by trivial)).mono ?_; rintro e w' ⟨rfl, hw⟩; replace hw := hw.symm; subst hw)
              | (go_at_call 24; with_reducible refine (SP.out _).mono ?_; rintro e w1 ⟨rfl, hb1⟩; have hS1 := Lib.hid (hbelow.out w1 hb1); clear hb1))
            go_loopg [39] 256 (fun g s39 wx => ∃ i : Nat, i + g = 256 ∧ s39 = .int .i64 (i : Int) ∧ SetAt w.heap.size w wx (upTo E x y i))
            case atStart => exact ⟨0, rfl, rfl, by rw [upTo_zero]; exact hS1.out⟩
            case round =>
              obtain ⟨i, hig, rfl, hS2⟩ := hrel
              cases gk with
              | zero =>
                obtain rfl : i = 256 := by omega
                have HS2 := Lib.hid (show SetAt w.heap.size w wr (fun i => E i || within x y i) from ⟨hS2.1, hS2.2.1.congr (upTo_end E x y), hS2.2.2⟩)
                clear hS2 hig
                go_wp2
                go_roundg r.length
                case measure => omega
                case rel => exact ⟨true, r, _, rfl, rfl, rfl, HS2.out, HE.out⟩
              | succ g =>
                have hi : i < 256 := by omega
                have hiz : (i : Int) < 256 := by omega
                have hc1 := hS2.2.1.cell hi
                rw [upTo_at] at hc1
                have hf1 := hS2.2.1.frozen i
                have HN := Lib.hid (show ∀ v, v = (E i || within x y i) → SetAt w.heap.size w (wr.setCell ⟨w.heap.size + 1, i, none⟩ (.bool v)) (upTo E x y (i + 1)) from fun v hv => by
                  subst hv
                  exact ⟨hS2.1.setOther (by simp) _, (hS2.2.1.set i _).congr (upTo_succ E x y i), hS2.2.2.setCell (by simp) _⟩)
                clear hS2
                generalize hv : E i = v1 at HN hc1
                have h2 : ((x.toNat : Int) ≤ (i : Int)) = (x.toNat ≤ i) := by simp
                have h3 : ((i : Int) ≤ (y.toNat : Int)) = (i ≤ y.toNat) := by simp
                unfold within at HN
                clear hv
                cases v1
                · by_cases hx : x.toNat ≤ i
                  · have e2 : decide ((x.toNat : Int) ≤ (i : Int)) = true := decide_eq_true (by omega)
                    have n2 : decide (x.toNat ≤ i) = true := decide_eq_true (by omega)
                    by_cases hy : i ≤ y.toNat
                    · have e3 : decide ((i : Int) ≤ (y.toNat : Int)) = true := decide_eq_true (by omega)
                      have n3 : decide (i ≤ y.toNat) = true := decide_eq_true (by omega)
                      simp only [decide_eq_true hx, decide_eq_true hy] at HN
                      clear h2 h3 hx hy
                      go_wp2
                      go_roundg g
                      case measure => omega
                      case rel => exact ⟨i + 1, by omega, by first | rfl | simp, HN.out _ rfl⟩
                    · have e3 : decide ((i : Int) ≤ (y.toNat : Int)) = false := decide_eq_false (by omega)
                      have n3 : decide (i ≤ y.toNat) = false := decide_eq_false (by omega)
                      simp only [decide_eq_true hx, decide_eq_false hy] at HN
                      clear h2 h3 hx hy
                      go_wp2
                      go_roundg g
                      case measure => omega
                      case rel => exact ⟨i + 1, by omega, by first | rfl | simp, HN.out _ rfl⟩
                  · have e2 : decide ((x.toNat : Int) ≤ (i : Int)) = false := decide_eq_false (by omega)
                    have n2 : decide (x.toNat ≤ i) = false := decide_eq_false (by omega)
                    simp only [decide_eq_false hx] at HN
                    clear h2 h3 hx
                    go_wp2
                    go_roundg g
                    case measure => omega
                    case rel => exact ⟨i + 1, by omega, by first | rfl | simp, HN.out _ rfl⟩
                · clear h2 h3
                  go_wp2
                  go_roundg g
                  case measure => omega
                  case rel => exact ⟨i + 1, by omega, by first | rfl | simp, HN.out _ (by simp)⟩)

theorem set_any (s : List UInt8) (w : World) : Calls Tryd.prog 20 #[.string (mkS s)] w fun e w' => e = .returned (setR (setL s)) ∧ Below w.heap.size w w' := by
  have e : setL s = setOf (negL s) (elsL false (if negL s = true then s.tail else s) (fun _ => false)) := rfl
  rw [e]
  cases s with
  | nil => exact set_no [] rfl rfl w
  | cons c r =>
    by_cases h : c = 33 ∨ c = 94
    · have hn : negL (c :: r) = true := by simp only [negL, Bool.or_eq_true, decide_eq_true_eq]; exact h
      rw [hn]
      exact set_neg c r h w
    · have h1 : ¬ c = 33 := fun x => h (Or.inl x)
      have h2 : ¬ c = 94 := fun x => h (Or.inr x)
      have hn : negL (c :: r) = false := by simp [negL, h1, h2]
      rw [hn]
      exact set_no (c :: r) (by simp [ahead, h1]) (by simp [ahead, h2]) w
end Go.Proofs.YtcdoiadmnckccaaDoor
