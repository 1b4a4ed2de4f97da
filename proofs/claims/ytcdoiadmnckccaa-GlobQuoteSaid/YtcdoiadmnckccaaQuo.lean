/- glob.Quote and the reference's; the law GlobQuoted's walk. -/
import Derived.Test.YtcdoiadmnckccaaGn
import Derived.Test.YtcdoiadmnckccaaShelf
import Derived.Shelf.Strings.Builder2
import Derived.Deep.LoopGhost
namespace Go.Proofs.Ytcdoiadmnckccaa
set_option linter.unusedVariables false
set_option linter.unusedSimpArgs false
open Go.RowKit Go.Joins Go.Shelf
set_option maxRecDepth 100000

def bldRen : Go.Shelf.Ren := ⟨fun | 167 => 25 | n => Try.lays105_ren.f n, Try.lays105_ren.t, Try.lays105_ren.g⟩
theorem bld167 : Go.Proofs.Lays.n167 Try.prog bldRen := { Try.lays105 with f167 := Try.func25.trans (congrArg some (by kernel_rfl)) }
theorem bldX : Builder.Extra Try.prog bldRen := {
  sizeBuilder := by kernel_rfl
  liesBuilder := by kernel_rfl
  t5 := Try.underlying5
  a5 := Try.isAgg5
  z5 := Try.sizeOf5
  v5 := Try.zeroValue5
  infoByte := by kernel_rfl
  cellsByte := by kernel_rfl
  sizeByte := by kernel_rfl
  neB5 := by decide }
theorem bld_WriteByte (B b : Nat) (bs : List Value) (c : Int) (w : World) (h : Lib.IsBuilder 46 5 B b bs w) (hlen : bs.length + 1 ≤ 140737488355328) (hBw : B ≤ w.heap.size) :
    Calls Try.prog 25 #[.pointer (some ⟨b, 0, none⟩), .int .u8 c] w fun e w' => e = .returned .nilIface ∧ (Lib.BuilderAt 46 5 B b (.pointer (some ⟨b, 0, none⟩)) (bs ++ [.int .u8 c]) w' ∧ Below B w w') :=
  Any.Builder_WriteByte bld167 bldX B b bs c w h hlen hBw
theorem bld_String (B b : Nat) (l : List UInt8) (w : World) (h : Lib.IsBuilder 46 5 B b (Lib.byteCells l) w) (hBw : B ≤ w.heap.size) :
    Calls Try.prog 26 #[.pointer (some ⟨b, 0, none⟩)] w fun e w' => e = .returned (.string (mkS l)) ∧ Below B w w' :=
  Try.Builder_String_any B b l w h hBw
theorem bytes_snoc (l : List UInt8) (c : UInt8) : Lib.byteCells l ++ [.int .u8 (c.toNat : Int)] = Lib.byteCells (l ++ [c]) := by simp [Lib.byteCells]
theorem special_idx (c : UInt8) : decide (0 ≤ Lib.indexByte [42, 63, 91, 92] c) = special c := by
  simp only [Lib.indexByte, special]
  by_cases h1 : c = 42
  · subst h1; rfl
  · by_cases h2 : c = 63
    · subst h2; rfl
    · by_cases h3 : c = 91
      · subst h3; rfl
      · by_cases h4 : c = 92
        · subst h4; rfl
        · have e1 : ¬ 42 = c := fun h => h1 h.symm
          have e2 : ¬ 63 = c := fun h => h2 h.symm
          have e3 : ¬ 91 = c := fun h => h3 h.symm
          have e4 : ¬ 92 = c := fun h => h4 h.symm
          simp [h1, h2, h3, h4, e1, e2, e3, e4]
theorem index_special (c : UInt8) (w : World) : Calls Try.prog 24 #[.string { data := #[42, 63, 91, 92] }, .int .u8 (c.toNat : Int)] w fun e w' => (∃ v : Int, e = .returned (.int .i64 v) ∧ decide (0 ≤ v) = special c) ∧ w' = w := by
  have h := Try.strings_IndexByte { data := #[42, 63, 91, 92] } (c.toNat : Int) w
  have e : ((c.toNat : Int)).toNat.toUInt8 = c := by rw [Int.toNat_natCast]; exact UInt8.ofNat_toNat
  rw [e] at h
  exact h.mono fun e w' ⟨h1, h2⟩ => ⟨⟨_, h1, special_idx c⟩, h2⟩
theorem quote_take (l : List UInt8) {i : Nat} {c : UInt8} (h : l[i]? = some c) : quoteL (l.take (i + 1)) = quoteL (l.take i) ++ quote1 c := by
  rw [List.take_add_one, h]; simp [quoteL]
theorem quote_take_len (l : List UInt8) (i : Nat) : (quoteL (l.take i)).length ≤ 2 * l.length := by
  have h := quoteL_len (l.take i)
  have : (l.take i).length ≤ l.length := by simp; omega
  omega

set_option maxHeartbeats 1000000 in
theorem quote_any (l : List UInt8) (hl : l.length ≤ 100000) (w : World) : Calls Try.prog 12 #[.string (mkS l)] w fun e w' => e = .returned (.string (mkS (quoteL l))) ∧ Below w.heap.size w w' := by
  have hsz := mkS_size l
  have HI := Lib.hid (fun (i : Nat) (c : UInt8) (h : l[i]? = some c) (w : World) => mkS_index l (i : Int) c (by omega) (by simpa using h) w)
  obtain ⟨L, hL⟩ : ∃ L, l.length = L := ⟨_, rfl⟩
  have HL := Lib.hid hL
  rw [hL] at hsz hl
  clear hL
  have hbk : (w.alloc (.cells #[.pointer none, .slice none 0 0] 46)).heap[w.heap.size]? = some (.cells #[.pointer none, .slice none 0 0] 46 (0, 0)) := by
    show (w.heap.push _)[w.heap.size]? = _
    rw [Array.getElem?_push_size]
  have H0 := Lib.hid (show Lib.IsBuilder 46 5 w.heap.size w.heap.size (Lib.byteCells (quoteL (l.take 0))) (w.alloc (.cells #[.pointer none, .slice none 0 0] 46)) ∧ Below w.heap.size w (w.alloc (.cells #[.pointer none, .slice none 0 0] 46)) from
    ⟨.inl ⟨Nat.le_refl _, _, hbk, ⟨rfl, Or.inl ⟨rfl, rfl⟩⟩, by simp [Value.ownBlock]⟩, below_alloc1 w _⟩)
  have HW := Lib.hid (show ∀ (bs : List UInt8) (c : UInt8) (W : World), bs.length ≤ 1000000 → Lib.IsBuilder 46 5 w.heap.size w.heap.size (Lib.byteCells bs) W → Below w.heap.size w W →
      Calls Try.prog 25 #[.pointer (some ⟨w.heap.size, 0, none⟩), .int .u8 (c.toNat : Int)] W fun e w' => e = .returned .nilIface ∧ Lib.IsBuilder 46 5 w.heap.size w.heap.size (Lib.byteCells (bs ++ [c])) w' ∧ Below w.heap.size w w' from fun bs c W hb h1 h2 =>
    (bld_WriteByte w.heap.size w.heap.size _ (c.toNat : Int) W h1 (by rw [Lib.byteCells_length]; omega) h2.size).mono fun e w' ⟨e1, e2, e3⟩ => ⟨e1, .inr (by rw [← bytes_snoc]; exact e2), h2.trans e3⟩)
  have HS := Lib.hid (fun (bs : List UInt8) (W : World) h1 h2 => bld_String w.heap.size w.heap.size bs W h1 h2)
  clear hbk
  go_enter Try.func12, Try.ntmps12
  go_wp2
  go_loopg [7] L (fun g s7 wr => ∃ i : Nat, i + g = L ∧ s7 = .int .i64 (i : Int) ∧ Lib.IsBuilder 46 5 w.heap.size w.heap.size (Lib.byteCells (quoteL (l.take i))) wr ∧ Below w.heap.size w wr)
  case atStart => exact ⟨0, by omega, rfl, H0.out.1, H0.out.2⟩
  case round =>
    obtain ⟨i, hig, rfl, hB, hb⟩ := hrel
    have HB := Lib.hid (And.intro hB hb)
    clear hB hb
    cases gk with
    | zero =>
      obtain rfl : i = L := by omega
      go_wp2_with (go_at_call 26; with_reducible refine (HS.out _ _ HB.out.1 HB.out.2.size).mono ?_; rintro e w1 ⟨rfl, hb1⟩)
      go_ret
      exact ⟨by rw [← HL.out, List.take_length]; rfl, HB.out.2.trans hb1⟩
    | succ g =>
      have hi : i < L := by omega
      have hiz : (i : Int) < (L : Int) := by omega
      have h9 : (i : Int) + 1 ≤ 9223372036854775807 := by omega
      obtain ⟨c, hc⟩ : ∃ c, l[i]? = some c := ⟨_, List.getElem?_eq_getElem (by rw [HL.out]; exact hi)⟩
      have hidx := HI.out i c hc
      have NX := Lib.hid (quote_take l hc)
      have HX := Lib.hid (index_special c)
      have HQ := Lib.hid (show (quoteL (l.take i)).length ≤ 200000 by have := quote_take_len l i; have := HL.out; omega)
      have W1 := Lib.hid (show ∀ (bs : List UInt8) (W : World), bs.length ≤ 1000000 → Lib.IsBuilder 46 5 w.heap.size w.heap.size (Lib.byteCells bs) W → Below w.heap.size w W →
        Calls Try.prog 25 #[.pointer (some ⟨w.heap.size, 0, none⟩), .int .u8 92] W fun e w' => e = .returned .nilIface ∧ Lib.IsBuilder 46 5 w.heap.size w.heap.size (Lib.byteCells (bs ++ [92])) w' ∧ Below w.heap.size w w' from fun bs W => HW.out bs 92 W)
      have W2 := Lib.hid (fun bs W => HW.out bs c W)
      clear hc
      cases hs : special c with
      | false =>
        have e : quote1 c = [c] := by unfold quote1; rw [hs]; rfl
        rw [e] at NX
        rw [hs] at HX
        clear e hs
        go_wp2_with (first
          | (go_at_call 24; with_reducible refine (HX.out _).mono ?_; rintro e w' ⟨⟨v, rfl, hv⟩, hw⟩; replace hw := hw.symm; subst hw)
          | (go_at_call 25; with_reducible refine (W2.out _ _ (by have := HQ.out; omega) HB.out.1 HB.out.2).mono ?_; rintro e w1 ⟨rfl, h1, h2⟩))
        go_roundg g
        case measure => omega
        case rel => exact ⟨i + 1, by omega, by first | rfl | simp, by rw [NX.out]; exact h1, h2⟩
      | true =>
        have e : quote1 c = [92, c] := by unfold quote1; rw [hs]; rfl
        rw [e] at NX
        rw [hs] at HX
        clear e hs
        go_wp2_with (first
          | (go_at_call 24; with_reducible refine (HX.out _).mono ?_; rintro e w' ⟨⟨v, rfl, hv⟩, hw⟩; replace hw := hw.symm; subst hw)
          | (go_at_call 25; with_reducible refine (W1.out _ _ (by have := HQ.out; omega) HB.out.1 HB.out.2).mono ?_; rintro e w1 ⟨rfl, h1, h2⟩; have K1 := Lib.hid (And.intro h1 h2); clear h1 h2)
          | (go_at_call 25; with_reducible refine (W2.out _ _ (by have := HQ.out; simp; omega) K1.out.1 K1.out.2).mono ?_; rintro e w2 ⟨rfl, h1, h2⟩))
        go_roundg g
        case measure => omega
        case rel => exact ⟨i + 1, by omega, by first | rfl | simp, by rw [NX.out]; simpa using h1, h2⟩

set_option maxHeartbeats 1000000 in
theorem refQuote_any (l : List UInt8) (hl : l.length ≤ 100000) (w : World) : Calls Try.prog 13 #[.string (mkS l)] w fun e w' => e = .returned (.string (mkS (quoteL l))) ∧ Below w.heap.size w w' := by
  have hsz := mkS_size l
  have HI := Lib.hid (fun (i : Nat) (c : UInt8) (h : l[i]? = some c) (w : World) => mkS_index l (i : Int) c (by omega) (by simpa using h) w)
  obtain ⟨L, hL⟩ : ∃ L, l.length = L := ⟨_, rfl⟩
  have HL := Lib.hid hL
  rw [hL] at hsz hl
  clear hL
  go_enter Try.func13, Try.ntmps13
  go_wp2
  go_loopg [3, 7] L (fun g s3 s7 wr => ∃ i : Nat, i + g = L ∧ s7 = .int .i64 (i : Int) ∧ s3 = .string (mkS (quoteL (l.take i))) ∧ wr = w)
  case atStart => exact ⟨0, by omega, rfl, rfl, rfl⟩
  case round =>
    obtain ⟨i, hig, rfl, rfl, hw⟩ := hrel
    replace hw := hw.symm; subst hw
    cases gk with
    | zero =>
      obtain rfl : i = L := by omega
      go_wp2
      go_ret
      exact ⟨by rw [← HL.out, List.take_length]; rfl, Below.refl _ _⟩
    | succ g =>
      have hi : i < L := by omega
      have hiz : (i : Int) < (L : Int) := by omega
      have h9 : (i : Int) + 1 ≤ 9223372036854775807 := by omega
      obtain ⟨c, hc⟩ : ∃ c, l[i]? = some c := ⟨_, List.getElem?_eq_getElem (by rw [HL.out]; exact hi)⟩
      have hidx := HI.out i c hc
      have NX := Lib.hid (quote_take l hc)
      have HX := Lib.hid (index_special c)
      have hq : (quoteL (l.take i)).length ≤ 200000 := by have := quote_take_len l i; have := HL.out; omega
      have hmid := mkS_mid l i (i + 1) (by omega) (by rw [HL.out]; omega)
      have hm1 : (l.drop i).take (i + 1 - i) = [c] := by
        rw [show i + 1 - i = 1 by omega, List.take_one, List.head?_drop, hc]; rfl
      rw [hm1] at hmid
      simp only [Int.natCast_add, Int.natCast_one] at hmid
      cases hs : special c with
      | false =>
        have e : quote1 c = [c] := by unfold quote1; rw [hs]; rfl
        rw [e] at NX
        rw [hs] at HX
        have cat := mkS_cat (quoteL (l.take i)) [c] (by simp; omega)
        clear e hs hm1 hc hq
        generalize quoteL (l.take i) = X at *
        go_wp2_with (go_at_call 24; with_reducible refine (HX.out _).mono ?_; rintro e w' ⟨⟨v, rfl, hv⟩, hw⟩; replace hw := hw.symm; subst hw)
        go_roundg g
        case measure => omega
        case rel => exact ⟨i + 1, by omega, by first | rfl | simp, by rw [NX.out], rfl⟩
      | true =>
        have e : quote1 c = [92, c] := by unfold quote1; rw [hs]; rfl
        rw [e] at NX
        rw [hs] at HX
        have cat0 : ∀ w, (Op.stringOp .add (mkS (quoteL (l.take i))) { data := #[92] }).run Try.prog w = .ok (.string (mkS (quoteL (l.take i) ++ [92]))) w := mkS_cat (quoteL (l.take i)) [92] (by simp; omega)
        have cat := mkS_cat (quoteL (l.take i) ++ [92]) [c] (by simp; omega)
        rw [List.append_assoc] at cat
        clear e hs hm1 hc hq
        have e2 : ([92] : List UInt8) ++ [c] = [92, c] := rfl
        rw [e2] at cat
        clear e2
        generalize hX : quoteL (l.take i) = X at *
        generalize X ++ [92] = Y at *
        generalize hZ : X ++ [92, c] = Z at *
        have HZ := Lib.hid hZ
        clear hX hZ
        go_wp2_with (go_at_call 24; with_reducible refine (HX.out _).mono ?_; rintro e w' ⟨⟨v, rfl, hv⟩, hw⟩; replace hw := hw.symm; subst hw)
        go_roundg g
        case measure => omega
        case rel => exact ⟨i + 1, by omega, by first | rfl | simp, by rw [NX.out], rfl⟩

set_option maxHeartbeats 1000000 in
theorem globQuoted_walk (a0 : ByteArray) (z0 : a0.size ≤ reachBytes) (w : World) :
    Calls Try.prog 4 #[.string a0] w fun e w' => e = .returned (.bool true) ∧ Below w.heap.size w w' := by
  obtain ⟨l, rfl⟩ : ∃ l, a0 = mkS l := ⟨a0.data.toList, (mkS_self a0).symm⟩
  have hsz := mkS_size l
  rw [hsz] at z0
  unfold reachBytes at z0
  by_cases h : l.length ≤ 200
  · have hz : decide ((200 : Int) < ((mkS l).size : Int)) = false := decide_eq_false (by rw [hsz]; omega)
    have Q1 := Lib.hid (fun w => quote_any l (by omega) w)
    have Q2 := Lib.hid (fun w => refQuote_any l (by omega) w)
    clear hsz h z0
    generalize mkS (quoteL l) = Q at *
    generalize mkS l = S at *
    go_enter Try.func4, Try.ntmps4
    go_wp2_with (first
      | (go_at_call 12; with_reducible refine (Q1.out _).mono ?_; rintro e w1 ⟨rfl, hb1⟩)
      | (go_at_call 13; with_reducible refine (Q2.out _).mono ?_; rintro e w2 ⟨rfl, hb2⟩))
    go_ret
    exact ⟨by simp, hb1.trans (hb2.mono hb1.size)⟩
  · have hz : decide ((200 : Int) < ((mkS l).size : Int)) = true := decide_eq_true (by rw [hsz]; omega)
    clear hsz h z0
    generalize mkS l = S at *
    go_enter Try.func4, Try.ntmps4
    go_wp2
    go_ret
    exact ⟨rfl, Below.refl _ _⟩
end Go.Proofs.Ytcdoiadmnckccaa
