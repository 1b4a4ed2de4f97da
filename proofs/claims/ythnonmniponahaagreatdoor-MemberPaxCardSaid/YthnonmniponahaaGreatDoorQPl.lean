/- Pl: what the texts of the name hold, joined. -/
import Derived.Test.YthnonmniponahaaGreatDoorQWh
import Derived.Test.YthnonmniponahaaGreatDoorQHw
import Derived.Test.YthnonmniponahaaGreatDoorQHo
import Derived.Test.YthnonmniponahaaGreatDoorQPb
import Derived.Sort.LoopGhostIn
import Derived.Shelf.Strings.BuilderK
import Derived.Deep.DeepCutAuto
set_option linter.unusedSimpArgs false
set_option linter.unusedVariables false
section
/- A strings.Builder as a list of bytes; member.octal and pieceList. -/
namespace Go.Proofs.YthnonmniponahaaGreatDoor
open Go.RowKit Go.Joins
set_option linter.unusedVariables false
set_option linter.unusedSimpArgs false

/-! ### A builder -/
/-- At b a builder holds these bytes. -/
def Bd (B b : Nat) (l : List UInt8) (w : World) : Prop := Lib.IsBuilderF 144 5 B b (Lib.byteCells l) w
/-- All but a builder's own cells stands. -/
abbrev Kp (b : Nat) (w w' : World) : Prop := Lib.OthersKept 5 (some b) w w'
theorem bd_new (w : World) : Bd w.heap.size w.heap.size [] (w.alloc (.cells #[.pointer none, .slice none 0 0] 144)) := .of (Lib.fresh_isBuilder 144 5 w)
theorem bd_below {B b : Nat} {l : List UInt8} {w w' : World} (h : Bd B b l w) (hb : Below w.heap.size w w') : Bd B b l w' := by
  have row : ∀ {v : Value} {n : Nat} {xs : List Value}, w.ownsRowF B 5 1 v n xs → w'.ownsRowF B 5 1 v n xs := fun {v n xs} hr => by
    refine ⟨hr.1, ?_⟩
    rcases hr.2 with h0 | ⟨g, cap, cur, fz, h1, h2, h3, h4⟩
    · exact Or.inl h0
    · exact Or.inr ⟨g, cap, cur, fz, h1, h2, (hb.block g (Array.getElem?_eq_some_iff.1 h3).1).trans h3, h4⟩
  rcases h with ⟨h1, v, h2, h3, h4⟩ | ⟨h1, v, h2, h3, h4⟩
  · exact Or.inl ⟨h1, v, (hb.block _ (Array.getElem?_eq_some_iff.1 h2).1).trans h2, row h3, h4⟩
  · exact Or.inr ⟨h1, v, (hb.block _ (Array.getElem?_eq_some_iff.1 h2).1).trans h2, row h3, h4⟩
theorem bd_write (B b : Nat) (l s : List UInt8) (w : World) (h : Bd B b l w) (hl : l.length + s.length ≤ 1000000) (hB : B ≤ w.heap.size) :
    Calls Tryz.prog 92 #[.pointer (some ⟨b, 0, none⟩), .string (mkS s)] w fun e w' => e = .returned (.tuple #[.int .i64 (s.length : Int), .nilIface]) ∧ Bd B b (l ++ s) w' ∧ Below B w w' ∧ Kp b w w' := by
  refine (Any.Builder_WriteString_k bld166 Tryz.Builder_Extra_105 B b _ (mkS s) w h (by rw [Lib.byteCells_length, mkS_size]; omega) hB).mono fun e w' ⟨h5, h6, h7, h8⟩ => ⟨by rw [h5, mkS_size], Or.inr ?_, h7, h8⟩
  have hc : Lib.byteCells l ++ Lib.strCells (mkS s) = Lib.byteCells (l ++ s) := by
    unfold Lib.strCells Lib.byteCells; rw [mkS_list, List.map_append]
  rw [hc] at h6
  exact h6
theorem bd_byte (B b : Nat) (l : List UInt8) (c : UInt8) (w : World) (h : Bd B b l w) (hl : l.length + 1 ≤ 1000000) (hB : B ≤ w.heap.size) :
    Calls Tryz.prog 178 #[.pointer (some ⟨b, 0, none⟩), .int .u8 (c.toNat : Int)] w fun e w' => e = .returned .nilIface ∧ Bd B b (l ++ [c]) w' ∧ Below B w w' ∧ Kp b w w' := by
  refine (Any.Builder_WriteByte_k bld167 bldX B b _ (c.toNat : Int) w h (by rw [Lib.byteCells_length]; omega) hB).mono fun e w' ⟨h5, h6, h7, h8⟩ => ⟨h5, Or.inr ?_, h7, h8⟩
  have hc : Lib.byteCells l ++ [Value.int .u8 (c.toNat : Int)] = Lib.byteCells (l ++ [c]) := by
    unfold Lib.byteCells; rw [List.map_append]; rfl
  rw [hc] at h6
  exact h6
theorem bd_byteI (B b : Nat) (l : List UInt8) (c : UInt8) (D : Int) (hD : D = (c.toNat : Int)) (w : World) (h : Bd B b l w) (hl : l.length + 1 ≤ 1000000) (hB : B ≤ w.heap.size) :
    Calls Tryz.prog 178 #[.pointer (some ⟨b, 0, none⟩), .int .u8 D] w fun e w' => e = .returned .nilIface ∧ Bd B b (l ++ [c]) w' ∧ Below B w w' ∧ Kp b w w' := by
  subst hD
  exact bd_byte B b l c w h hl hB
theorem bd_string (B b : Nat) (l : List UInt8) (w : World) (h : Bd B b l w) (hB : B ≤ w.heap.size) :
    Calls Tryz.prog 97 #[.pointer (some ⟨b, 0, none⟩)] w fun e w' => e = .returned (.string (mkS l)) ∧ Below B w w' :=
  (Any.Builder_String_any_f Tryz.lays169 Tryz.Builder_Extra_169 B b l w h hB).mono fun e w' h => ⟨h.1, by first | exact h.2 | exact h.2.1 | exact h.2.2⟩
theorem Kp.row {b k : Nat} {w w' : World} {cs : Array Value} {t : TypeId} {fr : Nat × Nat} (h : Kp b w w') (hk : w.heap[k]? = some (.cells cs t fr)) (hb : k ≠ b) (ht : t ≠ 5) : w'.heap[k]? = some (.cells cs t fr) :=
  h k _ hk (fun e => hb (Option.some.inj e)) (fun c fz e => ht (by injection e))

/-! ### octal -/
theorem octL_str (n : Int) : strOfNums (octNums n 12) = mkS (octL n) := by
  rw [← mkS_self (strOfNums (octNums n 12)), strOf_list]; rfl
theorem octL_length (n : Int) : (octL n).length = 12 := by
  unfold octL
  rw [List.length_map, octNums_length n 12 (by omega)]
theorem most12 : mostF ((12 : Nat) : Int) = 8589934591 := by decide
theorem octal_mem (n : Int) (h0 : 0 ≤ n) (h1 : n ≤ 8589934591) (w : World) :
    Calls Tryz.prog 175 #[.int .i64 n] w fun e w' => e = .returned (.string (mkS (octL n))) ∧ Below w.heap.size w w' := by
  have C := Lib.hid (fun w => show Calls Tryz.prog 238 #[.int .i64 n, .int .i64 12] w fun e w' => e = .returned (.tuple #[.string (mkS (octL n)), .nilIface]) ∧ Below w.heap.size w w' by
    rw [← octL_str]; exact octal_ok n 12 w (by omega) (by omega) h0 (by rw [most12]; exact h1))
  go_enter Tryz.func175, Tryz.ntmps175
  go_wp2_with (go_at_call 238; (with_reducible refine (C.out _).mono ?_); rintro e w2 ⟨rfl, h2⟩)
  go_ret
  exact ⟨rfl, h2⟩

/-! ### Parts of a slice of pieces -/
theorem addr_zero (a : Addr) : a.add 0 = a := by unfold Addr.add; rw [if_pos rfl]
theorem piecesAt_drop {W : World} {b off : Nat} {l : List Pc} (n : Nat) (h : PiecesAt W (some ⟨b, off, none⟩) l) : PiecesAt W (some ⟨b, off + n * 2, none⟩) (l.drop n) := fun j p hj => by
  rw [List.getElem?_drop] at hj
  obtain ⟨b', o', e, h1, h2, h3⟩ := h (n + j) p hj
  cases e
  refine ⟨b, off + n * 2, rfl, h1, ?_, ?_⟩
  · rw [show off + n * 2 + j * 2 = off + (n + j) * 2 by omega]; exact h2
  · rw [show off + n * 2 + j * 2 = off + (n + j) * 2 by omega]; exact h3
/-- l[:n], as a value. -/
theorem pieces_to (ad : Option Addr) (len cap n : Nat) (hc : n ≤ cap) (w : World) : (Instr.slice 26 (.slice ad len cap) none (some (.int .i64 (n : Int))) none).run Tryz.prog w = .ok (.slice ad n cap) w := by
  have ht : Tryz.prog.underlying 26 = some (.slice (Tryz.prog.elem 26)) := by kernel_rfl
  have hsz : (Go.sizeOf (Tryz.prog.elem 26)).run Tryz.prog w = .ok 2 w := by kernel_rfl
  rw [run_slice_h (w := w) 26 ad len cap ht .i64 n (by omega) (by omega), hsz]
  simp only [Result.andThen, sliced, Nat.zero_mul, Int.toNat_natCast, Nat.sub_zero]
  have e : (if cap = 0 then ad else Option.map (fun x => x.add 0) ad) = ad := by
    split
    · rfl
    · cases ad with
      | none => rfl
      | some a => rw [Option.map_some, addr_zero]
  rw [e]
/-- l[n:], as a value. -/
theorem pieces_on (ad : Option Addr) (l : List Pc) (cap n : Nat) (hn : n ≤ l.length) (hc : l.length ≤ cap) : ∃ ad2 c2, (∀ w, (Instr.slice 26 (.slice ad l.length cap) (some (.int .i64 (n : Int))) none none).run Tryz.prog w = .ok (.slice ad2 (l.drop n).length c2) w) ∧ (∀ W, PiecesAt W ad l → PiecesAt W ad2 (l.drop n)) ∧ (l.drop n).length ≤ c2 ∧ c2 ≤ cap := by
  have ht : Tryz.prog.underlying 26 = some (.slice (Tryz.prog.elem 26)) := by kernel_rfl
  have hsz : ∀ w, (Go.sizeOf (Tryz.prog.elem 26)).run Tryz.prog w = .ok 2 w := fun w => by kernel_rfl
  have hd : (l.drop n).length = l.length - n := List.length_drop ..
  refine ⟨if cap = n then ad else ad.map (·.add (n * 2)), cap - n, fun w => ?_, fun W h => ?_, by omega, by omega⟩
  · rw [run_slice_l (w := w) 26 ad l.length cap ht .i64 n (by omega) (by omega), hsz]
    simp only [Result.andThen, sliced, Int.toNat_natCast, hd]
  · rcases h.cases with rfl | ⟨b, off, rfl, hlt, hR⟩
    · rw [List.drop_nil]
      exact fun i p hi => by simp at hi
    · by_cases he : cap = n
      · rw [List.drop_eq_nil_of_le (by omega)]
        exact fun i p hi => by simp at hi
      · rw [if_neg he]
        show PiecesAt W (some ((⟨b, off, none⟩ : Addr).add (n * 2))) _
        rw [Go.WideShapes.add_plain]
        exact piecesAt_drop n h

/-! ### pieceList -/
theorem pcsL_len (l : List Pc) : (pcsL l).length = 24 * l.length := by
  unfold pcsL
  induction l with
  | nil => rfl
  | cons p l ih => rw [List.flatMap_cons, List.length_append, ih, List.length_append, octL_length, octL_length, List.length_cons]; omega
theorem pcsL_take {l : List Pc} {i : Nat} {p : Pc} (h : l[i]? = some p) : pcsL (l.take (i + 1)) = pcsL (l.take i) ++ octL p.1 ++ octL p.2 := by
  unfold pcsL
  rw [List.take_add_one, h, List.flatMap_append]
  simp
/-- The worlds in which a builder stands with its bytes: the class of a drawn region that takes its text. -/
structure BdW (B b : Nat) (l : List UInt8) (w0 : World) where
  v : World
  lo : Below w0.heap.size w0 v
  hi : Bd B b l v
theorem bd_stringW {B b : Nat} {l : List UInt8} {w0 : World} (hB : B = w0.heap.size) (p : BdW B b l w0) :
    Calls Tryz.prog 97 #[.pointer (some ⟨b, 0, none⟩)] p.v fun e w' => e = .returned (.string (mkS l)) ∧ ∃ q : BdW B b l w0, w' = q.v :=
  (Any.Builder_String_any_f Tryz.lays169 Tryz.Builder_Extra_169 B b l p.v p.hi (by subst hB; exact p.lo.size)).mono fun e w' h => ⟨h.1, ⟨⟨w', p.lo.trans (by subst hB; exact h.2.2), h.2.1⟩, rfl⟩⟩
theorem region_bd {id : Nat} {Q : Exit → Act → World → Prop} {a : Act} {w : World} {os : List Oper} (B b : Nat) (l : List UInt8) (w0 : World) (h1 : Below w0.heap.size w0 w) (h2 : Bd B b l w) (hB : Region.lexB .any os.toArray = true)
    (h : ∀ _ : Nonempty (BdW B b l w0), wpQuiet Tryz.prog os.toArray (fun w' => ∃ p : BdW B b l w0, w' = p.v) (fun a' => ∀ w', (∃ p : BdW B b l w0, w' = p.v) → Q .normal a' w') os a) : (Code.region id os.toArray true).wp Tryz.prog Q a w := by
  have e : Sort.grow (redrawn w (w.drawn + 1)) #[] = { w with drawn := w.drawn + 1 } := by rw [Sort.grow_empty]; rfl
  have b1 : Below w.heap.size w { w with drawn := w.drawn + 1 } := e ▸ below_regrown w (w.drawn + 1) #[]
  have c : BdW B b l w0 := ⟨{ w with drawn := w.drawn + 1 }, h1.trans (b1.mono h1.size), bd_below h2 b1⟩
  exact wp_region_quiet (C := fun w' => ∃ p : BdW B b l w0, w' = p.v) (by kernel_rfl) hB ⟨⟨{ w with drawn := w.drawn + 1 }, h1.trans (b1.mono h1.size), bd_below h2 b1⟩, rfl⟩ (by simpa using h ⟨c⟩)
/-- The numbers fit. -/
def Octs (l : List Pc) : Prop := ∀ p ∈ l, (0 ≤ p.1 ∧ p.1 ≤ 8589934591) ∧ (0 ≤ p.2 ∧ p.2 ≤ 8589934591)
set_option maxRecDepth 100000 in
set_option maxHeartbeats 8000000 in
theorem pieceList_any (ad : Option Addr) (cap : Nat) (l : List Pc) (most : Nat) (hm : most ≤ 40) (hl : l.length ≤ 1000) (hc : l.length ≤ cap) (ho : Octs l) (w : World) (hM : PiecesAt w ad l) :
    Calls Tryz.prog 173 #[.slice ad l.length cap, .int .i64 (most : Int)] w fun e w' =>
      (∃ ad2 c2, e = .returned (.tuple #[.string (mkS (listF l most)), .slice ad2 (l.drop most).length c2]) ∧ PiecesAt w' ad2 (l.drop most) ∧ (l.drop most).length ≤ c2) ∧ Below w.heap.size w w' := by
  obtain ⟨n, hn⟩ : ∃ n : Nat, min most l.length = n := ⟨_, rfl⟩
  have hnm : min (most : Int) (l.length : Int) = (n : Int) := by omega
  have hn1 : n ≤ l.length := by omega
  have hn2 : n ≤ most := by omega
  have hlf : listF l most = pcsL (l.take n) ++ List.replicate ((most - n) * 24) 0 ++ [if n < l.length then 1 else 0] := by
    unfold listF
    rw [hn, ← List.append_assoc, show l.take n = l.take most by rw [← hn, List.take_eq_take_iff]; omega]
    congr 2
    by_cases h : most < l.length
    · rw [if_pos h, if_pos (by omega)]
    · rw [if_neg h, if_neg (by omega)]
  have hdr : l.drop most = l.drop n := by
    by_cases h : most < l.length
    · rw [show n = most by omega]
    · rw [List.drop_eq_nil_of_le (by omega), List.drop_eq_nil_of_le (by omega)]
  rw [hdr]
  generalize listF l most = F at *
  obtain ⟨ad2, c2, hs2, hM2, hc2, _⟩ := pieces_on ad l cap n hn1 hc
  have hs1 := pieces_to ad l.length cap n (by omega)
  have hF := bd_new w
  have hb0 := below_alloc1 w (.cells #[.pointer none, .slice none 0 0] 144)
  have HF := Lib.hid (And.intro hb0 hF)
  have HM := Lib.hid (fun W (h : Below w.heap.size w W) => hM.below h)
  have HO := Lib.hid ho
  have HX := Lib.hid (And.intro hM2 hc2)
  have HLF := Lib.hid hlf
  have HS2 := Lib.hid hs2
  clear hlf hdr hM ho hM2 hc2 hF hb0 hn hs2
  have hp := fun i => pcsL_len (l.take i)
  have HP := Lib.hid hp
  clear hp
  go_enter Tryz.func173, Tryz.ntmps173
  go_wp2_with fail
  go_loopg [19] n (fun g s19 wr => ∃ i : Nat, i ≤ n ∧ n - i ≤ g ∧ s19 = .int .i64 (i : Int) ∧ Aside (Below w.heap.size w wr ∧ Bd w.heap.size w.heap.size (pcsL (l.take i)) wr))
  case atStart => exact ⟨0, by omega, by omega, rfl, HF.out⟩
  case round =>
    obtain ⟨i, hi, hg, rfl, A⟩ := hrel
    by_cases hin : i < n
    · obtain ⟨p, hp⟩ : ∃ p, l[i]? = some p := ⟨_, List.getElem?_eq_getElem (by omega)⟩
      obtain ⟨b, off, rfl, hlt, c1, c2'⟩ := HM.out wr A.out.1 i p hp
      obtain ⟨⟨z1, z2⟩, z3, z4⟩ := HO.out p (List.mem_of_getElem? hp)
      have O1 := Lib.hid (fun w => octal_mem p.1 z1 z2 w)
      have O2 := Lib.hid (fun w => octal_mem p.2 z3 z4 w)
      have HT := Lib.hid (pcsL_take hp)
      have hix := fun W => idx_piece W b off n cap i hin
      have hl1 := HP.out i
      rw [List.length_take, Nat.min_eq_left (by omega)] at hl1
      have l1 := octL_length p.1
      have l2 := octL_length p.2
      have hbn := (A.out.1.alloc A.out.1.size (.cells #[.int .i64 p.1, .int .i64 p.2] 97))
      have hfn := bd_below A.out.2 (below_alloc1 wr (.cells #[.int .i64 p.1, .int .i64 p.2] 97))
      have A1 := Lib.hid (And.intro hbn hfn)
      have hrs := Lib.hid (show w.heap.size < wr.heap.size from by rcases A.out.2 with ⟨_, _, h, _⟩ | ⟨_, _, h, _⟩ <;> exact (Array.getElem?_eq_some_iff.1 h).1)
      clear hbn hfn hp z1 z2 z3 z4 A hs1 HS2 HLF
      have hlL : (pcsL (l.take i)).length ≤ 24000 := by omega
      generalize pcsL (l.take i) = L at *
      generalize octL p.1 = X at *
      generalize octL p.2 = Y at *
      have hW : (wr.alloc (.cells #[.int .i64 p.1, .int .i64 p.2] 97)).heap[wr.heap.size]? = some (.cells #[.int .i64 p.1, .int .i64 p.2] 97 (0, 0)) := heap_alloc_new wr _
      have HW := Lib.hid hW
      clear hW
      go_wp2_with (first
        | (go_at_call 175; (with_reducible refine (O1.out _).mono ?_); rintro e w2 ⟨rfl, h2⟩; have hB2 := Lib.hid (A1.out.1.trans (h2.mono A1.out.1.size)); have hD2 := Lib.hid (bd_below A1.out.2 h2); have hR2 := Lib.hid ((h2.block _ (Array.getElem?_eq_some_iff.1 HW.out).1).trans HW.out); clear h2)
        | (go_at_call 92; (with_reducible refine (bd_write w.heap.size w.heap.size L X _ hD2.out (by omega) hB2.out.size).mono ?_); rintro e w3 ⟨rfl, h3, h4, hk3⟩; have hB3 := Lib.hid (hB2.out.trans h4); have hD3 := Lib.hid h3; have k1 := row_cell (hk3.row hR2.out (by have := A1.out.1.size; have := hrs.out; omega) (by decide)) 1 _ rfl; clear h3 h4 hk3)
        | (go_at_call 175; (with_reducible refine (O2.out _).mono ?_); rintro e w4 ⟨rfl, h5⟩; have hB4 := Lib.hid (hB3.out.trans (h5.mono hB3.out.size)); have hD4 := Lib.hid (bd_below hD3.out h5); clear h5)
        | (go_at_call 92; (with_reducible refine (bd_write w.heap.size w.heap.size (L ++ X) Y _ hD4.out (by rw [List.length_append]; omega) hB4.out.size).mono ?_); rintro e w5 ⟨rfl, h6, h7, h8⟩; have hB5 := Lib.hid (hB4.out.trans h7); have hD5 := Lib.hid h6; clear h6 h7 h8)
        | fail)
      go_roundg (n - (i + 1))
      case measure => omega
      case rel => exact ⟨i + 1, by omega, by omega, by first | rfl | simp, (show Aside _ from ⟨hB5.out, by rw [HT.out]; exact hD5.out⟩)⟩
    · obtain rfl : i = n := by omega
      have hl1 := HP.out i
      rw [List.length_take, Nat.min_eq_left (by omega)] at hl1
      obtain ⟨m, hm2⟩ : ∃ m : Nat, most = i + m := ⟨most - i, by omega⟩
      subst hm2
      have hm3 : ((((i + m : Nat) : Int) - (i : Int)) * 24) = ((m * 24 : Nat) : Int) := by omega
      have RP := Lib.hid (fun w => show Calls Tryz.prog 121 #[.string ⟨#[0]⟩, .int .i64 (((i : Int) + (m : Int) - (i : Int)) * 24)] w fun e w' => e = .returned (.string (mkS (List.replicate (m * 24) 0))) ∧ Below w.heap.size w w' by
        have h := rep_zero (m * 24) w (by omega)
        rwa [show (((m * 24 : Nat) : Int)) = ((i : Int) + (m : Int) - (i : Int)) * 24 by omega] at h)
      have hlf := HLF.out
      rw [show (i + m - i) * 24 = m * 24 by omega] at hlf
      have hm4 : ((i + m : Nat) : Int) = (i : Int) + (m : Int) := by omega
      have hlr : (List.replicate (m * 24) (0 : UInt8)).length = m * 24 := List.length_replicate ..
      have hlL : (pcsL (l.take i)).length ≤ 24000 := by omega
      have A1 := A
      clear A hm3 HO HP HF HLF
      generalize pcsL (l.take i) = L at *
      generalize List.replicate (m * 24) (0 : UInt8) = Z at *
      have hmb : m ≤ 40 := by omega
      by_cases hlt : (i : Int) < (l.length : Int)
      · rw [if_pos (by omega : i < l.length)] at hlf
        have HLF := Lib.hid hlf
        clear hlf
        go_wp2_with (first
          | (go_at_call 121; (with_reducible refine (RP.out _).mono ?_); rintro e w2 ⟨rfl, h2⟩; have hB2 := Lib.hid (A1.out.1.trans (h2.mono A1.out.1.size)); have hD2 := Lib.hid (bd_below A1.out.2 h2); clear h2)
          | (go_at_call 92; (with_reducible refine (bd_write w.heap.size w.heap.size L Z _ hD2.out (by omega) hB2.out.size).mono ?_); rintro e w3 ⟨rfl, h3, h4, _⟩; have hB3 := Lib.hid (hB2.out.trans h4); have hD3 := Lib.hid h3; clear h3 h4)
          | (go_at_call 178; (with_reducible refine (bd_byteI w.heap.size w.heap.size (L ++ Z) 1 1 (by decide) _ hD3.out (by rw [List.length_append]; omega) hB3.out.size).mono ?_); rintro e w4 ⟨rfl, h3, h4, _⟩; have hB4 := Lib.hid (hB3.out.trans h4); have hD4 := Lib.hid h3; clear h3 h4)
          | fail)
        refine region_bd w.heap.size w.heap.size (L ++ Z ++ [1]) w hB4.out hD4.out (by kernel_rfl) (fun hne => ?_)
        have hs2 := HS2.out
        repeat (go_big_quiet_step (first | (go_at_call 97; with_reducible exact bd_stringW rfl _) | rfl))
        refine wpQuiet_nil ?_
        rintro W ⟨⟨_, hw1, _⟩, rfl⟩
        have HM2 := Lib.hid (HX.out.1 W (HM.out W hw1))
        have HW := Lib.hid hw1
        clear hw1
        try dsimp only at *
        go_wp2_with fail
        try go_ret2
        exact ⟨⟨ad2, c2, by rw [HLF.out, List.length_drop]; rfl, HM2.out, HX.out.2⟩, HW.out⟩
      · rw [if_neg (by omega : ¬ i < l.length)] at hlf
        have HLF := Lib.hid hlf
        clear hlf
        go_wp2_with (first
          | (go_at_call 121; (with_reducible refine (RP.out _).mono ?_); rintro e w2 ⟨rfl, h2⟩; have hB2 := Lib.hid (A1.out.1.trans (h2.mono A1.out.1.size)); have hD2 := Lib.hid (bd_below A1.out.2 h2); clear h2)
          | (go_at_call 92; (with_reducible refine (bd_write w.heap.size w.heap.size L Z _ hD2.out (by omega) hB2.out.size).mono ?_); rintro e w3 ⟨rfl, h3, h4, _⟩; have hB3 := Lib.hid (hB2.out.trans h4); have hD3 := Lib.hid h3; clear h3 h4)
          | (go_at_call 178; (with_reducible refine (bd_byteI w.heap.size w.heap.size (L ++ Z) 0 0 (by decide) _ hD3.out (by rw [List.length_append]; omega) hB3.out.size).mono ?_); rintro e w4 ⟨rfl, h3, h4, _⟩; have hB4 := Lib.hid (hB3.out.trans h4); have hD4 := Lib.hid h3; clear h3 h4)
          | fail)
        refine region_bd w.heap.size w.heap.size (L ++ Z ++ [0]) w hB4.out hD4.out (by kernel_rfl) (fun hne => ?_)
        have hs2 := HS2.out
        repeat (go_big_quiet_step (first | (go_at_call 97; with_reducible exact bd_stringW rfl _) | rfl))
        refine wpQuiet_nil ?_
        rintro W ⟨⟨_, hw1, _⟩, rfl⟩
        have HM2 := Lib.hid (HX.out.1 W (HM.out W hw1))
        have HW := Lib.hid hw1
        clear hw1
        try dsimp only at *
        go_wp2_with fail
        try go_ret2
        exact ⟨⟨ad2, c2, by rw [HLF.out, List.length_drop]; rfl, HM2.out, HX.out.2⟩, HW.out⟩
end Go.Proofs.YthnonmniponahaaGreatDoor
end
