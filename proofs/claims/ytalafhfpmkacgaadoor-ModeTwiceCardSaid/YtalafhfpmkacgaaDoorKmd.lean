/- What the keeps of package mode ask first: moded, pick, octal; what Change answers, by cases. -/
import Derived.Test.YtalafhfpmkacgaaDoorChm
import Derived.Test.YtalafhfpmkacgaaDoorPrs
import Derived.Test.YtalafhfpmkacgaaDoorTell
namespace Go.Proofs.YtalafhfpmkacgaaDoor
open Go.RowKit Go.Joins
set_option linter.unusedVariables false
set_option linter.unusedSimpArgs false
set_option maxRecDepth 100000

theorem changeF_cases (m : Int) (l : List UInt8) (dir : Bool) : (∃ k, changeF m l dir = (0, k) ∧ k < 4096) ∨ changeF m l dir = (2, 0) ∨ changeF m l dir = (3, 0) := by
  unfold changeF
  split
  · exact .inr (.inl rfl)
  · split
    · split
      · exact .inl ⟨_, rfl, by omega⟩
      · exact .inr (.inl rfl)
    · cases h : chF dir m.toNat (piecesC l) with
      | none => exact .inr (.inr rfl)
      | some k => exact .inl ⟨k, rfl, chF_lt dir _ _ (by omega) k h⟩
theorem change_ok {m : Int} {l : List UInt8} {dir : Bool} {k : Nat} (h : changeF m l dir = (0, k)) (hl : l.length ≤ 1000000) (w : World) (hA : AtoiLaid w) :
    Calls Tryd.prog 11 #[.int .i64 m, .string (mkS l), .bool dir] w fun e W' => e = .returned (.tuple #[.int .i64 (k : Int), .nilIface]) ∧ Below w.heap.size w W' := by
  have := changeM_any m l hl dir w hA
  rw [h] at this; exact this
theorem change_range {m : Int} {l : List UInt8} {dir : Bool} (h : changeF m l dir = (2, 0)) (hl : l.length ≤ 1000000) (w : World) (hA : AtoiLaid w) :
    Calls Tryd.prog 11 #[.int .i64 m, .string (mkS l), .bool dir] w fun e W' => e = .returned (.tuple #[.int .i64 0, .iface 22 (.int .i64 2)]) ∧ Below w.heap.size w W' := by
  have := changeM_any m l hl dir w hA
  rw [h] at this; exact this
theorem change_form {m : Int} {l : List UInt8} {dir : Bool} (h : changeF m l dir = (3, 0)) (hl : l.length ≤ 1000000) (w : World) (hA : AtoiLaid w) :
    Calls Tryd.prog 11 #[.int .i64 m, .string (mkS l), .bool dir] w fun e W' => e = .returned (.tuple #[.int .i64 0, .iface 22 (.int .i64 3)]) ∧ Below w.heap.size w W' := by
  have := changeM_any m l hl dir w hA
  rw [h] at this; exact this
theorem changeF_parts (m : Nat) (l : List UInt8) (dir : Bool) (hm : m < 4096) (ho : octB l = false) : changeF (m : Int) l dir = match chF dir m (piecesC l) with
    | some k => (0, k)
    | none => (3, 0) := by
  unfold changeF
  rw [if_neg (by omega), if_neg (by rw [ho]; decide)]
  rfl
theorem parse_ok {l : List UInt8} {k : Nat} (h : parsR l = (0, k)) (hl : l.length ≤ 9223372036854775807) (w : World) :
    Calls Tryd.prog 16 #[.string (mkS l)] w fun e w' => e = .returned (.tuple #[.int .i64 (k : Int), .nilIface]) ∧ Below w.heap.size w w' := by
  have := parse_any l hl w
  rw [h] at this; exact this
theorem parse_form {l : List UInt8} (h : parsR l = (3, 0)) (hl : l.length ≤ 9223372036854775807) (w : World) :
    Calls Tryd.prog 16 #[.string (mkS l)] w fun e w' => e = .returned (.tuple #[.int .i64 0, .iface 22 (.int .i64 3)]) ∧ Below w.heap.size w w' := by
  have := parse_any l hl w
  rw [h] at this; exact this

def pickG (a n : Int) : Int := a % 18446744073709551616 % n
theorem pickG_range (a n : Int) (h : 1 ≤ n) : 0 ≤ pickG a n ∧ pickG a n < n := by
  unfold pickG; exact ⟨Int.emod_nonneg _ (by omega), Int.emod_lt_of_pos _ (by omega)⟩
theorem wrap_u64 (a : Int) : IntKind.u64.wrap a = a % 18446744073709551616 := by
  simp only [IntKind.wrap, IntKind.bits, IntKind.signed]; simp
theorem pickg_any (a n : Int) (w : World) (h1 : 1 ≤ n) (h2 : n ≤ 1000000) :
    Calls Tryd.prog 18 #[.int .i64 a, .int .i64 n] w fun e w' => e = .returned (.int .i64 (pickG a n)) ∧ w' = w := by
  have hw := wrap_u64 a
  have hr := pickG_range a n h1
  have hp : a % 18446744073709551616 % n = pickG a n := rfl
  obtain ⟨u, hu, hu0, hu1⟩ : ∃ u, a % 18446744073709551616 = u ∧ 0 ≤ u ∧ u ≤ 18446744073709551615 := ⟨_, rfl, by omega, by omega⟩
  rw [hu] at hw hp
  obtain ⟨hr1, hr2⟩ := hr
  have hn : n ≠ 0 := by omega
  clear hu
  go_enter Tryd.func18, Tryd.ntmps18
  go_wp2
  go_ret
  exact ⟨rfl, rfl⟩
/-- pick, as a number. -/
theorem pick_nat (a : Int) (n : Nat) (h1 : 1 ≤ n) (h2 : n ≤ 1000000) : ∃ k, k < n ∧ ∀ w, Calls Tryd.prog 18 #[.int .i64 a, .int .i64 (n : Int)] w fun e w' => e = .returned (.int .i64 (k : Int)) ∧ w' = w := by
  obtain ⟨p1, p2⟩ := pickG_range a n (by omega)
  obtain ⟨k, hk⟩ := Int.eq_ofNat_of_zero_le p1
  exact ⟨k, by omega, fun w => by rw [← hk]; exact pickg_any a n w (by omega) (by omega)⟩

def exL : List UInt8 := [114, 119, 115, 114, 45, 120, 114, 45, 84]
def exC : List UInt8 := [117, 43, 120, 44, 103, 61, 114, 119, 44, 111, 45, 114]
theorem ex_parse : parsR exL = (0, 3052) := by decide +kernel
theorem ex_text : textL (Nat.testBit 3052) = exL := by decide +kernel
theorem ex_change : changeF 420 exC false = (0, 496) := by decide +kernel
theorem moded_true (w : World) (hA : AtoiLaid w) :
    Calls Tryd.prog 17 #[] w fun e w' => e = .returned (.bool true) ∧ Below w.heap.size w w' := by
  have P := Lib.hid (show ∀ w, Calls Tryd.prog 16 #[.string { data := #[114, 119, 115, 114, 45, 120, 114, 45, 84] }] w fun e w' => e = .returned (.tuple #[.int .i64 3052, .nilIface]) ∧ Below w.heap.size w w' from fun w => parse_ok ex_parse (by decide) w)
  have C := Lib.hid (show ∀ w, AtoiLaid w → Calls Tryd.prog 11 #[.int .i64 420, .string { data := #[117, 43, 120, 44, 103, 61, 114, 119, 44, 111, 45, 114] }, .bool false] w fun e w' => e = .returned (.tuple #[.int .i64 496, .nilIface]) ∧ Below w.heap.size w w' from fun w h => change_ok ex_change (by decide) w h)
  have T := Lib.hid (show ∀ w, Calls Tryd.prog 13 #[.int .i64 3052] w fun e w' => e = .returned (.string { data := #[114, 119, 115, 114, 45, 120, 114, 45, 84] }) ∧ Below w.heap.size w w' from fun w => by
    have := text_any ((3052 : Nat) : Int) w
    rw [bitI_fun, ex_text] at this
    exact this)
  have HA := Lib.hid hA
  clear hA
  go_enter Tryd.func17, Tryd.ntmps17
  go_wp2_with (first
    | (go_at_call 16; with_reducible refine (P.out _).mono ?_; rintro e w1 ⟨rfl, hb1⟩; have B1 := Lib.hid hb1; clear hb1)
    | (go_at_call 11; with_reducible refine (C.out _ (HA.out.below B1.out)).mono ?_; rintro e w2 ⟨rfl, hb2⟩; have B2 := Lib.hid (B1.out.trans (hb2.mono B1.out.size)); clear hb2)
    | (go_at_call 13; with_reducible refine (T.out _).mono ?_; rintro e w3 ⟨rfl, hb3⟩; have B3 := Lib.hid (B2.out.trans (hb3.mono B2.out.size)); clear hb3))
  go_ret
  exact ⟨by first | rfl | simp, B3.out⟩

/-! ### octal -/
theorem byte_oct (W : World) (d : Nat) (hd : d < 8) : (convert 59 9 (.slice (some ⟨W.heap.size, 0, none⟩) 1 1)).run Tryd.prog (W.alloc (.cells #[.int .u8 (48 + (d : Int))] 5)) = .ok (.string (mkS [UInt8.ofNat (48 + d)])) (W.alloc (.cells #[.int .u8 (48 + (d : Int))] 5)) := by
  have h := byte_one W (UInt8.ofNat (48 + d))
  have e : ((UInt8.ofNat (48 + d)).toNat : Int) = 48 + (d : Int) := by rw [UInt8.toNat_ofNat', Nat.mod_eq_of_lt (by omega)]; omega
  rw [e] at h
  exact h
/-- What has been written, and what is left. -/
def OcI (m n : Nat) (T : List UInt8) : Prop := (∀ c ∈ T, 48 ≤ c.toNat ∧ c.toNat ≤ 55) ∧ octV 0 T + n * 8 ^ T.length = m ∧ T.length ≤ 4
theorem oc_step {m n : Nat} {T : List UInt8} (hm : m < 4096) (h : OcI m n T) (hn : 0 < n ∨ T = []) : OcI m (n / 8) (UInt8.ofNat (48 + n % 8) :: T) := by
  obtain ⟨h1, h2, h3⟩ := h
  have hc : (UInt8.ofNat (48 + n % 8)).toNat = 48 + n % 8 := by rw [UInt8.toNat_ofNat', Nat.mod_eq_of_lt (by omega)]
  refine ⟨fun c hcm => ?_, ?_, ?_⟩
  · rcases List.mem_cons.1 hcm with e | hcm
    · rw [e, hc]; omega
    · exact h1 c hcm
  · rw [octV_cons, octV_shift]
    unfold ovS
    rw [hc, List.length_cons, Nat.pow_succ', ← h2]
    have e2 : n * 8 ^ T.length = (n % 8) * 8 ^ T.length + n / 8 * (8 * 8 ^ T.length) := by
      rw [← Nat.mul_assoc, ← Nat.add_mul]
      congr 1
      omega
    rw [e2]
    have e3 : 0 * 8 + (48 + n % 8 - 48) = n % 8 := by omega
    rw [e3]
    omega
  · rw [List.length_cons]
    by_cases h4 : T.length = 4
    · exfalso
      rcases hn with hn | hn
      · rw [h4] at h2
        have : (8 : Nat) ^ 4 = 4096 := by decide
        rw [this] at h2
        omega
      · rw [hn] at h4; cases h4
    · omega
def leftO (n : Nat) (T : List UInt8) : Nat := n + (if T = [] then 1 else 0)

set_option maxHeartbeats 2000000 in
theorem octalK_any (m : Nat) (hm : m < 4096) (w : World) :
    Calls Tryd.prog 19 #[.int .i64 (m : Int)] w fun e w' => (∃ T, e = .returned (.string (mkS T)) ∧ OcI m 0 T ∧ T ≠ []) ∧ Below w.heap.size w w' := by
  have HC := Lib.hid (show ∀ (b : UInt8) (T : List UInt8), T.length ≤ 20 → ∀ w, (Op.stringOp .add (mkS [b]) (mkS T)).run Tryd.prog w = .ok (.string (mkS (b :: T))) w from fun b T hT w => mkS_cat [b] T (by simp; omega) w)
  go_enter Tryd.func19, Tryd.ntmps19
  go_wp2
  go_loopg [0, 3] (m + 1) (fun g s0 s3 wr => ∃ (n : Nat) (T : List UInt8), s0 = .int .i64 n ∧ s3 = .string (mkS T) ∧ n ≤ m ∧ leftO n T ≤ g ∧ Aside (OcI m n T ∧ Below w.heap.size w wr))
  case atStart => exact ⟨m, [], rfl, rfl, Nat.le_refl _, by simp [leftO], ⟨fun c hc => by simp at hc, by simp [octV_nil], by simp⟩, Below.refl _ _⟩
  case round =>
    obtain ⟨n, T, rfl, rfl, hn, hg, A⟩ := hrel
    have hT := A.out.1.2.2
    have eT := decide (T = [])
    have e0 : (mkS T).toList.isEmpty = decide (T = []) := by
      cases T with
      | nil => rw [mkS_emp_nil]; rfl
      | cons c r => rw [mkS_emp _ (by simp)]; rfl
    by_cases hgo : 0 < n ∨ T = []
    · obtain ⟨d, hd⟩ : ∃ d, n % 8 = d := ⟨_, rfl⟩
      have hd7 : d < 8 := by omega
      have E1 : (n : Int) % 8 = (d : Int) := by omega
      have E2 : (n : Int).tmod 8 = (d : Int) := by rw [Int.tmod_eq_emod_of_nonneg (by omega)]; exact E1
      obtain ⟨q, hq⟩ : ∃ q, n / 8 = q := ⟨_, rfl⟩
      have E3 : (n : Int) / 8 = (q : Int) := by omega
      have E4 : (n : Int).tdiv 8 = (q : Int) := by rw [Int.tdiv_eq_ediv_of_nonneg (by omega)]; exact E3
      have CV := fun W => byte_oct W d hd7
      obtain ⟨c, hc⟩ : ∃ c, UInt8.ofNat (48 + d) = c := ⟨_, rfl⟩
      rw [hc] at CV
      have C := HC.out c T (by omega)
      have HN := Lib.hid (show OcI m q (c :: T) ∧ Below w.heap.size w (wr.alloc (.cells #[.int .u8 (48 + (d : Int))] 5)) from by
        refine ⟨?_, A.out.2.trans ((below_alloc1 wr _).mono A.out.2.size)⟩
        rw [← hc, ← hq, ← hd]; exact oc_step hm A.out.1 hgo)
      have hlt : leftO q (c :: T) < leftO n T := by
        unfold leftO
        rw [if_neg (by simp)]
        rcases hgo with h | h
        · split <;> omega
        · rw [if_pos h]; omega
      have hqn : q ≤ m := by omega
      have HL := Lib.hid (And.intro hg hlt)
      clear A hd hc hg hq hlt
      cases hb : decide (T = [])
      · have h0 : (0 : Int) < (n : Int) := by
          rcases hgo with h | h
          · omega
          · exact absurd h (of_decide_eq_false hb)
        rw [hb] at e0
        clear hgo hb
        go_wp2
        go_roundg (leftO q (c :: T))
        case measure => exact Nat.lt_of_lt_of_le HL.out.2 HL.out.1
        case rel => exact ⟨q, c :: T, by first | rfl | simp, rfl, hqn, Nat.le_refl _, HN.out⟩
      · rw [hb] at e0
        clear hgo hb
        by_cases h0 : (0 : Int) < (n : Int)
        · go_wp2
          go_roundg (leftO q (c :: T))
          case measure => exact Nat.lt_of_lt_of_le HL.out.2 HL.out.1
          case rel => exact ⟨q, c :: T, by first | rfl | simp, rfl, hqn, Nat.le_refl _, HN.out⟩
        · obtain rfl : n = 0 := by omega
          obtain rfl : d = 0 := by omega
          obtain rfl : q = 0 := by omega
          have CV0 : ∀ W : World, (convert 59 9 (.slice (some ⟨W.heap.size, 0, none⟩) 1 1)).run Tryd.prog (W.alloc (.cells #[.int .u8 48] 5)) = .ok (.string (mkS [c])) (W.alloc (.cells #[.int .u8 48] 5)) := CV
          have HN0 := Lib.hid (show OcI m 0 (c :: T) ∧ Below w.heap.size w (wr.alloc (.cells #[.int .u8 48] 5)) from HN.out)
          clear CV E1 E2 E3 E4 HN
          go_wp2
          go_roundg (leftO 0 (c :: T))
          case measure => exact Nat.lt_of_lt_of_le HL.out.2 HL.out.1
          case rel => exact ⟨0, c :: T, by first | rfl | simp, rfl, hqn, Nat.le_refl _, HN0.out⟩
    · have h0 : ¬ (0 : Int) < (n : Int) := fun h => hgo (.inl (by omega))
      have hTn : T ≠ [] := fun h => hgo (.inr h)
      rw [decide_eq_false hTn] at e0
      have HE := Lib.hid (show (OcI m 0 T ∧ T ≠ []) ∧ Below w.heap.size w wr from by
        have hz : n = 0 := by omega
        have := A.out
        rw [hz] at this
        exact ⟨⟨this.1, hTn⟩, this.2⟩)
      clear A hgo hTn
      go_wp2
      go_ret
      exact ⟨⟨T, rfl, HE.out.1⟩, HE.out.2⟩
theorem oc_octal {m : Nat} {T : List UInt8} (hm : m < 4096) (h : OcI m 0 T) (hT : T ≠ []) (dir : Bool) (a : Nat) (ha : a < 4096) : changeF (a : Int) T dir = (0, m) := by
  obtain ⟨h1, h2, h3⟩ := h
  have hv : octV 0 T = m := by omega
  have ho : octB T = true := by
    unfold octB
    rw [decide_eq_false hT, decide_eq_true ((restS_nil octS T).2 fun c hc => (oct_mem c).2 (h1 c hc))]; rfl
  unfold changeF
  rw [if_neg (by omega), if_pos ho, hv, if_pos (by omega)]
end Go.Proofs.YtalafhfpmkacgaaDoor
