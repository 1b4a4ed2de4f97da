/- Modes as numbers below 4096; their letters, the parts of a change, the changes, as lists of bytes: no run in it. -/
import Derived.Test.YtalafhfpmkacgaaDoorMk
import Derived.Laws.BitsLemmas
namespace Go.Proofs.YtalafhfpmkacgaaDoor
open Go.RowKit Go.Joins
set_option linter.unusedVariables false
set_option linter.unusedSimpArgs false

/-! ### Operators on bits -/
/-- What a has and b has not. -/
def less (a b : Nat) : Nat := a ^^^ (a &&& b)
theorem less_bit (a b i : Nat) : (less a b).testBit i = (a.testBit i && !b.testBit i) := by
  unfold less; rw [Nat.testBit_xor, Nat.testBit_and]; cases a.testBit i <;> cases b.testBit i <;> rfl
theorem less_lt (n a b : Nat) (h : a < 2 ^ n) : less a b < 2 ^ n := Nat.xor_lt_two_pow h (Nat.lt_of_le_of_lt Nat.and_le_left h)
theorem ofInt_i64 (a : Nat) (ha : a < 9223372036854775808) : (BitVec.ofInt 64 (a : Int)).toNat = a := by
  rw [BitVec.ofInt_natCast, BitVec.toNat_ofNat]; exact Nat.mod_eq_of_lt (by omega)
theorem i64_and_nat (a b : Nat) (ha : a < 9223372036854775808) (hb : b < 9223372036854775808) : bits .and .i64 (a : Int) (b : Int) = ((a &&& b : Nat) : Int) := by
  have hx : a &&& b < 2 ^ 63 := Nat.and_lt_two_pow _ (by omega)
  show IntKind.i64.wrap ((BitVec.ofInt 64 (a : Int) &&& BitVec.ofInt 64 (b : Int)).toNat : Int) = _
  rw [BitVec.toNat_and, ofInt_i64 a ha, ofInt_i64 b hb, IntKind.wrap_i64]
  omega
theorem i64_or_nat (a b : Nat) (ha : a < 9223372036854775808) (hb : b < 9223372036854775808) : bits .or .i64 (a : Int) (b : Int) = ((a ||| b : Nat) : Int) := by
  have hx : a ||| b < 2 ^ 63 := Nat.or_lt_two_pow (by omega) (by omega)
  show IntKind.i64.wrap ((BitVec.ofInt 64 (a : Int) ||| BitVec.ofInt 64 (b : Int)).toNat : Int) = _
  rw [BitVec.toNat_or, ofInt_i64 a ha, ofInt_i64 b hb, IntKind.wrap_i64]
  omega
theorem less_eq (a b : Nat) (ha : a < 2 ^ 64) (hb : b < 2 ^ 64) : a &&& (2 ^ 64 - 1 - b) = less a b := by
  apply Nat.eq_of_testBit_eq; intro i
  rw [show 2 ^ 64 - 1 - b = 2 ^ 64 - (b + 1) by omega, Nat.testBit_and, Nat.testBit_two_pow_sub_succ hb, less_bit]
  by_cases h : i < 64
  · simp [h]
  · have := Nat.testBit_lt_two_pow (Nat.lt_of_lt_of_le ha (Nat.pow_le_pow_right (by decide) (Nat.le_of_not_lt h)))
    simp [this]
theorem i64_andNot_nat (a b : Nat) (ha : a < 9223372036854775808) (hb : b < 9223372036854775808) : bits .andNot .i64 (a : Int) (b : Int) = ((less a b : Nat) : Int) := by
  have hx : less a b < 2 ^ 63 := less_lt 63 a b (by omega)
  show IntKind.i64.wrap ((BitVec.ofInt 64 (a : Int) &&& ~~~BitVec.ofInt 64 (b : Int)).toNat : Int) = _
  rw [BitVec.toNat_and, BitVec.toNat_not, ofInt_i64 a ha, ofInt_i64 b hb, less_eq a b (by omega) (by omega), IntKind.wrap_i64]
  omega
theorem i64_and1 (n : Int) : bits .and .i64 n 1 = n % 2 := by
  have h1 : (BitVec.ofInt 64 1).toNat = 2 ^ 1 - 1 := by decide
  have key : (BitVec.ofInt 64 n &&& BitVec.ofInt 64 1).toNat = (n % ((2 ^ 64 : Nat) : Int)).toNat % 2 ^ 1 := by
    rw [BitVec.toNat_and, BitVec.toNat_ofInt, h1, Nat.and_two_pow_sub_one_eq_mod]
  show IntKind.i64.wrap ((BitVec.ofInt 64 n &&& BitVec.ofInt 64 1).toNat : Nat) = n % 2
  rw [key, IntKind.wrap_i64]
  omega
/-- Bit k of a whole number. -/
def bitI (m : Int) (k : Nat) : Bool := decide (m / 2 ^ k % 2 = 1)
theorem bitI_nat (m k : Nat) : bitI (m : Int) k = m.testBit k := by
  rw [Nat.testBit_eq_decide_div_mod_eq]
  unfold bitI
  have e : ((m : Int) / 2 ^ k % 2) = ((m / 2 ^ k % 2 : Nat) : Int) := by simp
  rw [e]
  exact decide_eq_decide.2 (by omega)

/-! ### Letters -/
/-- Letter i of nine. -/
def letN (b : Nat → Bool) (i : Nat) : Nat :=
  if i % 3 = 2 ∧ b (11 - i / 3) = true then (if b (8 - i) then (if i = 8 then 116 else 115) else (if i = 8 then 84 else 83))
  else if b (8 - i) then (if i % 3 = 0 then 114 else if i % 3 = 1 then 119 else 120) else 45
def textN (b : Nat → Bool) : List Nat := (List.range 9).map (letN b)
def textL (b : Nat → Bool) : List UInt8 := (textN b).map UInt8.ofNat
theorem letN_lt (b : Nat → Bool) (i : Nat) : letN b i < 256 := by
  unfold letN; repeat' split
  all_goals omega
theorem textL_length (b : Nat → Bool) : (textL b).length = 9 := by simp [textL, textN]
theorem textL_nat (b : Nat → Bool) : (textL b).map UInt8.toNat = textN b := by
  unfold textL
  rw [List.map_map]
  conv => rhs; rw [← List.map_id (textN b)]
  refine List.map_congr_left fun c hc => ?_
  obtain ⟨i, _, rfl⟩ := List.mem_map.1 hc
  show (UInt8.ofNat (letN b i)).toNat = _
  rw [UInt8.toNat_ofNat']; exact Nat.mod_eq_of_lt (letN_lt b i)
def isNo (c : Nat) : Bool := Nat.beq c 45 || Nat.beq c 83 || Nat.beq c 84
def isSp (c : Nat) : Bool := Nat.beq c 115 || Nat.beq c 83 || Nat.beq c 116 || Nat.beq c 84
/-- What Parse has gathered behind letter i. -/
def pstep (c i m : Nat) : Nat := if isSp c then (if isNo c then m else m ||| 2 ^ (8 - i)) ||| 2 ^ (11 - i / 3) else (if isNo c then m else m ||| 2 ^ (8 - i))
def parseR : List Nat → Nat → Nat → Nat
  | [], _, m => m
  | c :: l, i, m => if Nat.blt i 9 then parseR l (i + 1) (pstep c i m) else m
def parseN (l : List UInt8) : Nat := parseR (l.map UInt8.toNat) 0 0
theorem pstep_lt (c i m : Nat) (h : m < 4096) : pstep c i m < 4096 := by
  have h1 : (2 : Nat) ^ (8 - i) < 2 ^ 12 := Nat.pow_lt_pow_right (by decide) (by omega)
  have h2 : (2 : Nat) ^ (11 - i / 3) < 2 ^ 12 := Nat.pow_lt_pow_right (by decide) (by omega)
  have h3 : m < 2 ^ 12 := h
  show _ < 2 ^ 12
  unfold pstep
  cases isSp c <;> cases isNo c
  · exact Nat.or_lt_two_pow h3 h1
  · exact h3
  · exact Nat.or_lt_two_pow (Nat.or_lt_two_pow h3 h1) h2
  · exact Nat.or_lt_two_pow h3 h2
theorem parseR_lt : ∀ (l : List Nat) (i m : Nat), m < 4096 → parseR l i m < 4096
  | [], _, _, h => h
  | c :: l, i, m, h => by
    unfold parseR
    split
    · exact parseR_lt l _ _ (pstep_lt c i m h)
    · exact h
theorem parseN_lt (l : List UInt8) : parseN l < 4096 := parseR_lt _ _ _ (by decide)
def chkP : Nat → Bool
  | 0 => true
  | n + 1 => Nat.beq (parseR (textN (fun k => Nat.testBit n k)) 0 0) n && chkP n
theorem chkP_all : chkP 4096 = true := by decide +kernel
theorem chkP_at : ∀ (k n : Nat), chkP k = true → n < k → parseR (textN (fun j => Nat.testBit n j)) 0 0 = n
  | 0, n, _, h => by omega
  | k + 1, n, hc, h => by
    unfold chkP at hc
    rw [Bool.and_eq_true] at hc
    by_cases e : n = k
    · subst e; exact Nat.eq_of_beq_eq_true hc.1
    · exact chkP_at k n hc.2 (by omega)
theorem parse_text (m : Nat) (h : m < 4096) : parseN (textL (Nat.testBit m)) = m := by
  unfold parseN
  rw [textL_nat]
  exact chkP_at 4096 m chkP_all h
/-- A text that is a mode's is the mode's that Parse has gathered. -/
theorem text_parse (m : Nat) (h : m < 4096) (l : List UInt8) (e : textL (Nat.testBit m) = l) : parseN l = m := by rw [← e, parse_text m h]
theorem bitI_fun (m : Nat) : bitI (m : Int) = Nat.testBit m := funext fun k => bitI_nat m k

/-! ### Masks -/
def whoS : List UInt8 := [117, 103, 111, 97]
def permS : List UInt8 := [114, 119, 120, 88, 115, 116]
def octS : List UInt8 := [48, 49, 50, 51, 52, 53, 54, 55]
def wm (c : Nat) : Nat := if c = 117 then 2496 else if c = 103 then 1080 else if c = 111 then 519 else if c = 97 then 4095 else 0
def lm (runs : Bool) (c : Nat) : Nat := if c = 114 then 292 else if c = 119 then 146 else if c = 120 then 73 else if c = 88 then (if runs then 73 else 0) else if c = 115 then 3072 else if c = 116 then 512 else 0
def whoN : List UInt8 → Nat → Nat
  | [], m => m
  | c :: l, m => whoN l (m ||| wm c.toNat)
def letM (runs : Bool) : List UInt8 → Nat → Nat
  | [], m => m
  | c :: l, m => letM runs l (m ||| lm runs c.toNat)
def whoM (l : List UInt8) : Nat := if l = [] then 4095 else whoN l 0
theorem wm_lt (c : Nat) : wm c < 4096 := by unfold wm; repeat' split
                                            all_goals omega
theorem lm_lt (r : Bool) (c : Nat) : lm r c < 4096 := by unfold lm; repeat' split
                                                         all_goals omega
theorem or_lt (a b : Nat) (ha : a < 4096) (hb : b < 4096) : a ||| b < 4096 := Nat.or_lt_two_pow (n := 12) ha hb
theorem and_lt (a b : Nat) (hb : b < 4096) : a &&& b < 4096 := Nat.and_lt_two_pow (n := 12) _ hb
theorem less_lt' (a b : Nat) (ha : a < 4096) : less a b < 4096 := less_lt 12 a b ha
theorem whoN_lt : ∀ (l : List UInt8) (m : Nat), m < 4096 → whoN l m < 4096
  | [], _, h => h
  | c :: l, m, h => whoN_lt l _ (or_lt _ _ h (wm_lt _))
theorem letM_lt (r : Bool) : ∀ (l : List UInt8) (m : Nat), m < 4096 → letM r l m < 4096
  | [], _, h => h
  | c :: l, m, h => letM_lt r l _ (or_lt _ _ h (lm_lt r _))
theorem whoM_lt (l : List UInt8) : whoM l < 4096 := by
  unfold whoM; split
  · decide
  · exact whoN_lt l 0 (by decide)
theorem whoN_snoc : ∀ (l : List UInt8) (c : UInt8) (m : Nat), whoN (l ++ [c]) m = whoN l m ||| wm c.toNat
  | [], _, _ => rfl
  | b :: l, c, m => whoN_snoc l c _
theorem letM_snoc (r : Bool) : ∀ (l : List UInt8) (c : UInt8) (m : Nat), letM r (l ++ [c]) m = letM r l m ||| lm r c.toNat
  | [], _, _ => rfl
  | b :: l, c, m => letM_snoc r l c _

/-! ### Parts -/
def headS (S l : List UInt8) : List UInt8 := l.takeWhile (S.contains ·)
def restS (S l : List UInt8) : List UInt8 := l.dropWhile (S.contains ·)
theorem restS_le (S l : List UInt8) : (restS S l).length ≤ l.length := (List.dropWhile_sublist _).length_le
theorem headS_le (S l : List UInt8) : (headS S l).length ≤ l.length := (List.takeWhile_sublist _).length_le
theorem head_rest (S l : List UInt8) : headS S l ++ restS S l = l := List.takeWhile_append_dropWhile
theorem head_len (S l : List UInt8) : (headS S l).length + (restS S l).length = l.length := by
  have := congrArg List.length (head_rest S l); rwa [List.length_append] at this
/-- The signs of a part, and the letters behind each. -/
def actsF : Nat → List UInt8 → List (UInt8 × List UInt8)
  | 0, _ => []
  | _ + 1, [] => []
  | k + 1, c :: r => (c, headS permS r) :: actsF k (restS permS r)
def acts (l : List UInt8) : List (UInt8 × List UInt8) := actsF l.length l
theorem actsF_eq : ∀ (k k' : Nat) (l : List UInt8), l.length ≤ k → l.length ≤ k' → actsF k l = actsF k' l
  | 0, 0, _, _, _ => rfl
  | 0, k' + 1, [], _, _ => rfl
  | k + 1, 0, [], _, _ => rfl
  | k + 1, k' + 1, [], _, _ => rfl
  | k + 1, k' + 1, c :: r, h, h' => by
    have := restS_le permS r
    simp only [List.length_cons] at h h'
    unfold actsF
    rw [actsF_eq k k' (restS permS r) (by omega) (by omega)]
theorem acts_nil : acts [] = [] := rfl
theorem acts_cons (c : UInt8) (r : List UInt8) : acts (c :: r) = (c, headS permS r) :: acts (restS permS r) := by
  unfold acts
  show actsF (r.length + 1) (c :: r) = _
  rw [actsF, actsF_eq r.length (restS permS r).length (restS permS r) (restS_le permS r) (Nat.le_refl _)]
theorem actsF_len : ∀ (k : Nat) (l : List UInt8), (actsF k l).length ≤ l.length
  | 0, _ => Nat.zero_le _
  | _ + 1, [] => Nat.le_refl _
  | k + 1, c :: r => by
    have := restS_le permS r
    have := actsF_len k (restS permS r)
    simp only [actsF, List.length_cons]
    omega
def runsB (dir : Bool) (m : Nat) : Bool := dir || !decide (m &&& 73 = 0)
def stepA (who : Nat) (dir : Bool) (m : Nat) (x : UInt8 × List UInt8) : Option Nat :=
  if x.1 = 43 then some (m ||| (who &&& letM (runsB dir m) x.2 0))
  else if x.1 = 45 then some (less m (who &&& letM (runsB dir m) x.2 0))
  else if x.1 = 61 then some (less m who ||| (who &&& letM (runsB dir m) x.2 0)) else none
def foldA (who : Nat) (dir : Bool) : Nat → List (UInt8 × List UInt8) → Option Nat
  | m, [] => some m
  | m, x :: xs => (stepA who dir m x).bind fun k => foldA who dir k xs
def partF (dir : Bool) (m : Nat) (p : List UInt8) : Option Nat :=
  if restS whoS p = [] then none else foldA (whoM (headS whoS p)) dir m (acts (restS whoS p))
def chF (dir : Bool) : Nat → List (List UInt8) → Option Nat
  | m, [] => some m
  | m, p :: ps => (partF dir m p).bind fun k => chF dir k ps
theorem stepA_lt (who : Nat) (dir : Bool) (m : Nat) (x : UInt8 × List UInt8) (hm : m < 4096) (k : Nat) (h : stepA who dir m x = some k) : k < 4096 := by
  have hl := letM_lt (runsB dir m) x.2 0 (by decide)
  have hb := and_lt who _ hl
  unfold stepA at h
  split at h
  · injection h with h; rw [← h]; exact or_lt _ _ hm hb
  · split at h
    · injection h with h; rw [← h]; exact less_lt' _ _ hm
    · split at h
      · injection h with h; rw [← h]; exact or_lt _ _ (less_lt' _ _ hm) hb
      · cases h
theorem foldA_lt (who : Nat) (dir : Bool) : ∀ (xs : List (UInt8 × List UInt8)) (m : Nat), m < 4096 → ∀ k, foldA who dir m xs = some k → k < 4096
  | [], m, h, k, e => by injection e with e; rw [← e]; exact h
  | x :: xs, m, h, k, e => by
    obtain ⟨j, h1, h2⟩ := Option.bind_eq_some_iff.1 (show (stepA who dir m x).bind _ = some k from e)
    exact foldA_lt who dir xs j (stepA_lt who dir m x h j h1) k h2
theorem partF_lt (dir : Bool) (m : Nat) (p : List UInt8) (hm : m < 4096) (k : Nat) (h : partF dir m p = some k) : k < 4096 := by
  unfold partF at h
  split at h
  · cases h
  · exact foldA_lt _ _ _ m hm k h
theorem chF_lt (dir : Bool) : ∀ (ps : List (List UInt8)) (m : Nat), m < 4096 → ∀ k, chF dir m ps = some k → k < 4096
  | [], m, h, k, e => by injection e with e; rw [← e]; exact h
  | p :: ps, m, h, k, e => by
    obtain ⟨j, h1, h2⟩ := Option.bind_eq_some_iff.1 (show (partF dir m p).bind _ = some k from e)
    exact chF_lt dir ps j (partF_lt dir m p h j h1) k h2
theorem foldA_append (who : Nat) (dir : Bool) : ∀ (xs ys : List (UInt8 × List UInt8)) (m : Nat), foldA who dir m (xs ++ ys) = (foldA who dir m xs).bind fun k => foldA who dir k ys
  | [], _, _ => rfl
  | x :: xs, ys, m => by
    show (stepA who dir m x).bind _ = ((stepA who dir m x).bind _).bind _
    cases stepA who dir m x with
    | none => rfl
    | some k => exact foldA_append who dir xs ys k
theorem chF_append (dir : Bool) : ∀ (xs ys : List (List UInt8)) (m : Nat), chF dir m (xs ++ ys) = (chF dir m xs).bind fun k => chF dir k ys
  | [], _, _ => rfl
  | x :: xs, ys, m => by
    show (partF dir m x).bind _ = ((partF dir m x).bind _).bind _
    cases partF dir m x with
    | none => rfl
    | some k => exact chF_append dir xs ys k

/-! ### Octal numbers; parts between commas -/
def ovS (a : Nat) (c : UInt8) : Nat := a * 8 + (c.toNat - 48)
def octV (a : Nat) (l : List UInt8) : Nat := l.foldl ovS a
theorem octV_nil (a : Nat) : octV a [] = a := rfl
theorem octV_cons (a : Nat) (c : UInt8) (l : List UInt8) : octV a (c :: l) = octV (ovS a c) l := List.foldl_cons ..
theorem octV_le (l : List UInt8) : ∀ a : Nat, a ≤ octV a l := by
  induction l with
  | nil => intro a; exact Nat.le_refl _
  | cons c l ih =>
    intro a
    rw [octV_cons]
    exact Nat.le_trans (by unfold ovS; omega) (ih _)
theorem octV_snoc (l : List UInt8) (c : UInt8) (a : Nat) : octV a (l ++ [c]) = octV a l * 8 + (c.toNat - 48) := by
  unfold octV; rw [List.foldl_append]; rfl
theorem octV_shift (l : List UInt8) : ∀ a : Nat, octV a l = a * 8 ^ l.length + octV 0 l := by
  induction l with
  | nil => intro a; rw [octV_nil, octV_nil]; simp
  | cons c l ih =>
    intro a
    rw [octV_cons, octV_cons, ih (ovS a c), ih (ovS 0 c), List.length_cons, Nat.pow_succ']
    unfold ovS
    rw [Nat.zero_mul, Nat.zero_add, Nat.add_mul, Nat.mul_assoc, Nat.add_assoc]
/-- All of them octal digits, and one at least. -/
def octB (l : List UInt8) : Bool := !decide (l = []) && decide (restS octS l = [])
theorem oct_mem (c : UInt8) : octS.contains c = true ↔ 48 ≤ c.toNat ∧ c.toNat ≤ 55 := by
  rw [List.contains_iff_mem]
  constructor
  · intro h
    simp only [octS, List.mem_cons, List.not_mem_nil, or_false] at h
    rcases h with rfl | rfl | rfl | rfl | rfl | rfl | rfl | rfl <;> decide
  · rintro ⟨h1, h2⟩
    have : c = UInt8.ofNat c.toNat := (UInt8.ofNat_toNat).symm
    rw [this]
    generalize c.toNat = n at h1 h2
    obtain rfl | rfl | rfl | rfl | rfl | rfl | rfl | rfl : n = 48 ∨ n = 49 ∨ n = 50 ∨ n = 51 ∨ n = 52 ∨ n = 53 ∨ n = 54 ∨ n = 55 := by omega
    all_goals decide
theorem restS_nil (S : List UInt8) : ∀ l : List UInt8, restS S l = [] ↔ ∀ c ∈ l, S.contains c = true
  | [] => by simp [restS]
  | c :: l => by
    by_cases h : S.contains c = true
    · have e : restS S (c :: l) = restS S l := by unfold restS; rw [List.dropWhile_cons_of_pos h]
      rw [e, restS_nil S l, List.forall_mem_cons]
      constructor
      · intro k; exact ⟨h, k⟩
      · intro k; exact k.2
    · have e : restS S (c :: l) = c :: l := by unfold restS; rw [List.dropWhile_cons_of_neg h]
      rw [e, List.forall_mem_cons]
      constructor
      · intro k; cases k
      · intro k; exact absurd k.1 h
/-- Pieces between commas. -/
def piecesC : List UInt8 → List (List UInt8)
  | [] => [[]]
  | c :: r => if c = 44 then [] :: piecesC r else match piecesC r with
    | [] => [[c]]
    | p :: ps => (c :: p) :: ps
/-- What a change answers: an error's number, and the mode. -/
def changeF (m : Int) (l : List UInt8) (dir : Bool) : Nat × Nat :=
  if m < 0 ∨ 4095 < m then (2, 0)
  else if octB l = true then (if octV 0 l ≤ 4095 then (0, octV 0 l) else (2, 0))
  else match chF dir m.toNat (piecesC l) with
    | some k => (0, k)
    | none => (3, 0)
end Go.Proofs.YtalafhfpmkacgaaDoor
