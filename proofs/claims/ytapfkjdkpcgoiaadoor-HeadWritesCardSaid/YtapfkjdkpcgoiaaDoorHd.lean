/- Headers, as lists of bytes: written, and read again; no run in it. -/
import Derived.Test.YtapfkjdkpcgoiaaDoorPlainS
import Derived.Test.YtapfkjdkpcgoiaaDoorRaw
namespace Go.Proofs.YtapfkjdkpcgoiaaDoor
set_option linter.unusedVariables false

/-! ### Fields -/
def txtOk (s : List UInt8) (n : Nat) : Bool := decide (s.length ≤ n) && !(s.any (· == 0))
def txtG (s : List UInt8) (n : Nat) : List UInt8 := if txtOk s n then s ++ List.replicate (n - s.length) 0 else []
def octOk (n : Int) (W : Nat) : Bool := decide (0 ≤ n) && decide (n < 8 ^ (W - 1))
def binOk (n : Int) (W : Nat) (b : Bool) : Bool := b && (decide (8 ≤ W) && (decide (W ≠ 8) || (decide (-36028797018963968 ≤ n) && decide (n ≤ 36028797018963967))))
def numOk (n : Int) (W : Nat) (b : Bool) : Bool := octOk n W || binOk n W b
def numG (n : Int) (W : Nat) (b : Bool) : List UInt8 := if octOk n W then (octNums n W).map u8 else if binOk n W b then (binNums n W).map u8 else []
/-- A number that V7 does not write. -/
def devG (d : Nat) (n : Int) : List UInt8 := if d = 1 then List.replicate 8 0 else numG n 8 (d == 3)
def magicL (d : Nat) : List UInt8 := if d = 2 ∨ d = 4 then [117, 115, 116, 97, 114, 0, 48, 48] else if d = 3 then [117, 115, 116, 97, 114, 32, 32, 0] else List.replicate 8 0
theorem txtOk_iff {s : List UInt8} {n : Nat} : txtOk s n = true ↔ s.length ≤ n ∧ ∀ c ∈ s, c ≠ 0 := by
  unfold txtOk
  rw [Bool.and_eq_true, decide_eq_true_iff, Bool.not_eq_true', List.any_eq_false]
  simp
theorem txtG_length {s : List UInt8} {n : Nat} (h : txtOk s n = true) : (txtG s n).length = n := by
  unfold txtG
  rw [if_pos h, List.length_append, List.length_replicate]
  have := (txtOk_iff.1 h).1
  omega
theorem numG_length {n : Int} {W : Nat} {b : Bool} (hW : 1 ≤ W) (h : numOk n W b = true) : (numG n W b).length = W := by
  unfold numG
  unfold numOk at h
  split
  · rw [List.length_map, octNums_length n W hW]
  · next h1 =>
    rw [Bool.eq_false_iff.2 h1, Bool.false_or] at h
    rw [if_pos h, List.length_map, binNums_length n W hW]
theorem devG_length {d : Nat} {n : Int} (h : d = 1 ∨ numOk n 8 (d == 3) = true) : (devG d n).length = 8 := by
  unfold devG
  split
  · simp
  · next h1 =>
    rcases h with h | h
    · exact absurd h h1
    · exact numG_length (by omega) h
theorem magicL_length (d : Nat) : (magicL d).length = 8 := by
  unfold magicL
  split
  · rfl
  · split
    · rfl
    · simp
theorem readF_numG {n : Int} {W : Nat} {b : Bool} (hW1 : 2 ≤ W) (hW2 : W ≤ 20) (hn : -9223372036854775808 ≤ n ∧ n ≤ 9223372036854775807) (h : numOk n W b = true) : readF (numG n W b) = (n, 0) := by
  unfold numG
  unfold numOk at h
  split
  · next h1 =>
    unfold octOk at h1
    rw [Bool.and_eq_true, decide_eq_true_iff, decide_eq_true_iff] at h1
    exact back_oct n W hW1 hW2 h1.1 h1.2
  · next h1 =>
    rw [Bool.eq_false_iff.2 h1, Bool.false_or] at h
    rw [if_pos h]
    unfold binOk at h
    rw [Bool.and_eq_true, Bool.and_eq_true, decide_eq_true_iff, Bool.or_eq_true, decide_eq_true_iff, Bool.and_eq_true, decide_eq_true_iff, decide_eq_true_iff] at h
    exact back_bin n W h.2.1 hn.1 hn.2 fun h8 => by
      rcases h.2.2 with h9 | h9
      · exact absurd h8 h9
      · exact h9
/-- A text, to its first zero byte. -/
def cutZ (l : List UInt8) : List UInt8 := l.takeWhile (· != 0)
theorem cutZ_append {s : List UInt8} (h : ∀ c ∈ s, c ≠ 0) (k : Nat) : cutZ (s ++ List.replicate k 0) = s := by
  unfold cutZ
  induction s with
  | nil =>
    cases k with
    | zero => rfl
    | succ k => rw [List.replicate_succ, List.nil_append, List.takeWhile_cons_of_neg (by simp)]
  | cons c s ih =>
    rw [List.cons_append, List.takeWhile_cons_of_pos (by simpa using h c (List.mem_cons_self ..)), ih fun x hx => h x (List.mem_cons_of_mem _ hx)]
theorem cutZ_txtG {s : List UInt8} {n : Nat} (h : txtOk s n = true) : cutZ (txtG s n) = s := by
  unfold txtG
  rw [if_pos h]
  exact cutZ_append (txtOk_iff.1 h).2 _

/-! ### Parts -/
def sub (l : List UInt8) (a n : Nat) : List UInt8 := (l.drop a).take n
theorem sub_here {f R : List UInt8} {n : Nat} (h : f.length = n) : sub (f ++ R) 0 n = f := by
  unfold sub
  rw [List.drop_zero, List.take_left' h]
theorem sub_skip {f R : List UInt8} {a m n : Nat} (h : f.length = m) (hm : m ≤ a) : sub (f ++ R) a n = sub R (a - m) n := by
  unfold sub
  rw [List.drop_append, List.drop_of_length_le (by omega), List.nil_append, h]
theorem sub_congr {l m : List UInt8} {a n : Nat} (h : ∀ j, a ≤ j → j < a + n → l[j]? = m[j]?) : sub l a n = sub m a n := by
  unfold sub
  apply List.ext_getElem?
  intro j
  by_cases hj : j < n
  · rw [List.getElem?_take, if_pos hj, List.getElem?_take, if_pos hj, List.getElem?_drop, List.getElem?_drop]
    exact h _ (by omega) (by omega)
  · rw [List.getElem?_take, if_neg hj, List.getElem?_take, if_neg hj]
theorem sub_seal {B : List UInt8} (h : B.length = 512) {a n : Nat} (ha : a + n ≤ 148 ∨ 156 ≤ a) : sub (sealL B) a n = sub B a n :=
  sub_congr fun j h1 h2 => by
    rcases ha with ha | ha
    · exact sealL_low B h j (by omega)
    · exact sealL_high B h j (by omega)

/-! ### Written -/
def bodyL (d : Nat) (r : RawL) : List UInt8 := txtG r.name 100 ++ (numG r.mode 8 (d == 3) ++ (numG r.uid 8 (d == 3) ++ (numG r.gid 8 (d == 3) ++ (numG r.size 12 (d == 3) ++ (numG r.time 12 (d == 3) ++ (List.replicate 8 (32 : UInt8) ++ ([r.kind] ++ (txtG r.link 100 ++ (magicL d ++ (txtG r.user 32 ++ (txtG r.group 32 ++ (devG d r.major ++ (devG d r.minor ++ (txtG r.front 155 ++ (List.replicate 12 (0 : UInt8))))))))))))))))
def numsOk (d : Nat) (r : RawL) : Bool := numOk r.mode 8 (d == 3) && (numOk r.uid 8 (d == 3) && (numOk r.gid 8 (d == 3) && (numOk r.size 12 (d == 3) && (numOk r.time 12 (d == 3) && (decide (d = 1) || (numOk r.major 8 (d == 3) && numOk r.minor 8 (d == 3)))))))
def txtsOk (r : RawL) : Bool := txtOk r.name 100 && (txtOk r.link 100 && (txtOk r.user 32 && (txtOk r.group 32 && txtOk r.front 155)))
/-- The dialect bears all that is set. -/
def bearsL (d : Nat) (r : RawL) : Prop := (d = 1 → r.user = [] ∧ r.group = [] ∧ r.front = [] ∧ r.major = 0 ∧ r.minor = 0) ∧ (d = 3 → r.front = [])
def goodL (d : Nat) (r : RawL) : Prop := (1 ≤ d ∧ d ≤ 4) ∧ r.kind ≠ 0 ∧ bearsL d r ∧ numsOk d r = true ∧ txtsOk r = true
def writeL (d : Nat) (r : RawL) : List UInt8 := sealL (bodyL d r)
structure Wide (d : Nat) (r : RawL) : Prop where
  h0 : (txtG r.name 100).length = 100
  h1 : (numG r.mode 8 (d == 3)).length = 8
  h2 : (numG r.uid 8 (d == 3)).length = 8
  h3 : (numG r.gid 8 (d == 3)).length = 8
  h4 : (numG r.size 12 (d == 3)).length = 12
  h5 : (numG r.time 12 (d == 3)).length = 12
  h6 : (List.replicate 8 (32 : UInt8)).length = 8
  h7 : ([r.kind]).length = 1
  h8 : (txtG r.link 100).length = 100
  h9 : (magicL d).length = 8
  h10 : (txtG r.user 32).length = 32
  h11 : (txtG r.group 32).length = 32
  h12 : (devG d r.major).length = 8
  h13 : (devG d r.minor).length = 8
  h14 : (txtG r.front 155).length = 155
  h15 : (List.replicate 12 (0 : UInt8)).length = 12
theorem goodL.wide {d : Nat} {r : RawL} (hn : numsOk d r = true) (ht : txtsOk r = true) : Wide d r := by
  unfold numsOk at hn
  unfold txtsOk at ht
  simp only [Bool.and_eq_true, Bool.or_eq_true, decide_eq_true_iff] at hn ht
  obtain ⟨n1, n2, n3, n4, n5, n6⟩ := hn
  obtain ⟨t1, t2, t3, t4, t5⟩ := ht
  exact ⟨txtG_length t1, numG_length (by omega) n1, numG_length (by omega) n2, numG_length (by omega) n3, numG_length (by omega) n4, numG_length (by omega) n5, by simp, rfl, txtG_length t2, magicL_length d, txtG_length t3, txtG_length t4, devG_length (n6.imp id fun h => h.1), devG_length (n6.imp id fun h => h.2), txtG_length t5, by simp⟩
theorem bodyL_length {d : Nat} {r : RawL} (w : Wide d r) : (bodyL d r).length = 512 := by
  unfold bodyL
  simp only [List.length_append, w.h0, w.h1, w.h2, w.h3, w.h4, w.h5, w.h6, w.h7, w.h8, w.h9, w.h10, w.h11, w.h12, w.h13, w.h14, w.h15]
theorem field0 {d : Nat} {r : RawL} (w : Wide d r) : sub (bodyL d r) 0 100 = txtG r.name 100 := by
  unfold bodyL
  rw [sub_here w.h0]
theorem field1 {d : Nat} {r : RawL} (w : Wide d r) : sub (bodyL d r) 100 8 = numG r.mode 8 (d == 3) := by
  unfold bodyL
  rw [sub_skip w.h0 (by omega), sub_here w.h1]
theorem field2 {d : Nat} {r : RawL} (w : Wide d r) : sub (bodyL d r) 108 8 = numG r.uid 8 (d == 3) := by
  unfold bodyL
  rw [sub_skip w.h0 (by omega), sub_skip w.h1 (by omega), sub_here w.h2]
theorem field3 {d : Nat} {r : RawL} (w : Wide d r) : sub (bodyL d r) 116 8 = numG r.gid 8 (d == 3) := by
  unfold bodyL
  rw [sub_skip w.h0 (by omega), sub_skip w.h1 (by omega), sub_skip w.h2 (by omega), sub_here w.h3]
theorem field4 {d : Nat} {r : RawL} (w : Wide d r) : sub (bodyL d r) 124 12 = numG r.size 12 (d == 3) := by
  unfold bodyL
  rw [sub_skip w.h0 (by omega), sub_skip w.h1 (by omega), sub_skip w.h2 (by omega), sub_skip w.h3 (by omega), sub_here w.h4]
theorem field5 {d : Nat} {r : RawL} (w : Wide d r) : sub (bodyL d r) 136 12 = numG r.time 12 (d == 3) := by
  unfold bodyL
  rw [sub_skip w.h0 (by omega), sub_skip w.h1 (by omega), sub_skip w.h2 (by omega), sub_skip w.h3 (by omega), sub_skip w.h4 (by omega), sub_here w.h5]
theorem field6 {d : Nat} {r : RawL} (w : Wide d r) : sub (bodyL d r) 148 8 = List.replicate 8 (32 : UInt8) := by
  unfold bodyL
  rw [sub_skip w.h0 (by omega), sub_skip w.h1 (by omega), sub_skip w.h2 (by omega), sub_skip w.h3 (by omega), sub_skip w.h4 (by omega), sub_skip w.h5 (by omega), sub_here w.h6]
theorem field7 {d : Nat} {r : RawL} (w : Wide d r) : sub (bodyL d r) 156 1 = [r.kind] := by
  unfold bodyL
  rw [sub_skip w.h0 (by omega), sub_skip w.h1 (by omega), sub_skip w.h2 (by omega), sub_skip w.h3 (by omega), sub_skip w.h4 (by omega), sub_skip w.h5 (by omega), sub_skip w.h6 (by omega), sub_here w.h7]
theorem field8 {d : Nat} {r : RawL} (w : Wide d r) : sub (bodyL d r) 157 100 = txtG r.link 100 := by
  unfold bodyL
  rw [sub_skip w.h0 (by omega), sub_skip w.h1 (by omega), sub_skip w.h2 (by omega), sub_skip w.h3 (by omega), sub_skip w.h4 (by omega), sub_skip w.h5 (by omega), sub_skip w.h6 (by omega), sub_skip w.h7 (by omega), sub_here w.h8]
theorem field9 {d : Nat} {r : RawL} (w : Wide d r) : sub (bodyL d r) 257 8 = magicL d := by
  unfold bodyL
  rw [sub_skip w.h0 (by omega), sub_skip w.h1 (by omega), sub_skip w.h2 (by omega), sub_skip w.h3 (by omega), sub_skip w.h4 (by omega), sub_skip w.h5 (by omega), sub_skip w.h6 (by omega), sub_skip w.h7 (by omega), sub_skip w.h8 (by omega), sub_here w.h9]
theorem field10 {d : Nat} {r : RawL} (w : Wide d r) : sub (bodyL d r) 265 32 = txtG r.user 32 := by
  unfold bodyL
  rw [sub_skip w.h0 (by omega), sub_skip w.h1 (by omega), sub_skip w.h2 (by omega), sub_skip w.h3 (by omega), sub_skip w.h4 (by omega), sub_skip w.h5 (by omega), sub_skip w.h6 (by omega), sub_skip w.h7 (by omega), sub_skip w.h8 (by omega), sub_skip w.h9 (by omega), sub_here w.h10]
theorem field11 {d : Nat} {r : RawL} (w : Wide d r) : sub (bodyL d r) 297 32 = txtG r.group 32 := by
  unfold bodyL
  rw [sub_skip w.h0 (by omega), sub_skip w.h1 (by omega), sub_skip w.h2 (by omega), sub_skip w.h3 (by omega), sub_skip w.h4 (by omega), sub_skip w.h5 (by omega), sub_skip w.h6 (by omega), sub_skip w.h7 (by omega), sub_skip w.h8 (by omega), sub_skip w.h9 (by omega), sub_skip w.h10 (by omega), sub_here w.h11]
theorem field12 {d : Nat} {r : RawL} (w : Wide d r) : sub (bodyL d r) 329 8 = devG d r.major := by
  unfold bodyL
  rw [sub_skip w.h0 (by omega), sub_skip w.h1 (by omega), sub_skip w.h2 (by omega), sub_skip w.h3 (by omega), sub_skip w.h4 (by omega), sub_skip w.h5 (by omega), sub_skip w.h6 (by omega), sub_skip w.h7 (by omega), sub_skip w.h8 (by omega), sub_skip w.h9 (by omega), sub_skip w.h10 (by omega), sub_skip w.h11 (by omega), sub_here w.h12]
theorem field13 {d : Nat} {r : RawL} (w : Wide d r) : sub (bodyL d r) 337 8 = devG d r.minor := by
  unfold bodyL
  rw [sub_skip w.h0 (by omega), sub_skip w.h1 (by omega), sub_skip w.h2 (by omega), sub_skip w.h3 (by omega), sub_skip w.h4 (by omega), sub_skip w.h5 (by omega), sub_skip w.h6 (by omega), sub_skip w.h7 (by omega), sub_skip w.h8 (by omega), sub_skip w.h9 (by omega), sub_skip w.h10 (by omega), sub_skip w.h11 (by omega), sub_skip w.h12 (by omega), sub_here w.h13]
theorem field14 {d : Nat} {r : RawL} (w : Wide d r) : sub (bodyL d r) 345 155 = txtG r.front 155 := by
  unfold bodyL
  rw [sub_skip w.h0 (by omega), sub_skip w.h1 (by omega), sub_skip w.h2 (by omega), sub_skip w.h3 (by omega), sub_skip w.h4 (by omega), sub_skip w.h5 (by omega), sub_skip w.h6 (by omega), sub_skip w.h7 (by omega), sub_skip w.h8 (by omega), sub_skip w.h9 (by omega), sub_skip w.h10 (by omega), sub_skip w.h11 (by omega), sub_skip w.h12 (by omega), sub_skip w.h13 (by omega), sub_here w.h14]

/-! ### Read -/
def numAt (l : List UInt8) (a n : Nat) : Int × Int := readF (sub l a n)
def dialF (l : List UInt8) : Nat := if sub l 257 8 = magicL 2 then 2 else if sub l 257 8 = magicL 3 then 3 else 1
/-- The numbers of a block can be read. -/
def numsRead (l : List UInt8) : Prop := (numAt l 100 8).2 = 0 ∧ (numAt l 108 8).2 = 0 ∧ (numAt l 116 8).2 = 0 ∧ (numAt l 124 12).2 = 0 ∧ (numAt l 136 12).2 = 0 ∧ (dialF l = 1 ∨ ((numAt l 329 8).2 = 0 ∧ (numAt l 337 8).2 = 0))
def kindF (c : UInt8) : UInt8 := if c = 0 then 48 else c
def rawAt (l : List UInt8) : RawL where
  name := cutZ (sub l 0 100)
  link := cutZ (sub l 157 100)
  user := if dialF l = 1 then [] else cutZ (sub l 265 32)
  group := if dialF l = 1 then [] else cutZ (sub l 297 32)
  front := if dialF l = 2 then cutZ (sub l 345 155) else []
  kind := kindF ((sub l 156 1).headD 0)
  mode := (numAt l 100 8).1
  uid := (numAt l 108 8).1
  gid := (numAt l 116 8).1
  size := (numAt l 124 12).1
  time := (numAt l 136 12).1
  major := if dialF l = 1 then 0 else (numAt l 329 8).1
  minor := if dialF l = 1 then 0 else (numAt l 337 8).1
/-- What a dialect is read as. -/
def asRead (d : Nat) : Nat := if d = 4 then 2 else d
theorem dialF_of {l : List UInt8} {d : Nat} (h1 : 1 ≤ d ∧ d ≤ 4) (h : sub l 257 8 = magicL d) : dialF l = asRead d := by
  unfold dialF
  rw [h]
  obtain rfl | rfl | rfl | rfl : d = 1 ∨ d = 2 ∨ d = 3 ∨ d = 4 := by omega
  all_goals decide
theorem write_right {d : Nat} {r : RawL} (h : goodL d r) : rightL (writeL d r) := rightL_seal _ (bodyL_length (goodL.wide h.2.2.2.1 h.2.2.2.2))
theorem write_length {d : Nat} {r : RawL} (h : goodL d r) : (writeL d r).length = 512 := sealL_length _ (bodyL_length (goodL.wide h.2.2.2.1 h.2.2.2.2))
/-- What is written is read. -/
theorem write_read {d : Nat} {r : RawL} (h : goodL d r) (hi : intsL r) : numsRead (writeL d r) ∧ dialF (writeL d r) = asRead d ∧ rawAt (writeL d r) = r := by
  obtain ⟨hd, hk, hb, hn, ht⟩ := h
  have w := goodL.wide hn ht
  have hl := bodyL_length w
  have s0 := (sub_seal hl (a := 0) (n := 100) (by omega)).trans (field0 w)
  have s1 := (sub_seal hl (a := 100) (n := 8) (by omega)).trans (field1 w)
  have s2 := (sub_seal hl (a := 108) (n := 8) (by omega)).trans (field2 w)
  have s3 := (sub_seal hl (a := 116) (n := 8) (by omega)).trans (field3 w)
  have s4 := (sub_seal hl (a := 124) (n := 12) (by omega)).trans (field4 w)
  have s5 := (sub_seal hl (a := 136) (n := 12) (by omega)).trans (field5 w)
  have s7 := (sub_seal hl (a := 156) (n := 1) (by omega)).trans (field7 w)
  have s8 := (sub_seal hl (a := 157) (n := 100) (by omega)).trans (field8 w)
  have s9 := (sub_seal hl (a := 257) (n := 8) (by omega)).trans (field9 w)
  have s10 := (sub_seal hl (a := 265) (n := 32) (by omega)).trans (field10 w)
  have s11 := (sub_seal hl (a := 297) (n := 32) (by omega)).trans (field11 w)
  have s12 := (sub_seal hl (a := 329) (n := 8) (by omega)).trans (field12 w)
  have s13 := (sub_seal hl (a := 337) (n := 8) (by omega)).trans (field13 w)
  have s14 := (sub_seal hl (a := 345) (n := 155) (by omega)).trans (field14 w)
  change sub (writeL d r) _ _ = _ at s0 s1 s2 s3 s4 s5 s7 s8 s9 s10 s11 s12 s13 s14
  have hD := dialF_of hd s9
  unfold numsOk at hn
  unfold txtsOk at ht
  simp only [Bool.and_eq_true, Bool.or_eq_true, decide_eq_true_iff] at hn ht
  obtain ⟨n1, n2, n3, n4, n5, n6⟩ := hn
  obtain ⟨t1, t2, t3, t4, t5⟩ := ht
  obtain ⟨i1, i2, i3, i4, i5, i6, i7⟩ := hi
  have r1 : numAt (writeL d r) 100 8 = (r.mode, 0) := by unfold numAt; rw [s1]; exact readF_numG (by omega) (by omega) i1 n1
  have r2 : numAt (writeL d r) 108 8 = (r.uid, 0) := by unfold numAt; rw [s2]; exact readF_numG (by omega) (by omega) i2 n2
  have r3 : numAt (writeL d r) 116 8 = (r.gid, 0) := by unfold numAt; rw [s3]; exact readF_numG (by omega) (by omega) i3 n3
  have r4 : numAt (writeL d r) 124 12 = (r.size, 0) := by unfold numAt; rw [s4]; exact readF_numG (by omega) (by omega) i4 n4
  have r5 : numAt (writeL d r) 136 12 = (r.time, 0) := by unfold numAt; rw [s5]; exact readF_numG (by omega) (by omega) i5 n5
  have r6 : d = 1 ∨ (numAt (writeL d r) 329 8 = (r.major, 0) ∧ numAt (writeL d r) 337 8 = (r.minor, 0)) := by
    by_cases h1 : d = 1
    · exact Or.inl h1
    · right
      rcases n6 with n6 | n6
      · exact absurd n6 h1
      · unfold numAt
        rw [s12, s13]
        unfold devG
        rw [if_neg h1, if_neg h1]
        exact ⟨readF_numG (by omega) (by omega) i6 n6.1, readF_numG (by omega) (by omega) i7 n6.2⟩
  have k1 : kindF ((sub (writeL d r) 156 1).headD 0) = r.kind := by
    rw [s7]
    unfold kindF
    rw [List.headD_cons, if_neg hk]
  refine ⟨?_, hD, ?_⟩
  · unfold numsRead
    rw [r1, r2, r3, r4, r5, hD]
    refine ⟨rfl, rfl, rfl, rfl, rfl, ?_⟩
    rcases r6 with rfl | ⟨h1, h2⟩
    · exact Or.inl rfl
    · exact Or.inr ⟨by rw [h1], by rw [h2]⟩
  · unfold rawAt
    rw [hD, r1, r2, r3, r4, r5, k1, s0, s8, cutZ_txtG t1, cutZ_txtG t2, s10, s11, s14, cutZ_txtG t3, cutZ_txtG t4, cutZ_txtG t5]
    obtain rfl | rfl | rfl | rfl : d = 1 ∨ d = 2 ∨ d = 3 ∨ d = 4 := by omega
    · obtain ⟨e1, e2, e3, e4, e5⟩ := hb.1 rfl
      obtain ⟨nm, lk, us, gr, fr, kd, m1, m2, m3, m4, m5, m6, m7⟩ := r
      simp only at e1 e2 e3 e4 e5
      subst e1 e2 e3 e4 e5
      rfl
    · obtain ⟨h1, h2⟩ := r6.resolve_left (by omega)
      rw [h1, h2]
      obtain ⟨nm, lk, us, gr, fr, kd, m1, m2, m3, m4, m5, m6, m7⟩ := r
      rfl
    · obtain ⟨h1, h2⟩ := r6.resolve_left (by omega)
      have e3 := hb.2 rfl
      rw [h1, h2]
      obtain ⟨nm, lk, us, gr, fr, kd, m1, m2, m3, m4, m5, m6, m7⟩ := r
      simp only at e3
      subst e3
      rfl
    · obtain ⟨h1, h2⟩ := r6.resolve_left (by omega)
      rw [h1, h2]
      obtain ⟨nm, lk, us, gr, fr, kd, m1, m2, m3, m4, m5, m6, m7⟩ := r
      rfl
/-- Unlike headers, unlike blocks. -/
theorem write_inj {d : Nat} {r q : RawL} (hr : goodL d r) (ir : intsL r) (hq : goodL d q) (iq : intsL q) : writeL d r = writeL d q ↔ r = q := by
  constructor
  · intro h
    rw [← (write_read hr ir).2.2, ← (write_read hq iq).2.2, h]
  · rintro rfl; rfl
/-- A byte that is another one, outside the sum. -/
theorem write_bent {d : Nat} {r : RawL} (h : goodL d r) (i : Nat) (c : UInt8) (hi : i < 512) (hn : ¬ (148 ≤ i ∧ i < 156)) : rightL ((writeL d r).set i c) ↔ (writeL d r).set i c = writeL d r :=
  rightL_bent _ (bodyL_length (goodL.wide h.2.2.2.1 h.2.2.2.2)) i c hi hn
end Go.Proofs.YtapfkjdkpcgoiaaDoor
