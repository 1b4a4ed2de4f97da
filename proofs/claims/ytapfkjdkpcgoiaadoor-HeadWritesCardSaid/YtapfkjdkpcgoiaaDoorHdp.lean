/- Headers put into a row of zero bytes, field by field, as the program does it; no run in it. -/
import Derived.Test.YtapfkjdkpcgoiaaDoorHd
namespace Go.Proofs.YtapfkjdkpcgoiaaDoor
set_option linter.unusedVariables false

/-- s, put over what stands at a. -/
def putAt (L : List UInt8) (a : Nat) (s : List UInt8) : List UInt8 := L.take a ++ (s ++ L.drop (a + s.length))
theorem putAt_length {L : List UInt8} {a : Nat} {s : List UInt8} (h : a + s.length ≤ L.length) : (putAt L a s).length = L.length := by
  unfold putAt
  rw [List.length_append, List.length_append, List.length_take, List.length_drop]
  omega
theorem putAt_skip {f R s : List UInt8} {a m : Nat} (h : f.length = m) (hm : m ≤ a) : putAt (f ++ R) a s = f ++ putAt R (a - m) s := by
  unfold putAt
  rw [List.take_append, List.take_of_length_le (by omega), List.drop_append, List.drop_of_length_le (by omega), List.nil_append, h, show a + s.length - m = a - m + s.length by omega, List.append_assoc]
theorem putAt_here {R s : List UInt8} {n : Nat} (h : s.length ≤ n) : putAt (List.replicate n 0 ++ R) 0 s = (s ++ List.replicate (n - s.length) 0) ++ R := by
  unfold putAt
  rw [List.take_zero, List.nil_append, Nat.zero_add, List.drop_append, List.drop_replicate, List.length_replicate, show s.length - n = 0 by omega, List.drop_zero, List.append_assoc]
theorem putAt_all {R s : List UInt8} {n : Nat} (h : s.length = n) : putAt (List.replicate n 0 ++ R) 0 s = s ++ R := by
  rw [putAt_here (by omega), h, Nat.sub_self, List.replicate_zero, List.append_nil]
theorem putAt_nil (L : List UInt8) (a : Nat) : putAt L a [] = L := by
  unfold putAt
  rw [List.nil_append, List.length_nil, Nat.add_zero, List.take_append_drop]
theorem set_putAt {L : List UInt8} {a : Nat} (c : UInt8) (h : a < L.length) : L.set a c = putAt L a [c] := by
  unfold putAt
  rw [List.set_eq_take_append_cons_drop, if_pos h]
  rfl
theorem txtG_put {s : List UInt8} {n : Nat} (h : txtOk s n = true) : s ++ List.replicate (n - s.length) 0 = txtG s n := by
  unfold txtG
  rw [if_pos h]
theorem txtG_nil (n : Nat) : txtG [] n = List.replicate n 0 := by
  unfold txtG
  rw [if_pos (by rw [txtOk_iff]; simp)]
  simp

def tAt (k : Nat) : Nat := [0, 157, 265, 297, 345].getD k 0
def tSz (k : Nat) : Nat := [100, 100, 32, 32, 155].getD k 0
def tVal (r : RawL) (k : Nat) : List UInt8 := [r.name, r.link, r.user, r.group, r.front].getD k []
def nAt (k : Nat) : Nat := [100, 108, 116, 124, 136, 329, 337].getD k 0
def nSz (k : Nat) : Nat := [8, 8, 8, 12, 12, 8, 8].getD k 0
def nVal (r : RawL) (k : Nat) : Int := [r.mode, r.uid, r.gid, r.size, r.time, r.major, r.minor].getD k 0
def nMany (d : Nat) : Nat := if d = 1 then 5 else 7
def hdrT (r : RawL) : Nat → List UInt8
  | 0 => List.replicate 512 0
  | k + 1 => putAt (hdrT r k) (tAt k) (tVal r k)
def hdrN (d : Nat) (r : RawL) : Nat → List UInt8
  | 0 => hdrT r 5
  | k + 1 => putAt (hdrN d r k) (nAt k) (numG (nVal r k) (nSz k) (d == 3))
def magicP (d : Nat) : List UInt8 := if d = 1 then [] else magicL d
def hdrK (d : Nat) (r : RawL) : List UInt8 := (hdrN d r (nMany d)).set 156 r.kind
def hdrM (d : Nat) (r : RawL) : List UInt8 := putAt (hdrK d r) 257 (magicP d)

/-- sixteen fields, one behind the other. -/
def rowF (x0 x1 x2 x3 x4 x5 x6 x7 x8 x9 x10 x11 x12 x13 x14 x15 : List UInt8) : List UInt8 := x0 ++ (x1 ++ (x2 ++ (x3 ++ (x4 ++ (x5 ++ (x6 ++ (x7 ++ (x8 ++ (x9 ++ (x10 ++ (x11 ++ (x12 ++ (x13 ++ (x14 ++ (x15)))))))))))))))
theorem zeros_row : List.replicate 512 (0 : UInt8) = rowF (List.replicate 100 0) (List.replicate 8 0) (List.replicate 8 0) (List.replicate 8 0) (List.replicate 12 0) (List.replicate 12 0) (List.replicate 8 0) (List.replicate 1 0) (List.replicate 100 0) (List.replicate 8 0) (List.replicate 32 0) (List.replicate 32 0) (List.replicate 8 0) (List.replicate 8 0) (List.replicate 155 0) (List.replicate 12 0) := by
  unfold rowF
  simp only [List.replicate_append_replicate]
theorem put_row0 {x1 x2 x3 x4 x5 x6 x7 x8 x9 x10 x11 x12 x13 x14 x15 s : List UInt8}  (h : s.length ≤ 100) : putAt (rowF (List.replicate 100 0) x1 x2 x3 x4 x5 x6 x7 x8 x9 x10 x11 x12 x13 x14 x15) 0 s = rowF (s ++ List.replicate (100 - s.length) 0) x1 x2 x3 x4 x5 x6 x7 x8 x9 x10 x11 x12 x13 x14 x15 := by
  unfold rowF
  exact (by rw [putAt_here h])
theorem put_row1 {x0 x2 x3 x4 x5 x6 x7 x8 x9 x10 x11 x12 x13 x14 x15 s : List UInt8} (h0 : x0.length = 100) (h : s.length ≤ 8) : putAt (rowF x0 (List.replicate 8 0) x2 x3 x4 x5 x6 x7 x8 x9 x10 x11 x12 x13 x14 x15) 100 s = rowF x0 (s ++ List.replicate (8 - s.length) 0) x2 x3 x4 x5 x6 x7 x8 x9 x10 x11 x12 x13 x14 x15 := by
  unfold rowF
  rw [putAt_skip h0 (by omega)]
  exact (by rw [putAt_here h])
theorem put_row2 {x0 x1 x3 x4 x5 x6 x7 x8 x9 x10 x11 x12 x13 x14 x15 s : List UInt8} (h0 : x0.length = 100) (h1 : x1.length = 8) (h : s.length ≤ 8) : putAt (rowF x0 x1 (List.replicate 8 0) x3 x4 x5 x6 x7 x8 x9 x10 x11 x12 x13 x14 x15) 108 s = rowF x0 x1 (s ++ List.replicate (8 - s.length) 0) x3 x4 x5 x6 x7 x8 x9 x10 x11 x12 x13 x14 x15 := by
  unfold rowF
  rw [putAt_skip h0 (by omega), putAt_skip h1 (by omega)]
  exact (by rw [putAt_here h])
theorem put_row3 {x0 x1 x2 x4 x5 x6 x7 x8 x9 x10 x11 x12 x13 x14 x15 s : List UInt8} (h0 : x0.length = 100) (h1 : x1.length = 8) (h2 : x2.length = 8) (h : s.length ≤ 8) : putAt (rowF x0 x1 x2 (List.replicate 8 0) x4 x5 x6 x7 x8 x9 x10 x11 x12 x13 x14 x15) 116 s = rowF x0 x1 x2 (s ++ List.replicate (8 - s.length) 0) x4 x5 x6 x7 x8 x9 x10 x11 x12 x13 x14 x15 := by
  unfold rowF
  rw [putAt_skip h0 (by omega), putAt_skip h1 (by omega), putAt_skip h2 (by omega)]
  exact (by rw [putAt_here h])
theorem put_row4 {x0 x1 x2 x3 x5 x6 x7 x8 x9 x10 x11 x12 x13 x14 x15 s : List UInt8} (h0 : x0.length = 100) (h1 : x1.length = 8) (h2 : x2.length = 8) (h3 : x3.length = 8) (h : s.length ≤ 12) : putAt (rowF x0 x1 x2 x3 (List.replicate 12 0) x5 x6 x7 x8 x9 x10 x11 x12 x13 x14 x15) 124 s = rowF x0 x1 x2 x3 (s ++ List.replicate (12 - s.length) 0) x5 x6 x7 x8 x9 x10 x11 x12 x13 x14 x15 := by
  unfold rowF
  rw [putAt_skip h0 (by omega), putAt_skip h1 (by omega), putAt_skip h2 (by omega), putAt_skip h3 (by omega)]
  exact (by rw [putAt_here h])
theorem put_row5 {x0 x1 x2 x3 x4 x6 x7 x8 x9 x10 x11 x12 x13 x14 x15 s : List UInt8} (h0 : x0.length = 100) (h1 : x1.length = 8) (h2 : x2.length = 8) (h3 : x3.length = 8) (h4 : x4.length = 12) (h : s.length ≤ 12) : putAt (rowF x0 x1 x2 x3 x4 (List.replicate 12 0) x6 x7 x8 x9 x10 x11 x12 x13 x14 x15) 136 s = rowF x0 x1 x2 x3 x4 (s ++ List.replicate (12 - s.length) 0) x6 x7 x8 x9 x10 x11 x12 x13 x14 x15 := by
  unfold rowF
  rw [putAt_skip h0 (by omega), putAt_skip h1 (by omega), putAt_skip h2 (by omega), putAt_skip h3 (by omega), putAt_skip h4 (by omega)]
  exact (by rw [putAt_here h])
theorem put_row7 {x0 x1 x2 x3 x4 x5 x6 x8 x9 x10 x11 x12 x13 x14 x15 s : List UInt8} (h0 : x0.length = 100) (h1 : x1.length = 8) (h2 : x2.length = 8) (h3 : x3.length = 8) (h4 : x4.length = 12) (h5 : x5.length = 12) (h6 : x6.length = 8) (h : s.length ≤ 1) : putAt (rowF x0 x1 x2 x3 x4 x5 x6 (List.replicate 1 0) x8 x9 x10 x11 x12 x13 x14 x15) 156 s = rowF x0 x1 x2 x3 x4 x5 x6 (s ++ List.replicate (1 - s.length) 0) x8 x9 x10 x11 x12 x13 x14 x15 := by
  unfold rowF
  rw [putAt_skip h0 (by omega), putAt_skip h1 (by omega), putAt_skip h2 (by omega), putAt_skip h3 (by omega), putAt_skip h4 (by omega), putAt_skip h5 (by omega), putAt_skip h6 (by omega)]
  exact (by rw [putAt_here h])
theorem put_row8 {x0 x1 x2 x3 x4 x5 x6 x7 x9 x10 x11 x12 x13 x14 x15 s : List UInt8} (h0 : x0.length = 100) (h1 : x1.length = 8) (h2 : x2.length = 8) (h3 : x3.length = 8) (h4 : x4.length = 12) (h5 : x5.length = 12) (h6 : x6.length = 8) (h7 : x7.length = 1) (h : s.length ≤ 100) : putAt (rowF x0 x1 x2 x3 x4 x5 x6 x7 (List.replicate 100 0) x9 x10 x11 x12 x13 x14 x15) 157 s = rowF x0 x1 x2 x3 x4 x5 x6 x7 (s ++ List.replicate (100 - s.length) 0) x9 x10 x11 x12 x13 x14 x15 := by
  unfold rowF
  rw [putAt_skip h0 (by omega), putAt_skip h1 (by omega), putAt_skip h2 (by omega), putAt_skip h3 (by omega), putAt_skip h4 (by omega), putAt_skip h5 (by omega), putAt_skip h6 (by omega), putAt_skip h7 (by omega)]
  exact (by rw [putAt_here h])
theorem put_row9 {x0 x1 x2 x3 x4 x5 x6 x7 x8 x10 x11 x12 x13 x14 x15 s : List UInt8} (h0 : x0.length = 100) (h1 : x1.length = 8) (h2 : x2.length = 8) (h3 : x3.length = 8) (h4 : x4.length = 12) (h5 : x5.length = 12) (h6 : x6.length = 8) (h7 : x7.length = 1) (h8 : x8.length = 100) (h : s.length ≤ 8) : putAt (rowF x0 x1 x2 x3 x4 x5 x6 x7 x8 (List.replicate 8 0) x10 x11 x12 x13 x14 x15) 257 s = rowF x0 x1 x2 x3 x4 x5 x6 x7 x8 (s ++ List.replicate (8 - s.length) 0) x10 x11 x12 x13 x14 x15 := by
  unfold rowF
  rw [putAt_skip h0 (by omega), putAt_skip h1 (by omega), putAt_skip h2 (by omega), putAt_skip h3 (by omega), putAt_skip h4 (by omega), putAt_skip h5 (by omega), putAt_skip h6 (by omega), putAt_skip h7 (by omega), putAt_skip h8 (by omega)]
  exact (by rw [putAt_here h])
theorem put_row10 {x0 x1 x2 x3 x4 x5 x6 x7 x8 x9 x11 x12 x13 x14 x15 s : List UInt8} (h0 : x0.length = 100) (h1 : x1.length = 8) (h2 : x2.length = 8) (h3 : x3.length = 8) (h4 : x4.length = 12) (h5 : x5.length = 12) (h6 : x6.length = 8) (h7 : x7.length = 1) (h8 : x8.length = 100) (h9 : x9.length = 8) (h : s.length ≤ 32) : putAt (rowF x0 x1 x2 x3 x4 x5 x6 x7 x8 x9 (List.replicate 32 0) x11 x12 x13 x14 x15) 265 s = rowF x0 x1 x2 x3 x4 x5 x6 x7 x8 x9 (s ++ List.replicate (32 - s.length) 0) x11 x12 x13 x14 x15 := by
  unfold rowF
  rw [putAt_skip h0 (by omega), putAt_skip h1 (by omega), putAt_skip h2 (by omega), putAt_skip h3 (by omega), putAt_skip h4 (by omega), putAt_skip h5 (by omega), putAt_skip h6 (by omega), putAt_skip h7 (by omega), putAt_skip h8 (by omega), putAt_skip h9 (by omega)]
  exact (by rw [putAt_here h])
theorem put_row11 {x0 x1 x2 x3 x4 x5 x6 x7 x8 x9 x10 x12 x13 x14 x15 s : List UInt8} (h0 : x0.length = 100) (h1 : x1.length = 8) (h2 : x2.length = 8) (h3 : x3.length = 8) (h4 : x4.length = 12) (h5 : x5.length = 12) (h6 : x6.length = 8) (h7 : x7.length = 1) (h8 : x8.length = 100) (h9 : x9.length = 8) (h10 : x10.length = 32) (h : s.length ≤ 32) : putAt (rowF x0 x1 x2 x3 x4 x5 x6 x7 x8 x9 x10 (List.replicate 32 0) x12 x13 x14 x15) 297 s = rowF x0 x1 x2 x3 x4 x5 x6 x7 x8 x9 x10 (s ++ List.replicate (32 - s.length) 0) x12 x13 x14 x15 := by
  unfold rowF
  rw [putAt_skip h0 (by omega), putAt_skip h1 (by omega), putAt_skip h2 (by omega), putAt_skip h3 (by omega), putAt_skip h4 (by omega), putAt_skip h5 (by omega), putAt_skip h6 (by omega), putAt_skip h7 (by omega), putAt_skip h8 (by omega), putAt_skip h9 (by omega), putAt_skip h10 (by omega)]
  exact (by rw [putAt_here h])
theorem put_row12 {x0 x1 x2 x3 x4 x5 x6 x7 x8 x9 x10 x11 x13 x14 x15 s : List UInt8} (h0 : x0.length = 100) (h1 : x1.length = 8) (h2 : x2.length = 8) (h3 : x3.length = 8) (h4 : x4.length = 12) (h5 : x5.length = 12) (h6 : x6.length = 8) (h7 : x7.length = 1) (h8 : x8.length = 100) (h9 : x9.length = 8) (h10 : x10.length = 32) (h11 : x11.length = 32) (h : s.length ≤ 8) : putAt (rowF x0 x1 x2 x3 x4 x5 x6 x7 x8 x9 x10 x11 (List.replicate 8 0) x13 x14 x15) 329 s = rowF x0 x1 x2 x3 x4 x5 x6 x7 x8 x9 x10 x11 (s ++ List.replicate (8 - s.length) 0) x13 x14 x15 := by
  unfold rowF
  rw [putAt_skip h0 (by omega), putAt_skip h1 (by omega), putAt_skip h2 (by omega), putAt_skip h3 (by omega), putAt_skip h4 (by omega), putAt_skip h5 (by omega), putAt_skip h6 (by omega), putAt_skip h7 (by omega), putAt_skip h8 (by omega), putAt_skip h9 (by omega), putAt_skip h10 (by omega), putAt_skip h11 (by omega)]
  exact (by rw [putAt_here h])
theorem put_row13 {x0 x1 x2 x3 x4 x5 x6 x7 x8 x9 x10 x11 x12 x14 x15 s : List UInt8} (h0 : x0.length = 100) (h1 : x1.length = 8) (h2 : x2.length = 8) (h3 : x3.length = 8) (h4 : x4.length = 12) (h5 : x5.length = 12) (h6 : x6.length = 8) (h7 : x7.length = 1) (h8 : x8.length = 100) (h9 : x9.length = 8) (h10 : x10.length = 32) (h11 : x11.length = 32) (h12 : x12.length = 8) (h : s.length ≤ 8) : putAt (rowF x0 x1 x2 x3 x4 x5 x6 x7 x8 x9 x10 x11 x12 (List.replicate 8 0) x14 x15) 337 s = rowF x0 x1 x2 x3 x4 x5 x6 x7 x8 x9 x10 x11 x12 (s ++ List.replicate (8 - s.length) 0) x14 x15 := by
  unfold rowF
  rw [putAt_skip h0 (by omega), putAt_skip h1 (by omega), putAt_skip h2 (by omega), putAt_skip h3 (by omega), putAt_skip h4 (by omega), putAt_skip h5 (by omega), putAt_skip h6 (by omega), putAt_skip h7 (by omega), putAt_skip h8 (by omega), putAt_skip h9 (by omega), putAt_skip h10 (by omega), putAt_skip h11 (by omega), putAt_skip h12 (by omega)]
  exact (by rw [putAt_here h])
theorem put_row14 {x0 x1 x2 x3 x4 x5 x6 x7 x8 x9 x10 x11 x12 x13 x15 s : List UInt8} (h0 : x0.length = 100) (h1 : x1.length = 8) (h2 : x2.length = 8) (h3 : x3.length = 8) (h4 : x4.length = 12) (h5 : x5.length = 12) (h6 : x6.length = 8) (h7 : x7.length = 1) (h8 : x8.length = 100) (h9 : x9.length = 8) (h10 : x10.length = 32) (h11 : x11.length = 32) (h12 : x12.length = 8) (h13 : x13.length = 8) (h : s.length ≤ 155) : putAt (rowF x0 x1 x2 x3 x4 x5 x6 x7 x8 x9 x10 x11 x12 x13 (List.replicate 155 0) x15) 345 s = rowF x0 x1 x2 x3 x4 x5 x6 x7 x8 x9 x10 x11 x12 x13 (s ++ List.replicate (155 - s.length) 0) x15 := by
  unfold rowF
  rw [putAt_skip h0 (by omega), putAt_skip h1 (by omega), putAt_skip h2 (by omega), putAt_skip h3 (by omega), putAt_skip h4 (by omega), putAt_skip h5 (by omega), putAt_skip h6 (by omega), putAt_skip h7 (by omega), putAt_skip h8 (by omega), putAt_skip h9 (by omega), putAt_skip h10 (by omega), putAt_skip h11 (by omega), putAt_skip h12 (by omega), putAt_skip h13 (by omega)]
  exact (by rw [putAt_here h])
/-- the header ahead of its sum. -/
def bodyP (d : Nat) (r : RawL) : List UInt8 := rowF (txtG r.name 100) (numG r.mode 8 (d == 3)) (numG r.uid 8 (d == 3)) (numG r.gid 8 (d == 3)) (numG r.size 12 (d == 3)) (numG r.time 12 (d == 3)) (List.replicate 8 0) [r.kind] (txtG r.link 100) (magicL d) (txtG r.user 32) (txtG r.group 32) (devG d r.major) (devG d r.minor) (txtG r.front 155) (List.replicate 12 0)
theorem bodyL_row (d : Nat) (r : RawL) : bodyL d r = rowF (txtG r.name 100) (numG r.mode 8 (d == 3)) (numG r.uid 8 (d == 3)) (numG r.gid 8 (d == 3)) (numG r.size 12 (d == 3)) (numG r.time 12 (d == 3)) (List.replicate 8 32) [r.kind] (txtG r.link 100) (magicL d) (txtG r.user 32) (txtG r.group 32) (devG d r.major) (devG d r.minor) (txtG r.front 155) (List.replicate 12 0) := rfl
theorem fit0 {s : List UInt8} {n : Nat} (h : s.length = n) : s ++ List.replicate (n - s.length) 0 = s := by rw [h, Nat.sub_self, List.replicate_zero, List.append_nil]
theorem hdrM_body {d : Nat} {r : RawL} (h1 : 1 ≤ d ∧ d ≤ 4) (hb : bearsL d r) (hn : numsOk d r = true) (ht : txtsOk r = true) : hdrM d r = bodyP d r := by
  have w := goodL.wide hn ht
  unfold txtsOk at ht
  simp only [Bool.and_eq_true] at ht
  obtain ⟨t1, t2, t3, t4, t5⟩ := ht
  have u1 := (txtOk_iff.1 t1).1
  have u2 := (txtOk_iff.1 t2).1
  have u3 := (txtOk_iff.1 t3).1
  have u4 := (txtOk_iff.1 t4).1
  have u5 := (txtOk_iff.1 t5).1
  have z0 : ∀ n, (List.replicate n (0 : UInt8)).length = n := fun n => List.length_replicate
  have w8 := w.h8
  have w10 := w.h10
  have w11 := w.h11
  have w14 := w.h14
  have eT : hdrT r 5 = rowF (txtG r.name 100) (List.replicate 8 0) (List.replicate 8 0) (List.replicate 8 0) (List.replicate 12 0) (List.replicate 12 0) (List.replicate 8 0) (List.replicate 1 0) (txtG r.link 100) (List.replicate 8 0) (txtG r.user 32) (txtG r.group 32) (List.replicate 8 0) (List.replicate 8 0) (txtG r.front 155) (List.replicate 12 0) := by
    show putAt (putAt (putAt (putAt (putAt (List.replicate 512 0) 0 r.name) 157 r.link) 265 r.user) 297 r.group) 345 r.front = _
    rw [zeros_row, put_row0 u1, txtG_put t1, put_row8 w.h0 (z0 _) (z0 _) (z0 _) (z0 _) (z0 _) (z0 _) (z0 _) u2, txtG_put t2, put_row10 w.h0 (z0 _) (z0 _) (z0 _) (z0 _) (z0 _) (z0 _) (z0 _) w8 (z0 _) u3, txtG_put t3, put_row11 w.h0 (z0 _) (z0 _) (z0 _) (z0 _) (z0 _) (z0 _) (z0 _) w8 (z0 _) w10 u4, txtG_put t4, put_row14 w.h0 (z0 _) (z0 _) (z0 _) (z0 _) (z0 _) (z0 _) (z0 _) w8 (z0 _) w10 w11 (z0 _) (z0 _) u5, txtG_put t5]
  have e5 : hdrN d r 5 = rowF (txtG r.name 100) (numG r.mode 8 (d == 3)) (numG r.uid 8 (d == 3)) (numG r.gid 8 (d == 3)) (numG r.size 12 (d == 3)) (numG r.time 12 (d == 3)) (List.replicate 8 0) (List.replicate 1 0) (txtG r.link 100) (List.replicate 8 0) (txtG r.user 32) (txtG r.group 32) (List.replicate 8 0) (List.replicate 8 0) (txtG r.front 155) (List.replicate 12 0) := by
    show putAt (putAt (putAt (putAt (putAt (hdrT r 5) 100 (numG r.mode 8 (d == 3))) 108 (numG r.uid 8 (d == 3))) 116 (numG r.gid 8 (d == 3))) 124 (numG r.size 12 (d == 3))) 136 (numG r.time 12 (d == 3)) = _
    rw [eT, put_row1 w.h0 (Nat.le_of_eq w.h1), fit0 w.h1, put_row2 w.h0 w.h1 (Nat.le_of_eq w.h2), fit0 w.h2, put_row3 w.h0 w.h1 w.h2 (Nat.le_of_eq w.h3), fit0 w.h3, put_row4 w.h0 w.h1 w.h2 w.h3 (Nat.le_of_eq w.h4), fit0 w.h4, put_row5 w.h0 w.h1 w.h2 w.h3 w.h4 (Nat.le_of_eq w.h5), fit0 w.h5]
  have eN : hdrN d r (nMany d) = rowF (txtG r.name 100) (numG r.mode 8 (d == 3)) (numG r.uid 8 (d == 3)) (numG r.gid 8 (d == 3)) (numG r.size 12 (d == 3)) (numG r.time 12 (d == 3)) (List.replicate 8 0) (List.replicate 1 0) (txtG r.link 100) (List.replicate 8 0) (txtG r.user 32) (txtG r.group 32) (devG d r.major) (devG d r.minor) (txtG r.front 155) (List.replicate 12 0) := by
    have v12 := w.h12
    have v13 := w.h13
    unfold nMany
    unfold devG at v12 v13 ⊢
    by_cases hd : d = 1
    · rw [if_pos hd, if_pos hd, if_pos hd, e5]
    · rw [if_neg hd] at v12 v13
      rw [if_neg hd, if_neg hd, if_neg hd]
      show putAt (putAt (hdrN d r 5) 329 (numG r.major 8 (d == 3))) 337 (numG r.minor 8 (d == 3)) = _
      rw [e5, put_row12 w.h0 w.h1 w.h2 w.h3 w.h4 w.h5 (z0 _) (z0 _) w8 (z0 _) w10 w11 (Nat.le_of_eq v12), fit0 v12, put_row13 w.h0 w.h1 w.h2 w.h3 w.h4 w.h5 (z0 _) (z0 _) w8 (z0 _) w10 w11 v12 (Nat.le_of_eq v13), fit0 v13]
  have v12 := w.h12
  have v13 := w.h13
  have eK : hdrK d r = rowF (txtG r.name 100) (numG r.mode 8 (d == 3)) (numG r.uid 8 (d == 3)) (numG r.gid 8 (d == 3)) (numG r.size 12 (d == 3)) (numG r.time 12 (d == 3)) (List.replicate 8 0) [r.kind] (txtG r.link 100) (List.replicate 8 0) (txtG r.user 32) (txtG r.group 32) (devG d r.major) (devG d r.minor) (txtG r.front 155) (List.replicate 12 0) := by
    unfold hdrK
    rw [eN, set_putAt _ (by unfold rowF; simp only [List.length_append, w.h0, w.h1, w.h2, w.h3, w.h4, w.h5, z0]; omega), put_row7 w.h0 w.h1 w.h2 w.h3 w.h4 w.h5 (z0 _) (s := [r.kind]) (by simp)]
    rfl
  unfold hdrM bodyP
  rw [eK]
  by_cases hd : d = 1
  · subst hd
    rw [show magicP 1 = [] from rfl, putAt_nil]
    rfl
  · rw [show magicP d = magicL d from if_neg hd, put_row9 w.h0 w.h1 w.h2 w.h3 w.h4 w.h5 (z0 _) rfl w8 (Nat.le_of_eq w.h9), fit0 w.h9]

end Go.Proofs.YtapfkjdkpcgoiaaDoor
