/- Plain mathematics of header sums: no program. -/
import Derived.Laws.BytesArg
import Derived.IntWalk
namespace Go.Proofs.YtapfkjdkpcgoiaaDoor

/-- byte k of a list, 0 behind its end. -/
def bAt (l : List UInt8) (k : Nat) : Int := ((l.getD k 0).toNat : Int)
theorem bAt_range (l : List UInt8) (k : Nat) : 0 ≤ bAt l k ∧ bAt l k ≤ 255 := by
  unfold bAt; have := (l.getD k 0).toNat_lt; omega
theorem bAt_get (s : ByteArray) (k : Nat) (h : k < s.size) : (s[k].toNat : Int) = bAt s.data.toList k := by
  have h' : k < s.data.toList.length := by simpa using h
  unfold bAt
  rw [List.getD_eq_getElem?_getD, List.getElem?_eq_getElem h']; rfl
/-- a byte's value, signed or not. -/
def bv (sg : Bool) (c : Int) : Int := if sg = true ∧ 128 ≤ c then c - 256 else c
theorem bv_range (sg : Bool) (c : Int) (h1 : 0 ≤ c) (h2 : c ≤ 255) : -128 ≤ bv sg c ∧ bv sg c ≤ 255 := by
  unfold bv; split <;> omega
/-- the sum of the first k bytes, those of the checksum as blanks. -/
def sumC (sg : Bool) (l : List UInt8) : Nat → Int
  | 0 => 0
  | k + 1 => sumC sg l k + if 148 ≤ k ∧ k < 156 then 32 else bv sg (bAt l k)
/-- the same by 256 and without those of the checksum. -/
def sumR (sg : Bool) (l : List UInt8) : Nat → Int
  | 0 => 256
  | k + 1 => sumR sg l k + if 148 ≤ k ∧ k < 156 then 0 else bv sg (bAt l k)
theorem sumC_range (sg : Bool) (l : List UInt8) (k : Nat) : -128 * (k : Int) ≤ sumC sg l k ∧ sumC sg l k ≤ 255 * (k : Int) := by
  induction k with
  | zero => exact ⟨by simp [sumC], by simp [sumC]⟩
  | succ k ih =>
    have hb := bAt_range l k
    have := bv_range sg (bAt l k) hb.1 hb.2
    rw [sumC]
    split <;> constructor <;> omega
theorem sumR_sumC (sg : Bool) (l : List UInt8) (k : Nat) : sumR sg l k = sumC sg l k + 256 - 32 * ((min (k - 148) 8 : Nat) : Int) := by
  induction k with
  | zero => simp [sumR, sumC]
  | succ k ih =>
    rw [sumR, sumC, ih]
    split <;> omega
theorem sumR_range (sg : Bool) (l : List UInt8) (k : Nat) : -128 * (k : Int) ≤ sumR sg l k ∧ sumR sg l k ≤ 255 * (k : Int) + 256 := by
  have h := sumC_range sg l k
  rw [sumR_sumC]; omega
/-- a header's sum. -/
def sumH (sg : Bool) (s : ByteArray) : Int := sumC sg s.data.toList 512
theorem sumR_done (sg : Bool) (s : ByteArray) : sumR sg s.data.toList 512 = sumH sg s := by
  rw [sumR_sumC]; unfold sumH; omega
theorem sumH_range (sg : Bool) (s : ByteArray) : -65536 ≤ sumH sg s ∧ sumH sg s ≤ 130560 := by
  have := sumC_range sg s.data.toList 512
  unfold sumH; omega
theorem sumC_in (sg : Bool) (l : List UInt8) (k : Nat) (h : 148 ≤ k ∧ k < 156) : sumC sg l (k + 1) = sumC sg l k + 32 := by rw [sumC, if_pos h]
theorem sumC_out (sg : Bool) (l : List UInt8) (k : Nat) (h : ¬ (148 ≤ k ∧ k < 156)) : sumC sg l (k + 1) = sumC sg l k + bv sg (bAt l k) := by rw [sumC, if_neg h]
theorem sumR_in (sg : Bool) (l : List UInt8) (k : Nat) (h : 148 ≤ k ∧ k < 156) : sumR sg l (k + 1) = sumR sg l k := by rw [sumR, if_pos h, Int.add_zero]
theorem sumR_out (sg : Bool) (l : List UInt8) (k : Nat) (h : ¬ (148 ≤ k ∧ k < 156)) : sumR sg l (k + 1) = sumR sg l k + bv sg (bAt l k) := by rw [sumR, if_neg h]
theorem bv_u (c : Int) : bv false c = c := by simp [bv]
theorem bv_low (sg : Bool) (c : Int) (h : c < 128) : bv sg c = c := by unfold bv; rw [if_neg (by omega)]
theorem bv_high (c : Int) (h : 128 ≤ c) : bv true c = c - 256 := by unfold bv; rw [if_pos ⟨rfl, h⟩]
theorem i8_high (c : Int) (h : 128 ≤ c) (h2 : c ≤ 255) : IntKind.i8.wrap c = c - 256 := by
  simp only [IntKind.wrap, IntKind.bits, IntKind.signed]; simp; split <;> omega
end Go.Proofs.YtapfkjdkpcgoiaaDoor
