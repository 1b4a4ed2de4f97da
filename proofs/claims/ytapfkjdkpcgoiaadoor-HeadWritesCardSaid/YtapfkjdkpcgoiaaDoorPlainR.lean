/- Plain mathematics of reading numeric fields: no program. -/
import Derived.Test.YtapfkjdkpcgoiaaDoorPlainO
import Derived.Lib.SlTrimSet
import Derived.Laws.BitsAllLaws
import Derived.Laws.Bits64b
namespace Go.Proofs.YtapfkjdkpcgoiaaDoor

theorem drop_get (s : ByteArray) (k : Nat) (h : k < s.size) : s.data.toList.drop k = s[k] :: s.data.toList.drop (k + 1) := by
  have h' : k < s.data.toList.length := by simpa using h
  rw [List.drop_eq_getElem_cons h']; rfl
theorem drop_end (s : ByteArray) : s.data.toList.drop s.size = [] := by
  apply List.drop_of_length_le; simp

/-- bits joined: x * 256 | b. -/
theorem or_256 (n b : Int) (h1 : -36028797018963968 ≤ n) (h2 : n ≤ 36028797018963967) (h3 : 0 ≤ b) (h4 : b < 256) : bits .or .i64 (n * 256) b = n * 256 + b := by
  have key : (BitVec.ofInt 64 (n * 256) ||| BitVec.ofInt 64 b).toNat = (n % 72057594037927936).toNat * 256 + b.toNat := by
    rw [BitVec.toNat_or, BitVec.toNat_ofInt, BitVec.toNat_ofInt]
    have e1 : (n * 256 % ((2 ^ 64 : Nat) : Int)).toNat = (n % 72057594037927936).toNat <<< 8 := by rw [Nat.shiftLeft_eq]; omega
    have e2 : (b % ((2 ^ 64 : Nat) : Int)).toNat = b.toNat := by omega
    rw [e1, e2, ← Nat.shiftLeft_add_eq_or_of_lt (by omega : b.toNat < 2 ^ 8), Nat.shiftLeft_eq]
  show IntKind.i64.wrap ((BitVec.ofInt 64 (n * 256) ||| BitVec.ofInt 64 b).toNat : Nat) = _
  rw [key, IntKind.wrap_i64]
  omega
theorem or_8 (n b : Int) (h1 : 0 ≤ n) (h2 : n < 1152921504606846976) (h3 : 0 ≤ b) (h4 : b < 8) : bits .or .i64 (n * 8) b = n * 8 + b := by
  have key : (BitVec.ofInt 64 (n * 8) ||| BitVec.ofInt 64 b).toNat = n.toNat * 8 + b.toNat := by
    rw [BitVec.toNat_or, BitVec.toNat_ofInt, BitVec.toNat_ofInt]
    have e1 : (n * 8 % ((2 ^ 64 : Nat) : Int)).toNat = n.toNat <<< 3 := by rw [Nat.shiftLeft_eq]; omega
    have e2 : (b % ((2 ^ 64 : Nat) : Int)).toNat = b.toNat := by omega
    rw [e1, e2, ← Nat.shiftLeft_add_eq_or_of_lt (by omega : b.toNat < 2 ^ 3), Nat.shiftLeft_eq]
  show IntKind.i64.wrap ((BitVec.ofInt 64 (n * 8) ||| BitVec.ofInt 64 b).toNat : Nat) = _
  rw [key, IntKind.wrap_i64]
  omega

/-- octal digits read from n on: the number, and the error. -/
def roF : Int → List UInt8 → Int × Int
  | n, [] => (n, 0)
  | n, c :: l => if (c.toNat : Int) < 48 ∨ 55 < (c.toNat : Int) then (0, 3) else if 1152921504606846976 ≤ n then (0, 2) else roF (n * 8 + ((c.toNat : Int) - 48)) l
/-- base 256 read from n on. -/
def rbF : Int → List UInt8 → Int × Int
  | n, [] => (n, 0)
  | n, c :: l => if n < -36028797018963968 ∨ 36028797018963967 < n then (0, 2) else rbF (n * 256 + (c.toNat : Int)) l

theorem roF_bad {n : Int} {c : UInt8} {l : List UInt8} (h : (c.toNat : Int) < 48 ∨ 55 < (c.toNat : Int)) : roF n (c :: l) = (0, 3) := by rw [roF, if_pos h]
theorem roF_big {n : Int} {c : UInt8} {l : List UInt8} (h : ¬ ((c.toNat : Int) < 48 ∨ 55 < (c.toNat : Int))) (h2 : 1152921504606846976 ≤ n) : roF n (c :: l) = (0, 2) := by rw [roF, if_neg h, if_pos h2]
theorem roF_go {n : Int} {c : UInt8} {l : List UInt8} (h : ¬ ((c.toNat : Int) < 48 ∨ 55 < (c.toNat : Int))) (h2 : ¬ 1152921504606846976 ≤ n) : roF n (c :: l) = roF (n * 8 + ((c.toNat : Int) - 48)) l := by rw [roF, if_neg h, if_neg h2]
theorem rbF_big {n : Int} {c : UInt8} {l : List UInt8} (h : n < -36028797018963968 ∨ 36028797018963967 < n) : rbF n (c :: l) = (0, 2) := by rw [rbF, if_pos h]
theorem rbF_go {n : Int} {c : UInt8} {l : List UInt8} (h : ¬ (n < -36028797018963968 ∨ 36028797018963967 < n)) : rbF n (c :: l) = rbF (n * 256 + (c.toNat : Int)) l := by rw [rbF, if_neg h]

def trimL (l : List UInt8) : List UInt8 := Lib.trimLeftB l 32
def trimR (l : List UInt8) : List UInt8 := Lib.trimRightS l [32, 0]

/-- the first byte's number in base 256. -/
def firstF (c : UInt8) : Int := if (c.toNat : Int) = 255 then -1 else (c.toNat : Int) - 128
/-- What both readers give: the number, and the error. -/
def readF : List UInt8 → Int × Int
  | [] => (0, 3)
  | c :: r => if 128 ≤ (c.toNat : Int) then rbF (firstF c) r else roF 0 (trimR (trimL (c :: r)))
theorem readF_bin (c : UInt8) (r : List UInt8) (h : 128 ≤ c.toNat) : readF (c :: r) = rbF (firstF c) r := by
  show (if 128 ≤ (c.toNat : Int) then rbF (firstF c) r else roF 0 (trimR (trimL (c :: r)))) = _
  rw [if_pos (by omega)]
theorem readF_oct (c : UInt8) (r : List UInt8) (h : ¬ 128 ≤ c.toNat) : readF (c :: r) = roF 0 (trimR (trimL (c :: r))) := by
  show (if 128 ≤ (c.toNat : Int) then rbF (firstF c) r else roF 0 (trimR (trimL (c :: r)))) = _
  rw [if_neg (by omega)]

/-- x * 256 | b, unsigned. -/
theorem oru_256 (n b : Int) (h1 : 0 ≤ n) (h2 : n ≤ 72057594037927935) (h3 : 0 ≤ b) (h4 : b < 256) : bits .or .u64 (n * 256) b = n * 256 + b := by
  have key : (BitVec.ofInt 64 (n * 256) ||| BitVec.ofInt 64 b).toNat = n.toNat * 256 + b.toNat := by
    rw [BitVec.toNat_or, BitVec.toNat_ofInt, BitVec.toNat_ofInt]
    have e1 : (n * 256 % ((2 ^ 64 : Nat) : Int)).toNat = n.toNat <<< 8 := by rw [Nat.shiftLeft_eq]; omega
    have e2 : (b % ((2 ^ 64 : Nat) : Int)).toNat = b.toNat := by omega
    rw [e1, e2, ← Nat.shiftLeft_add_eq_or_of_lt (by omega : b.toNat < 2 ^ 8), Nat.shiftLeft_eq]
  show IntKind.u64.wrap ((BitVec.ofInt 64 (n * 256) ||| BitVec.ofInt 64 b).toNat : Nat) = _
  rw [key, IntWalk.u64_in _ ⟨by omega, by omega⟩]
  omega
theorem oru_0 (x : Int) (h1 : 0 ≤ x) (h2 : x ≤ 18446744073709551615) : bits .or .u64 0 x = x := by
  have key : (BitVec.ofInt 64 0 ||| BitVec.ofInt 64 x).toNat = x.toNat := by
    rw [BitVec.toNat_or, BitVec.toNat_ofInt, BitVec.toNat_ofInt]
    have e1 : ((0 : Int) % ((2 ^ 64 : Nat) : Int)).toNat = 0 := by omega
    have e2 : (x % ((2 ^ 64 : Nat) : Int)).toNat = x.toNat := by omega
    rw [e1, e2, Nat.zero_or]
  show IntKind.u64.wrap ((BitVec.ofInt 64 0 ||| BitVec.ofInt 64 x).toNat : Nat) = _
  rw [key, IntWalk.u64_in _ ⟨by omega, by omega⟩]
  omega
end Go.Proofs.YtapfkjdkpcgoiaaDoor
