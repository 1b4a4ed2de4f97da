/- number.Octal and the reference's Octal: what each returns. -/
import Derived.Test.YtapfkjdkpcgoiaaGreatDoorPlainO
import Derived.Test.YtapfkjdkpcgoiaaGreatDoorLow
import Derived.Test.YtapfkjdkpcgoiaaGreatDoorShelf
import Derived.Test.YtapfkjdkpcgoiaaGreatDoorBinR
namespace Go.Proofs.YtapfkjdkpcgoiaaGreatDoor
open Go.RowKit

theorem rep48 (n : Nat) (w : World) (h2 : n ≤ 1000) :
    Calls Tryz.prog 23 #[.string ⟨#[48]⟩, .int .i64 n] w fun e w' => e = .returned (.string (strOfNums (List.replicate n 48))) ∧ Below w.heap.size w w' := by
  have h := Tryz.strings_Repeat ⟨#[48]⟩ n w (by omega) (by show 1 * n ≤ _; omega)
  have e : (⟨(Lib.repeatL [48] n).toArray⟩ : ByteArray) = strOfNums (List.replicate n 48) := by
    have h48 : ∀ m, Lib.repeatL [48] m = (List.replicate m (48 : Int)).map fun n => UInt8.ofNat n.toNat := by
      intro m
      induction m with
      | zero => rfl
      | succ m ih => rw [Lib.repeatL, ih]; rfl
    unfold strOfNums
    rw [h48]
  rwa [e] at h

theorem i64_and7 (n : Int) : bits .and .i64 n 7 = n % 8 := by
  have h7 : (BitVec.ofInt 64 7).toNat = 2 ^ 3 - 1 := by decide
  have key : (BitVec.ofInt 64 n &&& BitVec.ofInt 64 7).toNat = (n % ((2 ^ 64 : Nat) : Int)).toNat % 2 ^ 3 := by
    rw [BitVec.toNat_and, BitVec.toNat_ofInt, h7, Nat.and_two_pow_sub_one_eq_mod]
  show IntKind.i64.wrap ((BitVec.ofInt 64 n &&& BitVec.ofInt 64 7).toNat : Nat) = n % 8
  rw [key, IntKind.wrap_i64]
  omega

end Go.Proofs.YtapfkjdkpcgoiaaGreatDoor
