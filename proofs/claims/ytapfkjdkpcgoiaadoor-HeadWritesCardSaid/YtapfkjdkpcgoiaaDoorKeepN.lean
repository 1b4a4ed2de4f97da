/- The laws NumberOrder, NumberOne, NumberBack: their walks. -/
import Derived.Test.YtapfkjdkpcgoiaaDoorField
namespace Go.Proofs.YtapfkjdkpcgoiaaDoor
open Go.RowKit
set_option linter.unusedVariables false
set_option linter.unusedSimpArgs false

theorem mostF_lt (n : Int) (W : Nat) (h1 : 2 ≤ W) (h2 : W ≤ 20) (hn : 0 ≤ n) : n ≤ mostF W ↔ n < 8 ^ (W - 1) := by
  rw [mostF_octn n W h1 h2 hn, octn_pow n hn]

theorem str_eq (x y : List Int) : ((strOfNums x).toList == (strOfNums y).toList) = decide ((x.map u8) = (y.map u8)) := by
  rw [ByteArray.toList_eq, ByteArray.toList_eq, strOf_list, strOf_list, Bool.eq_iff_iff]
  simp

theorem oct_inj (a b : Int) (W : Nat) (h1 : 2 ≤ W) (h2 : W ≤ 20) (ha : 0 ≤ a) (ha2 : a ≤ mostF W) (hb : 0 ≤ b) (hb2 : b ≤ mostF W) (h : (octNums a W).map u8 = (octNums b W).map u8) : a = b := by
  have e1 := back_oct a W h1 h2 ha ((mostF_lt a W h1 h2 ha).1 ha2)
  have e2 := back_oct b W h1 h2 hb ((mostF_lt b W h1 h2 hb).1 hb2)
  rw [h, e2] at e1
  exact (Prod.mk.inj e1).1.symm

/-- Octal: it fits or it does not. -/
theorem octal_case (n : Int) (V : Nat) (h1 : 2 ≤ V) (h2 : V ≤ 20) : (0 ≤ n ∧ n ≤ mostF V) ∨ (n < 0 ∨ mostF V < n) := by omega

/-! ### NumberOne -/
/-- What is written is read. -/
theorem wr_back (n W : Int) (b : Bool) (s : ByteArray) (h : Wr n W b 0 s) (hn1 : -9223372036854775808 ≤ n) (hn2 : n ≤ 9223372036854775807) : readS s = (n, 0) := by
  unfold readS
  cases h with
  | oct V _ h1 h2 h3 h4 => rw [strOf_list]; exact back_oct n V h1 h2 h3 ((mostF_lt n V h1 h2 h3).1 h4)
  | bin V h1 h2 h3 h4 => rw [strOf_list]; exact back_bin n V h1 hn1 hn2 h4
/-- The text hangs on the number and the width alone. -/
theorem wr_same (n W : Int) (b c : Bool) (s t : ByteArray) (h : Wr n W b 0 s) (k : Wr n W c 0 t) : s = t := by
  cases h with
  | oct V _ h1 h2 h3 h4 =>
    generalize hE : (V : Int) = E at k h4
    cases k with
    | oct U _ k1 k2 k3 k4 =>
      have : U = V := by omega
      subst this; rfl
    | bin U k1 k2 k3 k4 => exact absurd k3 (by omega)
  | bin V h1 h2 h3 h4 =>
    generalize hE : (V : Int) = E at k h3
    cases k with
    | oct U _ k1 k2 k3 k4 => exact absurd h3 (by omega)
    | bin U k1 k2 k3 k4 =>
      have : U = V := by omega
      subst this; rfl

end Go.Proofs.YtapfkjdkpcgoiaaDoor
