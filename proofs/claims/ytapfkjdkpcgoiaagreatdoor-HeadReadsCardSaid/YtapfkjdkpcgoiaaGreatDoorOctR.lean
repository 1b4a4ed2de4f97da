/- The reference's Octal: what it returns. -/
import Derived.Test.YtapfkjdkpcgoiaaGreatDoorOct
namespace Go.Proofs.YtapfkjdkpcgoiaaGreatDoor
open Go.RowKit

theorem mostF_octn (n : Int) (W : Nat) (h1 : 2 ≤ W) (h2 : W ≤ 20) (hn : 0 ≤ n) : n ≤ mostF W ↔ octn n (W - 1) = 0 := by
  rw [octn_pow n hn]
  unfold mostF
  rw [if_pos ⟨by omega, by omega⟩]
  unfold ipw
  rw [show ((W : Int) - 1).toNat = W - 1 by omega]
  omega

theorem octStep (n : Int) (k : Nat) : [48 + octn n k % 8] ++ octB n k = octB n (k + 1) := rfl

end Go.Proofs.YtapfkjdkpcgoiaaGreatDoor
