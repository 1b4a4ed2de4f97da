/- The law NumberOctal's walk: true at every number and width. -/
import Derived.Test.YtapfkjdkpcgoiaaDoorOctR
import Derived.Test.YtapfkjdkpcgoiaaDoorTell
import Derived.OpenShut
namespace Go.Proofs.YtapfkjdkpcgoiaaDoor
open Go.RowKit

theorem mostF_range (W : Int) : 0 ≤ mostF W ∧ mostF W ≤ 144115188075855871 := by
  unfold mostF
  split
  · have := pow8_le W (by omega); omega
  · omega

end Go.Proofs.YtapfkjdkpcgoiaaDoor
