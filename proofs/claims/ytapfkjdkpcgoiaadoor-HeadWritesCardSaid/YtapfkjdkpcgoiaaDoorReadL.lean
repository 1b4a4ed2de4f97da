/- The reference's NumberRead at every short string; the law NumberReads' walk. -/
import Derived.Test.YtapfkjdkpcgoiaaDoorRefOct
namespace Go.Proofs.YtapfkjdkpcgoiaaDoor
open Go.RowKit

end Go.Proofs.YtapfkjdkpcgoiaaDoor
