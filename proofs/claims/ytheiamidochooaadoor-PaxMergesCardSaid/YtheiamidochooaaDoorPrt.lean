/- A pair as two lists of bytes. -/
import Derived.Test.YtheiamidochooaaDoorPr
namespace Go.Proofs.YtheiamidochooaaDoor
abbrev Pr := List UInt8 × List UInt8
end Go.Proofs.YtheiamidochooaaDoor
