/- A pair as two lists of bytes. -/
import Derived.Test.YtheiamidochooaaPr
namespace Go.Proofs.Ytheiamidochooaa
abbrev Pr := List UInt8 × List UInt8
end Go.Proofs.Ytheiamidochooaa
