/- The zero value of a set, as the load's facts have it (the door seat). -/
import Derived.Test.YtcdoiadmnckccaaDoorAr
namespace Go.Proofs.YtcdoiadmnckccaaDoor
theorem set_zero (w : World) : (zeroValue 40).run Tryd.prog w = .ok (.agg (rowA 256 (fun _ => false))) w := zeroSet w
end Go.Proofs.YtcdoiadmnckccaaDoor
