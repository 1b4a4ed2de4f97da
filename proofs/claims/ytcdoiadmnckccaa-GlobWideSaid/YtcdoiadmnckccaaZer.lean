/- The zero value of a set, as the load's facts have it (the plain seat). -/
import Derived.Test.YtcdoiadmnckccaaAr
namespace Go.Proofs.Ytcdoiadmnckccaa
theorem set_zero : Try.zeroCells54 = rowA 256 (fun _ => false) := by kernel_rfl
end Go.Proofs.Ytcdoiadmnckccaa
