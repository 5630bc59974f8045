/- Plain -/
import Derived.Test.YtjjhceeookpieaaGreatUhOpens
import Derived.Test.YtjjhceeookpieaaGreatRows
open Go Go.RowKit
namespace Go.Proofs.YtjjhceeookpieaaGreat
theorem Alh:ownKnob Tryz.prog.godebug=none:=by kernel_rfl
theorem Aat:laidOutB Tryz.prog=true:=by kernel_rfl
end Go.Proofs.YtjjhceeookpieaaGreat
