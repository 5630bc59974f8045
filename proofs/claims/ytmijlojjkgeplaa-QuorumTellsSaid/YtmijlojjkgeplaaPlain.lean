/- What the closing of every law without listed variables uses. -/
import Derived.Test.YtmijlojjkgeplaaOpens
import Derived.Test.YtmijlojjkgeplaaRows
open Go Go.RowKit
namespace Go.Proofs.Ytmijlojjkgeplaa
theorem ownK : ownKnob Try.prog.godebug = none := by kernel_rfl
theorem laidOutP : laidOutB Try.prog = true := by kernel_rfl
end Go.Proofs.Ytmijlojjkgeplaa
