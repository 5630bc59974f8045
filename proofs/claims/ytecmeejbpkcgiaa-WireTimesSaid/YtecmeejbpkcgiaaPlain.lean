/- What the closing of every law without listed variables uses. -/
import Derived.Test.YtecmeejbpkcgiaaOpens
import Derived.Test.YtecmeejbpkcgiaaRows
open Go Go.RowKit
namespace Go.Proofs.Ytecmeejbpkcgiaa
theorem ownK : ownKnob Try.prog.godebug = none := by kernel_rfl
theorem laidOutP : laidOutB Try.prog = true := by kernel_rfl
end Go.Proofs.Ytecmeejbpkcgiaa
