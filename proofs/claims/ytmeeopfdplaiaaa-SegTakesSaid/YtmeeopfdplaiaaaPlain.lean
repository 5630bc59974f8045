/- What the closing of every law without listed variables uses. -/
import Derived.Test.YtmeeopfdplaiaaaOpen
import Derived.Test.YtmeeopfdplaiaaaRows
open Go Go.RowKit
namespace Go.Proofs.Ytmeeopfdplaiaaa
theorem ownK : ownKnob Try.prog.godebug = none := by kernel_rfl
theorem laidOutP : laidOutB Try.prog = true := by kernel_rfl
end Go.Proofs.Ytmeeopfdplaiaaa
