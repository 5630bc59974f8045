/- ForEcu of the reference. -/
import Derived.Test.YtojbbmgghhmgmaaFdE
open Go Go.RowKit
namespace Go.Proofs.Ytojbbmgghhmgmaa
end Go.Proofs.Ytojbbmgghhmgmaa
