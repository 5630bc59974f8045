/- RlA -/
import Derived.Test.YtgjnjhhhbkidbaaGreatUcBase
import Derived.Lib.Overlaps
import Derived.Lib.AppendZerosOnto
open Go Go.RowKit
namespace Go.Proofs.YtgjnjhhhbkidbaaGreat
section
variable {P : Program} {ops : Array Oper} {rest : List Oper} {a : Act} {w : World} {Q : Exit → Act → World → Prop} {dst : Option Tmp} {ty : TypeId} {pos : String} {after : Array Edge}
end
end Go.Proofs.YtgjnjhhhbkidbaaGreat
