/- OcWB, WuA -/
import Derived.Test.YthcleccofccbdaaTbOcW
import Derived.Test.YthcleccofccbdaaTbWsB
section
open Go Go.RowKit
namespace Go.Proofs.Ythcleccofccbdaa
end Go.Proofs.Ythcleccofccbdaa
end
section
open Go Go.RowKit
namespace Go.Proofs.Ythcleccofccbdaa
instance cellWuF : CellT Try.prog 230 := ⟨fun _ => by kernel_rfl, fun _ => by kernel_rfl⟩
instance cellWuR : CellT Try.prog 259 := ⟨fun _ => by kernel_rfl, fun _ => by kernel_rfl⟩
section
variable {P : Program} {ops : Array Oper} {rest : List Oper} {a : Act} {w : World} {Q : Exit → Act → World → Prop} {dst : Option Tmp} {ty : TypeId} {pos : String} {after : Array Edge}
end
end Go.Proofs.Ythcleccofccbdaa
end
