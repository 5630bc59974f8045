/- OcWB, WuA -/
import Derived.Test.YthcleccofccbdaaGreatTbOcW
import Derived.Test.YthcleccofccbdaaGreatTbWsB
section
open Go Go.RowKit
namespace Go.Proofs.YthcleccofccbdaaGreat
end Go.Proofs.YthcleccofccbdaaGreat
end
section
open Go Go.RowKit
namespace Go.Proofs.YthcleccofccbdaaGreat
instance cellWuF : CellT Tryz.prog 224 := ⟨fun _ => by kernel_rfl, fun _ => by kernel_rfl⟩
instance cellWuR : CellT Tryz.prog 234 := ⟨fun _ => by kernel_rfl, fun _ => by kernel_rfl⟩
section
variable {P : Program} {ops : Array Oper} {rest : List Oper} {a : Act} {w : World} {Q : Exit → Act → World → Prop} {dst : Option Tmp} {ty : TypeId} {pos : String} {after : Array Edge}
end
end Go.Proofs.YthcleccofccbdaaGreat
end
