/- What the table says of the types that are met (no digests made). -/
import Derived.Test.YthoiejmhfhdmkaaAuto6
import Derived.Test.YthoiejmhfhdmkaaProg
open Go Go.RowKit
namespace Go.Proofs.Ythoiejmhfhdmkaa
instance : ZeroT Try.prog 26 (u8s zeroH.l) := ⟨.agg (u8s zeroH.l), fun _ => by kernel_rfl, rfl⟩
instance : RowT Try.prog 26 32 := ⟨by kernel_rfl, _, Try.underlying26, rfl⟩
instance : CellT Try.prog 5 := ⟨fun _ => by kernel_rfl, fun _ => by kernel_rfl⟩
instance : CellT Try.prog 3 := ⟨fun _ => by kernel_rfl, fun _ => by kernel_rfl⟩
instance : CellT Try.prog 22 := ⟨fun _ => by kernel_rfl, fun _ => by kernel_rfl⟩
instance : ElemT Try.prog 22 26 32 32 (.agg (u8s zeroH.l)) := ⟨⟨Try.underlying22, by kernel_rfl, rfl, by decide⟩⟩
end Go.Proofs.Ythoiejmhfhdmkaa
