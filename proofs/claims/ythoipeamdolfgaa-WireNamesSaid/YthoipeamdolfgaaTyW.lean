/- What the table says of the types that wire meets. -/
import Derived.Test.YthoipeamdolfgaaBase
import Derived.Test.YthoipeamdolfgaaProg
open Go Go.RowKit
namespace Go.Proofs.Ythoipeamdolfgaa
instance : CellT Try.prog 122 := ⟨fun _ => by kernel_rfl, fun _ => by kernel_rfl⟩
instance : CellT Try.prog 56 := ⟨fun _ => by kernel_rfl, fun _ => by kernel_rfl⟩
instance : CellT Try.prog 111 := ⟨fun _ => by kernel_rfl, fun _ => by kernel_rfl⟩
instance : CellT Try.prog 120 := ⟨fun _ => by kernel_rfl, fun _ => by kernel_rfl⟩
instance : ElemT Try.prog 120 111 1 8 .nilFunc := ⟨⟨Try.underlying120, by kernel_rfl, rfl, by decide⟩⟩
instance : CellT Try.prog 125 := ⟨fun _ => by kernel_rfl, fun _ => by kernel_rfl⟩
instance : CellT Try.prog 31 := ⟨fun _ => by kernel_rfl, fun _ => by kernel_rfl⟩
instance : CellT Try.prog 3 := ⟨fun _ => by kernel_rfl, fun _ => by kernel_rfl⟩
instance : RowT Try.prog 64 32 := ⟨by kernel_rfl, _, Try.underlying64, rfl⟩
instance : RowT Try.prog 66 35 := ⟨by kernel_rfl, _, Try.underlying66, rfl⟩
instance : ZeroT Try.prog 109 #[.slice none 0 0] := ⟨.agg #[.slice none 0 0], fun _ => by kernel_rfl, rfl⟩
instance : CellT Try.prog 5 := ⟨fun _ => by kernel_rfl, fun _ => by kernel_rfl⟩
instance : CellT Try.prog 4 := ⟨fun _ => by kernel_rfl, fun _ => by kernel_rfl⟩
instance : CellT Try.prog 9 := ⟨fun _ => by kernel_rfl, fun _ => by kernel_rfl⟩
instance : ElemT Try.prog 31 5 1 1 (.int .u8 0) := ⟨⟨Try.underlying31, by kernel_rfl, rfl, by decide⟩⟩
end Go.Proofs.Ythoipeamdolfgaa
