/- What the table says of the types that wire meets. -/
import Derived.Test.YtecmeejbpkcgiaaBase
import Derived.Test.YtecmeejbpkcgiaaProg
open Go Go.RowKit
namespace Go.Proofs.Ytecmeejbpkcgiaa
instance : CellT Try.prog 218 := ⟨fun _ => by kernel_rfl, fun _ => by kernel_rfl⟩
instance : CellT Try.prog 171 := ⟨fun _ => by kernel_rfl, fun _ => by kernel_rfl⟩
instance : CellT Try.prog 164 := ⟨fun _ => by kernel_rfl, fun _ => by kernel_rfl⟩
instance : CellT Try.prog 216 := ⟨fun _ => by kernel_rfl, fun _ => by kernel_rfl⟩
instance : ElemT Try.prog 216 164 1 8 .nilFunc := ⟨⟨Try.underlying216, by kernel_rfl, rfl, by decide⟩⟩
instance : CellT Try.prog 227 := ⟨fun _ => by kernel_rfl, fun _ => by kernel_rfl⟩
instance : CellT Try.prog 28 := ⟨fun _ => by kernel_rfl, fun _ => by kernel_rfl⟩
instance : CellT Try.prog 3 := ⟨fun _ => by kernel_rfl, fun _ => by kernel_rfl⟩
instance : RowT Try.prog 43 32 := ⟨by kernel_rfl, _, Try.underlying43, rfl⟩
instance : RowT Try.prog 45 35 := ⟨by kernel_rfl, _, Try.underlying45, rfl⟩
instance : ZeroT Try.prog 162 #[.slice none 0 0] := ⟨.agg #[.slice none 0 0], fun _ => by kernel_rfl, rfl⟩
instance : CellT Try.prog 5 := ⟨fun _ => by kernel_rfl, fun _ => by kernel_rfl⟩
instance : CellT Try.prog 4 := ⟨fun _ => by kernel_rfl, fun _ => by kernel_rfl⟩
instance : CellT Try.prog 9 := ⟨fun _ => by kernel_rfl, fun _ => by kernel_rfl⟩
instance : ElemT Try.prog 28 5 1 1 (.int .u8 0) := ⟨⟨Try.underlying28, by kernel_rfl, rfl, by decide⟩⟩
end Go.Proofs.Ytecmeejbpkcgiaa
