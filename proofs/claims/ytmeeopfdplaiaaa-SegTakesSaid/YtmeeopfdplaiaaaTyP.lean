/- What the table says of the types that are met (no digests made). -/
import Derived.Test.YtmeeopfdplaiaaaAuto6
import Derived.Test.YtmeeopfdplaiaaaProg
open Go Go.RowKit
namespace Go.Proofs.Ytmeeopfdplaiaaa
instance : ZeroT Try.prog 70 (u8s zeroH.l) := ⟨.agg (u8s zeroH.l), fun _ => by kernel_rfl, rfl⟩
instance : RowT Try.prog 70 32 := ⟨by kernel_rfl, _, Try.underlying70, rfl⟩
instance : CellT Try.prog 5 := ⟨fun _ => by kernel_rfl, fun _ => by kernel_rfl⟩
instance : CellT Try.prog 3 := ⟨fun _ => by kernel_rfl, fun _ => by kernel_rfl⟩
instance : CellT Try.prog 64 := ⟨fun _ => by kernel_rfl, fun _ => by kernel_rfl⟩
instance : ElemT Try.prog 64 70 32 32 (.agg (u8s zeroH.l)) := ⟨⟨Try.underlying64, by kernel_rfl, rfl, by decide⟩⟩
end Go.Proofs.Ytmeeopfdplaiaaa
