/- OcEl -/
import Derived.Test.YthcleccofccbdaaTrBase
import Derived.Test.YthcleccofccbdaaProg
open Go Go.RowKit
namespace Go.Proofs.Ythcleccofccbdaa
theorem elemB : Elem Try.prog 28 5 1 1 (.int .u8 0) := ⟨Try.underlying28, by kernel_rfl, rfl, by omega⟩
theorem elem_nil (w : World) : Own (w.alloc (.cells #[] 5)) 5 1 (some ⟨w.heap.size, 0, none⟩) 0 0 (bs []) := Own.new w _ 1 0 #[] (by simp [maxLen]) rfl
end Go.Proofs.Ythcleccofccbdaa
