/- OcEl -/
import Derived.Test.YteieielodooglaaGreatTsBase
import Derived.Test.YteieielodooglaaGreatProg
open Go Go.RowKit
namespace Go.Proofs.YteieielodooglaaGreat
theorem elemB : Elem Tryz.prog 29 5 1 1 (.int .u8 0) := ⟨Tryz.underlying29, by kernel_rfl, rfl, by omega⟩
theorem elem_nil (w : World) : Own (w.alloc (.cells #[] 5)) 5 1 (some ⟨w.heap.size, 0, none⟩) 0 0 (bs []) := Own.new w _ 1 0 #[] (by simp [maxLen]) rfl
end Go.Proofs.YteieielodooglaaGreat
