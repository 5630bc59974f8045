/- Rows of bytes: what the table says; an empty one. -/
import Derived.Test.YtmijlojjkgeplaaBase
import Derived.Test.YtmijlojjkgeplaaProg
open Go Go.RowKit
namespace Go.Proofs.Ytmijlojjkgeplaa
theorem elemB : Elem Try.prog 39 5 1 1 (.int .u8 0) := ⟨Try.underlying39, by kernel_rfl, rfl, by omega⟩
theorem elem_nil (w : World) : Own (w.alloc (.cells #[] 5)) 5 1 (some ⟨w.heap.size, 0, none⟩) 0 0 (bs []) := Own.new w _ 1 0 #[] (by simp [maxLen]) rfl
end Go.Proofs.Ytmijlojjkgeplaa
