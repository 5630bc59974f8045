/- OcEl -/
import Derived.Test.YtcgbgeheiklhhaaGreatTfBase
import Derived.Test.YtcgbgeheiklhhaaGreatProg
open Go Go.RowKit
namespace Go.Proofs.YtcgbgeheiklhhaaGreat
theorem elemB : Elem Tryz.prog 36 5 1 1 (.int .u8 0) := ⟨Tryz.underlying36, by kernel_rfl, rfl, by omega⟩
theorem elem_nil (w : World) : Own (w.alloc (.cells #[] 5)) 5 1 (some ⟨w.heap.size, 0, none⟩) 0 0 (bs []) := Own.new w _ 1 0 #[] (by simp [maxLen]) rfl
end Go.Proofs.YtcgbgeheiklhhaaGreat
