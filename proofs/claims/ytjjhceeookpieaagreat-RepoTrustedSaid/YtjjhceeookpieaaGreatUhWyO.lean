/- WyO -/
import Derived.Test.YtjjhceeookpieaaGreatUhWuB
import Derived.Test.YtjjhceeookpieaaGreatUhOpens
open Go Go.RowKit Go.WideShapes Go.ChangeShapes Go.Deep
namespace Go.Proofs.YtjjhceeookpieaaGreat
theorem cIW: Tryz.prog.cellsOf 3=1:=by kernel_rfl
theorem cHW: Tryz.prog.cellsOf 23=32:=by kernel_rfl
theorem cUW: Tryz.prog.cellsOf 5=1:=by kernel_rfl
theorem cSW: Tryz.prog.cellsOf 9=1:=by kernel_rfl
theorem WM:Xa Tryz.prog Ak 23:=VO Tryz.underlying23 Tryz.underlying5 cUW cHW
end Go.Proofs.YtjjhceeookpieaaGreat
