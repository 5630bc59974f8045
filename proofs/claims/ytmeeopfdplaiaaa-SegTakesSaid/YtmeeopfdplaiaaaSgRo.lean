/- Rows of frames and times, opened. -/
import Derived.Test.YtmeeopfdplaiaaaSgRh
import Derived.Test.YtmeeopfdplaiaaaOpenA
open Go Go.RowKit Go.WideShapes Go.ChangeShapes Go.Deep
namespace Go.Proofs.Ytmeeopfdplaiaaa
theorem cAct : Try.prog.cellsOf 42 = 3 := by kernel_rfl
theorem reads_am {w : World} : ReadsP Try.prog w AM (AOk w) 42 := fun H enc spare held fuel cs x hf => by
  obtain ⟨m0, hl, E⟩ := trod_fieldsA Try.underlying42 hf
  obtain ⟨y0, e0⟩ := E 0 _ rfl
  obtain ⟨y1, e1⟩ := E 1 _ rfl
  dsimp only at e0 e1
  rw [cFr] at e0
  rw [cIn] at e1
  rw [cAct] at hl
  obtain ⟨id, A, n, c, d, g0, hF⟩ := trod_frame e0
  obtain ⟨z1, g1, _, hz1⟩ := DataW.trod_int Try.underlying3 e1
  refine ⟨⟨id, A, n, c, d, z1⟩, ?_, hF.rd, hF.len, hF.cap, hF.max, hF.wf⟩
  have q : cs = cs.drop 0 := rfl
  rw [q, seg cs 0 2 2 rfl, seg_last cs 2 1 hl, g0, g1]
  rfl
end Go.Proofs.Ytmeeopfdplaiaaa
