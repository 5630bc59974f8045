/- The table of octet's check sum, out of the row's list; a world that holds it. -/
import Derived.Test.YthoipeamdolfgaaDoorLaw
import Derived.Test.YthoipeamdolfgaaDoorOcSum
import Derived.Test.YthoipeamdolfgaaDoorCards
import Derived.Test.YthoipeamdolfgaaDoorTie
open Go Go.RowKit Go.WideShapes Go.ChangeShapes Go.ChangeAt
namespace Go.Proofs.YthoipeamdolfgaaDoor
theorem ownK : ownKnob Tryd.prog.godebug = none := by kernel_rfl
theorem laidOutP : laidOutB Tryd.prog = true := by kernel_rfl
theorem gTab : Tryd.prog.globalNamed "ostler/octet.halves" = some 0 := by kernel_rfl
theorem gTabType : (Tryd.prog.globals[0]?).map (·.type) = some 54 := by kernel_rfl
theorem cellsTab : Tryd.prog.cellsOf 54 = 16 := by kernel_rfl
theorem cellsU32 : Tryd.prog.cellsOf 48 = 1 := by kernel_rfl
theorem table {W : World} (h : laidMetH Tryd.prog [("ostler/octet.halves", Rows.laid_ostler_octet_halves)] W) : TabOk W := by
  have ht : Lib.TabIs Tryd.prog W "ostler/octet.halves" .u32 [0, 498536548, 997073096, 651767980, 1994146192, 1802195444, 1303535960, 1342533948, 3988292384, 4027552580, 3604390888, 3412177804, 2607071920, 2262029012, 2685067896, 3183342108] :=
    Lib.tabIs_of_head (rest := []) gTab gTabType Tryd.underlying54 Tryd.underlying48 cellsU32 cellsTab h
  intro i hi
  have h1 := ht.cell gTab i (by simpa using hi)
  rw [h1]
  congr 2
  have h2 : ∀ i, i < 16 → ([0, 498536548, 997073096, 651767980, 1994146192, 1802195444, 1303535960, 1342533948, 3988292384, 4027552580, 3604390888, 3412177804, 2607071920, 2262029012, 2685067896, 3183342108] : List Int).getD i 0 = (crcT.getD i 0 : Nat) := by decide
  exact h2 i hi
noncomputable def laidWorld (os : Os) : World :=
  { World.holding Tryd.prog os ⟨#[], #[], []⟩ with heap := (World.holding Tryd.prog os ⟨#[], #[], []⟩).heap.modify 0 fun
      | .cells _ t frozen => .cells #[.int .u32 0, .int .u32 498536548, .int .u32 997073096, .int .u32 651767980, .int .u32 1994146192, .int .u32 1802195444, .int .u32 1303535960, .int .u32 1342533948, .int .u32 3988292384, .int .u32 4027552580, .int .u32 3604390888, .int .u32 3412177804, .int .u32 2607071920, .int .u32 2262029012, .int .u32 2685067896, .int .u32 3183342108] t frozen
      | o => o }
end Go.Proofs.YthoipeamdolfgaaDoor
