/-
  DERIVED. GIVEN WITH THE SEED: THE CARDS: each row of YthoipeamdolfgaaDoorRows.lean that lists a variable, with what it lists TIED to the program's text (the seventh form; the later family's looks); each row that meets fmt, with fmt's text TOLD by the authors' own Lean function (tested against real Go, not proved from fmt's source: count such statements apart). THE CARD IS WHAT COUNTS. Prove the row's statement (the work); the ties are given (YthoipeamdolfgaaDoorTie.lean); close each card by the builder's one call (the guide's Derived/Test/ToyasCard.lean, 'card_holds'). Laid BY PROGRAM, IN A SANDBOX (cutbox-door.mjs). By AI agents, Wed Nov 11 2026. No macro, syntax, notation, axiom, sorry.
-/
import Derived.Test.YthoipeamdolfgaaDoorRows
import GoSem.ClaimSeven
namespace Go.Proofs.YthoipeamdolfgaaDoor
namespace Rows

/-- THE TIED CARD OF 'ostlerlaw1.OctetTakes'. -/
def octetTakesCard : Claim7 := { stood := { row := octetTakesRow, standIns := [], harness := (true, "10e52a60b0c3d8c4c1bdbccc09a9d7d8d1c766780136b376cca5d56c9177a9f1"), looks := false }, kinds := [], alts := [], laidByText := true, laidKinds := [.data], laidTests := true, laidLooks := .later }
def OctetTakesCardSaid : Prop := Claim7.holds Tryd.pinned (.plain (OpenSpec.ofChange octetTakesSpec)) octetTakesCard

/-- THE SECOND FORM's CARD OF 'ostlerlaw1.OctetTakes'. -/
def octetTakesUptoCard : Claim7 := { stood := { row := octetTakesUptoRow, standIns := [], harness := (true, "10e52a60b0c3d8c4c1bdbccc09a9d7d8d1c766780136b376cca5d56c9177a9f1"), looks := false }, kinds := [], alts := [], laidByText := true, laidKinds := [.data], laidTests := true, laidLooks := .later }
def OctetTakesUptoCardSaid : Prop := Claim7.holds Tryd.pinned (.plain (OpenSpec.upto octetTakesSpec)) octetTakesUptoCard
end Rows
end Go.Proofs.YthoipeamdolfgaaDoor
