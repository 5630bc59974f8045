/-
  DERIVED. GIVEN WITH THE SEED: THE CARDS: each row of YtifakldkcjjokaaDoorRows.lean that lists a variable, with what it lists TIED to the program's text (the seventh form; the later family's looks); each row that meets fmt, with fmt's text TOLD by the authors' own Lean function (tested against real Go, not proved from fmt's source: count such statements apart). THE CARD IS WHAT COUNTS. Prove the row's statement (the work); the ties are given (YtifakldkcjjokaaDoorTie.lean); close each card by the builder's one call (the guide's Derived/Test/ToyasCard.lean, 'card_holds'). Laid BY PROGRAM, IN A SANDBOX (cutbox-door.mjs). By AI agents, Wed Nov 11 2026. No macro, syntax, notation, axiom, sorry.
-/
import Derived.Test.YtifakldkcjjokaaDoorRows
import GoSem.ClaimSeven
namespace Go.Proofs.YtifakldkcjjokaaDoor
namespace Rows

/-- THE TIED CARD OF 'ostlerlaw1.OctetNums'. -/
def octetNumsCard : Claim7 := { stood := { row := octetNumsRow, standIns := [], harness := (true, "cc9edf10822208e57e2dafbcd512ecf9574943910f8b5801313853a0b75131f0"), looks := false }, kinds := [], alts := [], laidByText := true, laidKinds := [.data], laidTests := true, laidLooks := .later }
def OctetNumsCardSaid : Prop := Claim7.holds Tryd.pinned (.plain (OpenSpec.ofChange octetNumsSpec)) octetNumsCard

/-- THE TIED CARD OF 'ostlerlaw1.OctetRows'. -/
def octetRowsCard : Claim7 := { stood := { row := octetRowsRow, standIns := [], harness := (true, "cc9edf10822208e57e2dafbcd512ecf9574943910f8b5801313853a0b75131f0"), looks := false }, kinds := [], alts := [], laidByText := true, laidKinds := [.data], laidTests := true, laidLooks := .later }
def OctetRowsCardSaid : Prop := Claim7.holds Tryd.pinned (.plain (OpenSpec.ofChange octetRowsSpec)) octetRowsCard

/-- THE TIED CARD OF 'ostlerlaw1.OctetTakes'. -/
def octetTakesCard : Claim7 := { stood := { row := octetTakesRow, standIns := [], harness := (true, "cc9edf10822208e57e2dafbcd512ecf9574943910f8b5801313853a0b75131f0"), looks := false }, kinds := [], alts := [], laidByText := true, laidKinds := [.data], laidTests := true, laidLooks := .later }
def OctetTakesCardSaid : Prop := Claim7.holds Tryd.pinned (.plain (OpenSpec.ofChange octetTakesSpec)) octetTakesCard

/-- THE TIED CARD OF 'ostlerlaw1.OctetSums'. -/
def octetSumsCard : Claim7 := { stood := { row := octetSumsRow, standIns := [], harness := (true, "cc9edf10822208e57e2dafbcd512ecf9574943910f8b5801313853a0b75131f0"), looks := false }, kinds := [], alts := [], laidByText := true, laidKinds := [.data], laidTests := true, laidLooks := .later }
def OctetSumsCardSaid : Prop := Claim7.holds Tryd.pinned (.plain (OpenSpec.ofChange octetSumsSpec)) octetSumsCard

/-- THE TIED CARD OF 'ostlerlaw1.OctetOfNothing'. -/
def octetOfNothingCard : Claim7 := { stood := { row := octetOfNothingRow, standIns := [], harness := (true, "cc9edf10822208e57e2dafbcd512ecf9574943910f8b5801313853a0b75131f0"), looks := false }, kinds := [], alts := [], laidByText := true, laidKinds := [.data], laidTests := true, laidLooks := .later }
def OctetOfNothingCardSaid : Prop := Claim7.holds Tryd.pinned (.plain (OpenSpec.ofChange octetOfNothingSpec)) octetOfNothingCard

/-- THE TIED CARD OF 'ostlerlaw1.OctetCuts'. -/
def octetCutsCard : Claim7 := { stood := { row := octetCutsRow, standIns := [], harness := (true, "cc9edf10822208e57e2dafbcd512ecf9574943910f8b5801313853a0b75131f0"), looks := false }, kinds := [], alts := [], laidByText := true, laidKinds := [.data], laidTests := true, laidLooks := .later }
def OctetCutsCardSaid : Prop := Claim7.holds Tryd.pinned (.plain (OpenSpec.ofChange octetCutsSpec)) octetCutsCard

/-- THE TIED CARD OF 'ostlerlaw1.OctetSmall'. -/
def octetSmallCard : Claim7 := { stood := { row := octetSmallRow, standIns := [], harness := (true, "cc9edf10822208e57e2dafbcd512ecf9574943910f8b5801313853a0b75131f0"), looks := false }, kinds := [], alts := [], laidByText := true, laidKinds := [.data], laidTests := true, laidLooks := .later }
def OctetSmallCardSaid : Prop := Claim7.holds Tryd.pinned (.plain (OpenSpec.ofChange octetSmallSpec)) octetSmallCard

/-- THE TIED CARD OF 'ostlerlaw1.OctetJoins'. -/
def octetJoinsCard : Claim7 := { stood := { row := octetJoinsRow, standIns := [], harness := (true, "cc9edf10822208e57e2dafbcd512ecf9574943910f8b5801313853a0b75131f0"), looks := false }, kinds := [], alts := [], laidByText := true, laidKinds := [.data], laidTests := true, laidLooks := .later }
def OctetJoinsCardSaid : Prop := Claim7.holds Tryd.pinned (.plain (OpenSpec.ofChange octetJoinsSpec)) octetJoinsCard

/-- THE SECOND FORM's CARD OF 'ostlerlaw1.OctetNums'. -/
def octetNumsUptoCard : Claim7 := { stood := { row := octetNumsUptoRow, standIns := [], harness := (true, "cc9edf10822208e57e2dafbcd512ecf9574943910f8b5801313853a0b75131f0"), looks := false }, kinds := [], alts := [], laidByText := true, laidKinds := [.data], laidTests := true, laidLooks := .later }
def OctetNumsUptoCardSaid : Prop := Claim7.holds Tryd.pinned (.plain (OpenSpec.upto octetNumsSpec)) octetNumsUptoCard

/-- THE SECOND FORM's CARD OF 'ostlerlaw1.OctetRows'. -/
def octetRowsUptoCard : Claim7 := { stood := { row := octetRowsUptoRow, standIns := [], harness := (true, "cc9edf10822208e57e2dafbcd512ecf9574943910f8b5801313853a0b75131f0"), looks := false }, kinds := [], alts := [], laidByText := true, laidKinds := [.data], laidTests := true, laidLooks := .later }
def OctetRowsUptoCardSaid : Prop := Claim7.holds Tryd.pinned (.plain (OpenSpec.upto octetRowsSpec)) octetRowsUptoCard

/-- THE SECOND FORM's CARD OF 'ostlerlaw1.OctetTakes'. -/
def octetTakesUptoCard : Claim7 := { stood := { row := octetTakesUptoRow, standIns := [], harness := (true, "cc9edf10822208e57e2dafbcd512ecf9574943910f8b5801313853a0b75131f0"), looks := false }, kinds := [], alts := [], laidByText := true, laidKinds := [.data], laidTests := true, laidLooks := .later }
def OctetTakesUptoCardSaid : Prop := Claim7.holds Tryd.pinned (.plain (OpenSpec.upto octetTakesSpec)) octetTakesUptoCard

/-- THE SECOND FORM's CARD OF 'ostlerlaw1.OctetSums'. -/
def octetSumsUptoCard : Claim7 := { stood := { row := octetSumsUptoRow, standIns := [], harness := (true, "cc9edf10822208e57e2dafbcd512ecf9574943910f8b5801313853a0b75131f0"), looks := false }, kinds := [], alts := [], laidByText := true, laidKinds := [.data], laidTests := true, laidLooks := .later }
def OctetSumsUptoCardSaid : Prop := Claim7.holds Tryd.pinned (.plain (OpenSpec.upto octetSumsSpec)) octetSumsUptoCard

/-- THE SECOND FORM's CARD OF 'ostlerlaw1.OctetOfNothing'. -/
def octetOfNothingUptoCard : Claim7 := { stood := { row := octetOfNothingUptoRow, standIns := [], harness := (true, "cc9edf10822208e57e2dafbcd512ecf9574943910f8b5801313853a0b75131f0"), looks := false }, kinds := [], alts := [], laidByText := true, laidKinds := [.data], laidTests := true, laidLooks := .later }
def OctetOfNothingUptoCardSaid : Prop := Claim7.holds Tryd.pinned (.plain (OpenSpec.upto octetOfNothingSpec)) octetOfNothingUptoCard

/-- THE SECOND FORM's CARD OF 'ostlerlaw1.OctetCuts'. -/
def octetCutsUptoCard : Claim7 := { stood := { row := octetCutsUptoRow, standIns := [], harness := (true, "cc9edf10822208e57e2dafbcd512ecf9574943910f8b5801313853a0b75131f0"), looks := false }, kinds := [], alts := [], laidByText := true, laidKinds := [.data], laidTests := true, laidLooks := .later }
def OctetCutsUptoCardSaid : Prop := Claim7.holds Tryd.pinned (.plain (OpenSpec.upto octetCutsSpec)) octetCutsUptoCard

/-- THE SECOND FORM's CARD OF 'ostlerlaw1.OctetSmall'. -/
def octetSmallUptoCard : Claim7 := { stood := { row := octetSmallUptoRow, standIns := [], harness := (true, "cc9edf10822208e57e2dafbcd512ecf9574943910f8b5801313853a0b75131f0"), looks := false }, kinds := [], alts := [], laidByText := true, laidKinds := [.data], laidTests := true, laidLooks := .later }
def OctetSmallUptoCardSaid : Prop := Claim7.holds Tryd.pinned (.plain (OpenSpec.upto octetSmallSpec)) octetSmallUptoCard

/-- THE SECOND FORM's CARD OF 'ostlerlaw1.OctetJoins'. -/
def octetJoinsUptoCard : Claim7 := { stood := { row := octetJoinsUptoRow, standIns := [], harness := (true, "cc9edf10822208e57e2dafbcd512ecf9574943910f8b5801313853a0b75131f0"), looks := false }, kinds := [], alts := [], laidByText := true, laidKinds := [.data], laidTests := true, laidLooks := .later }
def OctetJoinsUptoCardSaid : Prop := Claim7.holds Tryd.pinned (.plain (OpenSpec.upto octetJoinsSpec)) octetJoinsUptoCard
end Rows
end Go.Proofs.YtifakldkcjjokaaDoor
