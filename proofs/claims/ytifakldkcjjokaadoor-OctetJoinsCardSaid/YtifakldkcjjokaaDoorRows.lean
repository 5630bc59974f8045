/-
  NARROWER THAN 'FOR EVERY INPUT', by the rows' own cells (each row's printed sentence says how): OctetNums: laid · OctetRows: laid · OctetTakes: laid · OctetSums: laid · OctetOfNothing: laid · OctetCuts: laid · OctetSmall: laid · OctetJoins: laid.
  DERIVED. THE GIVEN ROWS OF THIS SEAT. 8 by the template 'for every input the law returns true; each argument reads behind the call as it read before'; 0 by the template 'total and deterministic' (their statements: YtifakldkcjjokaaDoorTotals.lean).
  GIVEN WITH THE SEED: the statements are not yours to turn. If you find one false, say at which input.
  Laid BY PROGRAM, IN A SANDBOX (cutbox-rows.mjs): the forced cells as the released guide's own fill.sh prints them over the translation 5a722824c3b9d128… (all of the seat's roots in one cut). By AI agents, Wed Nov 11 2026. No macro, syntax, notation, axiom, sorry.
-/
import Derived.Test.YtifakldkcjjokaaDoorChecked
import GoSem.Claim
import GoSem.ClaimJoined
import GoSem.ClaimMapViews
import Derived.JoinedTies
import Derived.KernelRfl
namespace Go.Proofs.YtifakldkcjjokaaDoor
/- THE CELL 'sum', in the pinned program and in every row, IS THE sha256 OF THE DUMP (.gsa) THAT YtifakldkcjjokaaDoorProg.lean LOADS. Nothing in Lean hashes anything: it is a label: what it is worth is what the hold of that sum in a sandbox is worth. -/
noncomputable def Tryd.pinned : Pinned := { name := "ytifakldkcjjokaadoor", sum := "5a722824c3b9d128c580a721c9f3bccecbc8bbe63be6927dad1d5da9dd6bc5c7", checked := Tryd.checked }
namespace Rows
def none {H : Type} : Left H := { results := [], args := [] }

/- WHAT THE LISTED PACKAGE-LEVEL VARIABLES READ AS WHEN THE CALL BEGINS. Each datum BY PROGRAM (the guide's laid-datum.mjs) off the statement by which the dump's own 'gosem.cut.vars' lays the variable. In a bare row this is a premise. The card (YtifakldkcjjokaaDoorCards.lean) ties it to the program's text. -/
def laid_ostler_octet_halves {H : Type} : DataW H := .agg [.lit (.int .u32 0), .lit (.int .u32 498536548), .lit (.int .u32 997073096), .lit (.int .u32 651767980), .lit (.int .u32 1994146192), .lit (.int .u32 1802195444), .lit (.int .u32 1303535960), .lit (.int .u32 1342533948), .lit (.int .u32 3988292384), .lit (.int .u32 4027552580), .lit (.int .u32 3604390888), .lit (.int .u32 3412177804), .lit (.int .u32 2607071920), .lit (.int .u32 2262029012), .lit (.int .u32 2685067896), .lit (.int .u32 3183342108)]

/-- 'ostlerlaw1.OctetNums': WHATEVER THE INPUT: true; the input reads as it did. -/
def octetNumsSpec : ChangeSpec := { name := "octetNums", fn := fun _ => fun
  | [d] => { results := [.lit (.bool true)], args := [d] }
  | _ => none }
def octetNumsRow : OpenClaim := { program := "ytifakldkcjjokaadoor", sum := "5a722824c3b9d128c580a721c9f3bccecbc8bbe63be6927dad1d5da9dd6bc5c7", func := "ostler/ostlerlaw1.OctetNums", spec := "octetNums", named := ["ostler/octet.halves"], apart := false, laid := [("ostler/octet.halves", laid_ostler_octet_halves)] }
def OctetNumsSaid : Prop := octetNumsRow.holds Tryd.pinned (OpenSpec.ofChange octetNumsSpec)

/-- ITS FALSE NEIGHBOUR: 'it returns false'. Refute it at one input. -/
def octetNumsWrong : ChangeSpec := { name := "octetNums", fn := fun _ => fun
  | [d] => { results := [.lit (.bool false)], args := [d] }
  | _ => none }
def OctetNumsWrongFalsely : Prop := octetNumsRow.holds Tryd.pinned (OpenSpec.ofChange octetNumsWrong)

/-- 'ostlerlaw1.OctetRows': WHATEVER THE INPUT: true; the input reads as it did. -/
def octetRowsSpec : ChangeSpec := { name := "octetRows", fn := fun _ => fun
  | [d1, d2] => { results := [.lit (.bool true)], args := [d1, d2] }
  | _ => none }
def octetRowsRow : OpenClaim := { program := "ytifakldkcjjokaadoor", sum := "5a722824c3b9d128c580a721c9f3bccecbc8bbe63be6927dad1d5da9dd6bc5c7", func := "ostler/ostlerlaw1.OctetRows", spec := "octetRows", named := ["ostler/octet.halves"], apart := false, laid := [("ostler/octet.halves", laid_ostler_octet_halves)] }
def OctetRowsSaid : Prop := octetRowsRow.holds Tryd.pinned (OpenSpec.ofChange octetRowsSpec)

/-- ITS FALSE NEIGHBOUR: 'it returns false'. Refute it at one input. -/
def octetRowsWrong : ChangeSpec := { name := "octetRows", fn := fun _ => fun
  | [d1, d2] => { results := [.lit (.bool false)], args := [d1, d2] }
  | _ => none }
def OctetRowsWrongFalsely : Prop := octetRowsRow.holds Tryd.pinned (OpenSpec.ofChange octetRowsWrong)

/-- 'ostlerlaw1.OctetTakes': WHATEVER THE INPUT: true; the input reads as it did. -/
def octetTakesSpec : ChangeSpec := { name := "octetTakes", fn := fun _ => fun
  | [d1, d2, d3] => { results := [.lit (.bool true)], args := [d1, d2, d3] }
  | _ => none }
def octetTakesRow : OpenClaim := { program := "ytifakldkcjjokaadoor", sum := "5a722824c3b9d128c580a721c9f3bccecbc8bbe63be6927dad1d5da9dd6bc5c7", func := "ostler/ostlerlaw1.OctetTakes", spec := "octetTakes", named := ["ostler/octet.halves"], apart := false, laid := [("ostler/octet.halves", laid_ostler_octet_halves)] }
def OctetTakesSaid : Prop := octetTakesRow.holds Tryd.pinned (OpenSpec.ofChange octetTakesSpec)

/-- ITS FALSE NEIGHBOUR: 'it returns false'. Refute it at one input. -/
def octetTakesWrong : ChangeSpec := { name := "octetTakes", fn := fun _ => fun
  | [d1, d2, d3] => { results := [.lit (.bool false)], args := [d1, d2, d3] }
  | _ => none }
def OctetTakesWrongFalsely : Prop := octetTakesRow.holds Tryd.pinned (OpenSpec.ofChange octetTakesWrong)

/-- 'ostlerlaw1.OctetSums': WHATEVER THE INPUT: true; the input reads as it did. -/
def octetSumsSpec : ChangeSpec := { name := "octetSums", fn := fun _ => fun
  | [d1, d2, d3] => { results := [.lit (.bool true)], args := [d1, d2, d3] }
  | _ => none }
def octetSumsRow : OpenClaim := { program := "ytifakldkcjjokaadoor", sum := "5a722824c3b9d128c580a721c9f3bccecbc8bbe63be6927dad1d5da9dd6bc5c7", func := "ostler/ostlerlaw1.OctetSums", spec := "octetSums", inPlace := ["internal/bytealg.MakeNoZero"], named := ["ostler/octet.halves"], apart := false, laid := [("ostler/octet.halves", laid_ostler_octet_halves)] }
def OctetSumsSaid : Prop := octetSumsRow.holds Tryd.pinned (OpenSpec.ofChange octetSumsSpec)

/-- ITS FALSE NEIGHBOUR: 'it returns false'. Refute it at one input. -/
def octetSumsWrong : ChangeSpec := { name := "octetSums", fn := fun _ => fun
  | [d1, d2, d3] => { results := [.lit (.bool false)], args := [d1, d2, d3] }
  | _ => none }
def OctetSumsWrongFalsely : Prop := octetSumsRow.holds Tryd.pinned (OpenSpec.ofChange octetSumsWrong)

/-- 'ostlerlaw1.OctetOfNothing': WHATEVER THE INPUT: true; the input reads as it did. -/
def octetOfNothingSpec : ChangeSpec := { name := "octetOfNothing", fn := fun _ => fun
  | [d1, d2] => { results := [.lit (.bool true)], args := [d1, d2] }
  | _ => none }
def octetOfNothingRow : OpenClaim := { program := "ytifakldkcjjokaadoor", sum := "5a722824c3b9d128c580a721c9f3bccecbc8bbe63be6927dad1d5da9dd6bc5c7", func := "ostler/ostlerlaw1.OctetOfNothing", spec := "octetOfNothing", named := ["ostler/octet.halves"], apart := false, laid := [("ostler/octet.halves", laid_ostler_octet_halves)] }
def OctetOfNothingSaid : Prop := octetOfNothingRow.holds Tryd.pinned (OpenSpec.ofChange octetOfNothingSpec)

/-- ITS FALSE NEIGHBOUR: 'it returns false'. Refute it at one input. -/
def octetOfNothingWrong : ChangeSpec := { name := "octetOfNothing", fn := fun _ => fun
  | [d1, d2] => { results := [.lit (.bool false)], args := [d1, d2] }
  | _ => none }
def OctetOfNothingWrongFalsely : Prop := octetOfNothingRow.holds Tryd.pinned (OpenSpec.ofChange octetOfNothingWrong)

/-- 'ostlerlaw1.OctetCuts': WHATEVER THE INPUT: true; the input reads as it did. -/
def octetCutsSpec : ChangeSpec := { name := "octetCuts", fn := fun _ => fun
  | [d1, d2] => { results := [.lit (.bool true)], args := [d1, d2] }
  | _ => none }
def octetCutsRow : OpenClaim := { program := "ytifakldkcjjokaadoor", sum := "5a722824c3b9d128c580a721c9f3bccecbc8bbe63be6927dad1d5da9dd6bc5c7", func := "ostler/ostlerlaw1.OctetCuts", spec := "octetCuts", named := ["ostler/octet.halves"], apart := false, laid := [("ostler/octet.halves", laid_ostler_octet_halves)] }
def OctetCutsSaid : Prop := octetCutsRow.holds Tryd.pinned (OpenSpec.ofChange octetCutsSpec)

/-- ITS FALSE NEIGHBOUR: 'it returns false'. Refute it at one input. -/
def octetCutsWrong : ChangeSpec := { name := "octetCuts", fn := fun _ => fun
  | [d1, d2] => { results := [.lit (.bool false)], args := [d1, d2] }
  | _ => none }
def OctetCutsWrongFalsely : Prop := octetCutsRow.holds Tryd.pinned (OpenSpec.ofChange octetCutsWrong)

/-- 'ostlerlaw1.OctetSmall': WHATEVER THE INPUT: true; the input reads as it did. -/
def octetSmallSpec : ChangeSpec := { name := "octetSmall", fn := fun _ => fun
  | [d] => { results := [.lit (.bool true)], args := [d] }
  | _ => none }
def octetSmallRow : OpenClaim := { program := "ytifakldkcjjokaadoor", sum := "5a722824c3b9d128c580a721c9f3bccecbc8bbe63be6927dad1d5da9dd6bc5c7", func := "ostler/ostlerlaw1.OctetSmall", spec := "octetSmall", named := ["ostler/octet.halves"], apart := false, laid := [("ostler/octet.halves", laid_ostler_octet_halves)] }
def OctetSmallSaid : Prop := octetSmallRow.holds Tryd.pinned (OpenSpec.ofChange octetSmallSpec)

/-- ITS FALSE NEIGHBOUR: 'it returns false'. Refute it at one input. -/
def octetSmallWrong : ChangeSpec := { name := "octetSmall", fn := fun _ => fun
  | [d] => { results := [.lit (.bool false)], args := [d] }
  | _ => none }
def OctetSmallWrongFalsely : Prop := octetSmallRow.holds Tryd.pinned (OpenSpec.ofChange octetSmallWrong)

/-- 'ostlerlaw1.OctetJoins': WHATEVER THE INPUT: true; the input reads as it did. -/
def octetJoinsSpec : ChangeSpec := { name := "octetJoins", fn := fun _ => fun
  | [d1, d2] => { results := [.lit (.bool true)], args := [d1, d2] }
  | _ => none }
def octetJoinsRow : OpenClaim := { program := "ytifakldkcjjokaadoor", sum := "5a722824c3b9d128c580a721c9f3bccecbc8bbe63be6927dad1d5da9dd6bc5c7", func := "ostler/ostlerlaw1.OctetJoins", spec := "octetJoins", inPlace := ["internal/bytealg.MakeNoZero"], named := ["ostler/octet.halves"], apart := false, laid := [("ostler/octet.halves", laid_ostler_octet_halves)] }
def OctetJoinsSaid : Prop := octetJoinsRow.holds Tryd.pinned (OpenSpec.ofChange octetJoinsSpec)

/-- ITS FALSE NEIGHBOUR: 'it returns false'. Refute it at one input. -/
def octetJoinsWrong : ChangeSpec := { name := "octetJoins", fn := fun _ => fun
  | [d1, d2] => { results := [.lit (.bool false)], args := [d1, d2] }
  | _ => none }
def OctetJoinsWrongFalsely : Prop := octetJoinsRow.holds Tryd.pinned (OpenSpec.ofChange octetJoinsWrong)

/- THE SECOND FORM. 'bulk': how many values and letters a reading holds, each counted each time it is reached (what is shared counts as often as it is met; a slice's spare places count too). A statement '..UptoSaid' is the law's where the arguments, and the package variables that the reading takes, are together of bulk at most 1048576: NARROWER than '..Said'. Prove '..Said' where nothing that the law and all that it calls make is longer than what came in: it says more and counts as full. Else prove '..UptoSaid'. A law counts once. -/
mutual
def uptoBulk {H : Type} : DataW H → Nat
  | .lit (.string bytes) => bytes.length + 1
  | .lit _ => 1
  | .nil => 1
  | .ptr d => uptoBulk d + 1
  | .slice elems spare => uptoBulkAll elems + uptoBulkAll spare + 1
  | .agg parts => uptoBulkAll parts + 1
  | .iface _ d => uptoBulk d + 1
  | .map entries => uptoBulkEntries entries + 1
  | .held _ => 1
def uptoBulkAll {H : Type} : List (DataW H) → Nat
  | [] => 0
  | d :: r => uptoBulk d + uptoBulkAll r
def uptoBulkEntries {H : Type} : List (Lit × DataW H) → Nat
  | [] => 0
  | x :: r => uptoBulkEntry x + uptoBulkEntries r
def uptoBulkEntry {H : Type} : Lit × DataW H → Nat
  | (.string bytes, d) => bytes.length + uptoBulk d + 1
  | (_, d) => uptoBulk d + 1
 end
def uptoSmall : (H : Type) → List (DataW H) → Bool := fun _ ds => decide (uptoBulkAll ds ≤ 1048576)
def OpenSpec.upto (s : _root_.Go.ChangeSpec) : _root_.Go.OpenSpec := { _root_.Go.OpenSpec.ofChange s with cond := some uptoSmall }

/-- 'ostlerlaw1.OctetNums', WHERE WHAT IT READS IS OF BULK AT MOST 1048576: true; the input reads as it did. -/
def octetNumsUptoRow : OpenClaim := { program := "ytifakldkcjjokaadoor", sum := "5a722824c3b9d128c580a721c9f3bccecbc8bbe63be6927dad1d5da9dd6bc5c7", func := "ostler/ostlerlaw1.OctetNums", spec := "octetNums", named := ["ostler/octet.halves"], apart := false, laid := [("ostler/octet.halves", laid_ostler_octet_halves)], narrowed := true }
def OctetNumsUptoSaid : Prop := octetNumsUptoRow.holds Tryd.pinned (OpenSpec.upto octetNumsSpec)

/-- 'ostlerlaw1.OctetRows', WHERE WHAT IT READS IS OF BULK AT MOST 1048576: true; the input reads as it did. -/
def octetRowsUptoRow : OpenClaim := { program := "ytifakldkcjjokaadoor", sum := "5a722824c3b9d128c580a721c9f3bccecbc8bbe63be6927dad1d5da9dd6bc5c7", func := "ostler/ostlerlaw1.OctetRows", spec := "octetRows", named := ["ostler/octet.halves"], apart := false, laid := [("ostler/octet.halves", laid_ostler_octet_halves)], narrowed := true }
def OctetRowsUptoSaid : Prop := octetRowsUptoRow.holds Tryd.pinned (OpenSpec.upto octetRowsSpec)

/-- 'ostlerlaw1.OctetTakes', WHERE WHAT IT READS IS OF BULK AT MOST 1048576: true; the input reads as it did. -/
def octetTakesUptoRow : OpenClaim := { program := "ytifakldkcjjokaadoor", sum := "5a722824c3b9d128c580a721c9f3bccecbc8bbe63be6927dad1d5da9dd6bc5c7", func := "ostler/ostlerlaw1.OctetTakes", spec := "octetTakes", named := ["ostler/octet.halves"], apart := false, laid := [("ostler/octet.halves", laid_ostler_octet_halves)], narrowed := true }
def OctetTakesUptoSaid : Prop := octetTakesUptoRow.holds Tryd.pinned (OpenSpec.upto octetTakesSpec)

/-- 'ostlerlaw1.OctetSums', WHERE WHAT IT READS IS OF BULK AT MOST 1048576: true; the input reads as it did. -/
def octetSumsUptoRow : OpenClaim := { program := "ytifakldkcjjokaadoor", sum := "5a722824c3b9d128c580a721c9f3bccecbc8bbe63be6927dad1d5da9dd6bc5c7", func := "ostler/ostlerlaw1.OctetSums", spec := "octetSums", inPlace := ["internal/bytealg.MakeNoZero"], named := ["ostler/octet.halves"], apart := false, laid := [("ostler/octet.halves", laid_ostler_octet_halves)], narrowed := true }
def OctetSumsUptoSaid : Prop := octetSumsUptoRow.holds Tryd.pinned (OpenSpec.upto octetSumsSpec)

/-- 'ostlerlaw1.OctetOfNothing', WHERE WHAT IT READS IS OF BULK AT MOST 1048576: true; the input reads as it did. -/
def octetOfNothingUptoRow : OpenClaim := { program := "ytifakldkcjjokaadoor", sum := "5a722824c3b9d128c580a721c9f3bccecbc8bbe63be6927dad1d5da9dd6bc5c7", func := "ostler/ostlerlaw1.OctetOfNothing", spec := "octetOfNothing", named := ["ostler/octet.halves"], apart := false, laid := [("ostler/octet.halves", laid_ostler_octet_halves)], narrowed := true }
def OctetOfNothingUptoSaid : Prop := octetOfNothingUptoRow.holds Tryd.pinned (OpenSpec.upto octetOfNothingSpec)

/-- 'ostlerlaw1.OctetCuts', WHERE WHAT IT READS IS OF BULK AT MOST 1048576: true; the input reads as it did. -/
def octetCutsUptoRow : OpenClaim := { program := "ytifakldkcjjokaadoor", sum := "5a722824c3b9d128c580a721c9f3bccecbc8bbe63be6927dad1d5da9dd6bc5c7", func := "ostler/ostlerlaw1.OctetCuts", spec := "octetCuts", named := ["ostler/octet.halves"], apart := false, laid := [("ostler/octet.halves", laid_ostler_octet_halves)], narrowed := true }
def OctetCutsUptoSaid : Prop := octetCutsUptoRow.holds Tryd.pinned (OpenSpec.upto octetCutsSpec)

/-- 'ostlerlaw1.OctetSmall', WHERE WHAT IT READS IS OF BULK AT MOST 1048576: true; the input reads as it did. -/
def octetSmallUptoRow : OpenClaim := { program := "ytifakldkcjjokaadoor", sum := "5a722824c3b9d128c580a721c9f3bccecbc8bbe63be6927dad1d5da9dd6bc5c7", func := "ostler/ostlerlaw1.OctetSmall", spec := "octetSmall", named := ["ostler/octet.halves"], apart := false, laid := [("ostler/octet.halves", laid_ostler_octet_halves)], narrowed := true }
def OctetSmallUptoSaid : Prop := octetSmallUptoRow.holds Tryd.pinned (OpenSpec.upto octetSmallSpec)

/-- 'ostlerlaw1.OctetJoins', WHERE WHAT IT READS IS OF BULK AT MOST 1048576: true; the input reads as it did. -/
def octetJoinsUptoRow : OpenClaim := { program := "ytifakldkcjjokaadoor", sum := "5a722824c3b9d128c580a721c9f3bccecbc8bbe63be6927dad1d5da9dd6bc5c7", func := "ostler/ostlerlaw1.OctetJoins", spec := "octetJoins", inPlace := ["internal/bytealg.MakeNoZero"], named := ["ostler/octet.halves"], apart := false, laid := [("ostler/octet.halves", laid_ostler_octet_halves)], narrowed := true }
def OctetJoinsUptoSaid : Prop := octetJoinsUptoRow.holds Tryd.pinned (OpenSpec.upto octetJoinsSpec)

end Rows
end Go.Proofs.YtifakldkcjjokaaDoor
