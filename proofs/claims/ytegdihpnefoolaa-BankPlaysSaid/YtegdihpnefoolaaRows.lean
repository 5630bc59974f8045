/-
  No cell of these rows narrows 'for every input' (looked for: loops, veiled, ifaces, maps, wideKeys, modest, calm, conditions, laid).
  DERIVED. THE GIVEN ROWS OF THIS SEAT. 8 by the template 'for every input the law returns true; each argument reads behind the call as it read before'; 0 by the template 'total and deterministic' (their statements: YtegdihpnefoolaaTotals.lean).
  GIVEN WITH THE SEED: the statements are not yours to turn. If you find one false, say at which input.
  Laid BY PROGRAM, IN A SANDBOX (cutbox-rows.mjs): the forced cells as the released guide's own fill.sh prints them over the translation 8ebf75ac878b79ef… (all of the seat's roots in one cut). By AI agents, Wed Nov 11 2026. No macro, syntax, notation, axiom, sorry.
-/
import Derived.Test.YtegdihpnefoolaaChecked
import GoSem.Claim
import GoSem.ClaimJoined
import GoSem.ClaimMapViews
import Derived.JoinedTies
import Derived.KernelRfl
namespace Go.Proofs.Ytegdihpnefoolaa
/- THE CELL 'sum', in the pinned program and in every row, IS THE sha256 OF THE DUMP (.gsa) THAT YtegdihpnefoolaaProg.lean LOADS. Nothing in Lean hashes anything: it is a label: what it is worth is what the hold of that sum in a sandbox is worth. -/
noncomputable def Try.pinned : Pinned := { name := "ytegdihpnefoolaa", sum := "8ebf75ac878b79ef7fdeafccfaa73c341f678cfe02a20154b1c04b862f52e0d9", checked := Try.checked }
namespace Rows
def none {H : Type} : Left H := { results := [], args := [] }

/-- 'ostlerlaw12.SlotEach': WHATEVER THE INPUT: true; the input reads as it did. -/
def slotEachSpec : ChangeSpec := { name := "slotEach", fn := fun _ => fun
  | [d1, d2, d3, d4] => { results := [.lit (.bool true)], args := [d1, d2, d3, d4] }
  | _ => none }
def slotEachRow : OpenClaim := { program := "ytegdihpnefoolaa", sum := "8ebf75ac878b79ef7fdeafccfaa73c341f678cfe02a20154b1c04b862f52e0d9", func := "ostler/ostlerlaw12.SlotEach", spec := "slotEach", inPlace := ["internal/bytealg.MakeNoZero"], unfollowed := true, recurses := true, apart := false }
def SlotEachSaid : Prop := slotEachRow.holds Try.pinned (OpenSpec.ofChange slotEachSpec)

/-- ITS FALSE NEIGHBOUR: 'it returns false'. Refute it at one input. -/
def slotEachWrong : ChangeSpec := { name := "slotEach", fn := fun _ => fun
  | [d1, d2, d3, d4] => { results := [.lit (.bool false)], args := [d1, d2, d3, d4] }
  | _ => none }
def SlotEachWrongFalsely : Prop := slotEachRow.holds Try.pinned (OpenSpec.ofChange slotEachWrong)

/-- 'ostlerlaw12.SlotSpoilt': WHATEVER THE INPUT: true; the input reads as it did. -/
def slotSpoiltSpec : ChangeSpec := { name := "slotSpoilt", fn := fun _ => fun
  | [d1, d2, d3, d4, d5] => { results := [.lit (.bool true)], args := [d1, d2, d3, d4, d5] }
  | _ => none }
def slotSpoiltRow : OpenClaim := { program := "ytegdihpnefoolaa", sum := "8ebf75ac878b79ef7fdeafccfaa73c341f678cfe02a20154b1c04b862f52e0d9", func := "ostler/ostlerlaw12.SlotSpoilt", spec := "slotSpoilt", inPlace := ["internal/bytealg.MakeNoZero"], unfollowed := true, recurses := true, apart := false }
def SlotSpoiltSaid : Prop := slotSpoiltRow.holds Try.pinned (OpenSpec.ofChange slotSpoiltSpec)

/-- ITS FALSE NEIGHBOUR: 'it returns false'. Refute it at one input. -/
def slotSpoiltWrong : ChangeSpec := { name := "slotSpoilt", fn := fun _ => fun
  | [d1, d2, d3, d4, d5] => { results := [.lit (.bool false)], args := [d1, d2, d3, d4, d5] }
  | _ => none }
def SlotSpoiltWrongFalsely : Prop := slotSpoiltRow.holds Try.pinned (OpenSpec.ofChange slotSpoiltWrong)

/-- 'ostlerlaw13.BankPlays': WHATEVER THE INPUT: true; the input reads as it did. -/
def bankPlaysSpec : ChangeSpec := { name := "bankPlays", fn := fun _ => fun
  | [d1, d2] => { results := [.lit (.bool true)], args := [d1, d2] }
  | _ => none }
def bankPlaysRow : OpenClaim := { program := "ytegdihpnefoolaa", sum := "8ebf75ac878b79ef7fdeafccfaa73c341f678cfe02a20154b1c04b862f52e0d9", func := "ostler/ostlerlaw13.BankPlays", spec := "bankPlays", inPlace := ["internal/bytealg.MakeNoZero"], unfollowed := true, recurses := true, apart := false }
def BankPlaysSaid : Prop := bankPlaysRow.holds Try.pinned (OpenSpec.ofChange bankPlaysSpec)

/-- ITS FALSE NEIGHBOUR: 'it returns false'. Refute it at one input. -/
def bankPlaysWrong : ChangeSpec := { name := "bankPlays", fn := fun _ => fun
  | [d1, d2] => { results := [.lit (.bool false)], args := [d1, d2] }
  | _ => none }
def BankPlaysWrongFalsely : Prop := bankPlaysRow.holds Try.pinned (OpenSpec.ofChange bankPlaysWrong)

/-- 'ostlerlaw13.BankOld': WHATEVER THE INPUT: true; the input reads as it did. -/
def bankOldSpec : ChangeSpec := { name := "bankOld", fn := fun _ => fun
  | [d1, d2, d3] => { results := [.lit (.bool true)], args := [d1, d2, d3] }
  | _ => none }
def bankOldRow : OpenClaim := { program := "ytegdihpnefoolaa", sum := "8ebf75ac878b79ef7fdeafccfaa73c341f678cfe02a20154b1c04b862f52e0d9", func := "ostler/ostlerlaw13.BankOld", spec := "bankOld", inPlace := ["internal/bytealg.MakeNoZero"], unfollowed := true, recurses := true, apart := false }
def BankOldSaid : Prop := bankOldRow.holds Try.pinned (OpenSpec.ofChange bankOldSpec)

/-- ITS FALSE NEIGHBOUR: 'it returns false'. Refute it at one input. -/
def bankOldWrong : ChangeSpec := { name := "bankOld", fn := fun _ => fun
  | [d1, d2, d3] => { results := [.lit (.bool false)], args := [d1, d2, d3] }
  | _ => none }
def BankOldWrongFalsely : Prop := bankOldRow.holds Try.pinned (OpenSpec.ofChange bankOldWrong)

/-- 'ostlerlaw13.BankKeeps': WHATEVER THE INPUT: true; the input reads as it did. -/
def bankKeepsSpec : ChangeSpec := { name := "bankKeeps", fn := fun _ => fun
  | [d1, d2, d3] => { results := [.lit (.bool true)], args := [d1, d2, d3] }
  | _ => none }
def bankKeepsRow : OpenClaim := { program := "ytegdihpnefoolaa", sum := "8ebf75ac878b79ef7fdeafccfaa73c341f678cfe02a20154b1c04b862f52e0d9", func := "ostler/ostlerlaw13.BankKeeps", spec := "bankKeeps", inPlace := ["internal/bytealg.MakeNoZero"], unfollowed := true, recurses := true, apart := false }
def BankKeepsSaid : Prop := bankKeepsRow.holds Try.pinned (OpenSpec.ofChange bankKeepsSpec)

/-- ITS FALSE NEIGHBOUR: 'it returns false'. Refute it at one input. -/
def bankKeepsWrong : ChangeSpec := { name := "bankKeeps", fn := fun _ => fun
  | [d1, d2, d3] => { results := [.lit (.bool false)], args := [d1, d2, d3] }
  | _ => none }
def BankKeepsWrongFalsely : Prop := bankKeepsRow.holds Try.pinned (OpenSpec.ofChange bankKeepsWrong)

/-- 'ostlerlaw13.BankOther': WHATEVER THE INPUT: true; the input reads as it did. -/
def bankOtherSpec : ChangeSpec := { name := "bankOther", fn := fun _ => fun
  | [d1, d2, d3, d4] => { results := [.lit (.bool true)], args := [d1, d2, d3, d4] }
  | _ => none }
def bankOtherRow : OpenClaim := { program := "ytegdihpnefoolaa", sum := "8ebf75ac878b79ef7fdeafccfaa73c341f678cfe02a20154b1c04b862f52e0d9", func := "ostler/ostlerlaw13.BankOther", spec := "bankOther", inPlace := ["internal/bytealg.MakeNoZero"], unfollowed := true, recurses := true, apart := false }
def BankOtherSaid : Prop := bankOtherRow.holds Try.pinned (OpenSpec.ofChange bankOtherSpec)

/-- ITS FALSE NEIGHBOUR: 'it returns false'. Refute it at one input. -/
def bankOtherWrong : ChangeSpec := { name := "bankOther", fn := fun _ => fun
  | [d1, d2, d3, d4] => { results := [.lit (.bool false)], args := [d1, d2, d3, d4] }
  | _ => none }
def BankOtherWrongFalsely : Prop := bankOtherRow.holds Try.pinned (OpenSpec.ofChange bankOtherWrong)

/-- 'ostlerlaw13.BankTurns': WHATEVER THE INPUT: true; the input reads as it did. -/
def bankTurnsSpec : ChangeSpec := { name := "bankTurns", fn := fun _ => fun
  | [d] => { results := [.lit (.bool true)], args := [d] }
  | _ => none }
def bankTurnsRow : OpenClaim := { program := "ytegdihpnefoolaa", sum := "8ebf75ac878b79ef7fdeafccfaa73c341f678cfe02a20154b1c04b862f52e0d9", func := "ostler/ostlerlaw13.BankTurns", spec := "bankTurns", inPlace := ["internal/bytealg.MakeNoZero"], unfollowed := true, recurses := true, apart := false }
def BankTurnsSaid : Prop := bankTurnsRow.holds Try.pinned (OpenSpec.ofChange bankTurnsSpec)

/-- ITS FALSE NEIGHBOUR: 'it returns false'. Refute it at one input. -/
def bankTurnsWrong : ChangeSpec := { name := "bankTurns", fn := fun _ => fun
  | [d] => { results := [.lit (.bool false)], args := [d] }
  | _ => none }
def BankTurnsWrongFalsely : Prop := bankTurnsRow.holds Try.pinned (OpenSpec.ofChange bankTurnsWrong)

/-- 'ostlerlaw13.BankSpoilt': WHATEVER THE INPUT: true; the input reads as it did. -/
def bankSpoiltSpec : ChangeSpec := { name := "bankSpoilt", fn := fun _ => fun
  | [d1, d2, d3] => { results := [.lit (.bool true)], args := [d1, d2, d3] }
  | _ => none }
def bankSpoiltRow : OpenClaim := { program := "ytegdihpnefoolaa", sum := "8ebf75ac878b79ef7fdeafccfaa73c341f678cfe02a20154b1c04b862f52e0d9", func := "ostler/ostlerlaw13.BankSpoilt", spec := "bankSpoilt", inPlace := ["internal/bytealg.MakeNoZero"], unfollowed := true, recurses := true, apart := false }
def BankSpoiltSaid : Prop := bankSpoiltRow.holds Try.pinned (OpenSpec.ofChange bankSpoiltSpec)

/-- ITS FALSE NEIGHBOUR: 'it returns false'. Refute it at one input. -/
def bankSpoiltWrong : ChangeSpec := { name := "bankSpoilt", fn := fun _ => fun
  | [d1, d2, d3] => { results := [.lit (.bool false)], args := [d1, d2, d3] }
  | _ => none }
def BankSpoiltWrongFalsely : Prop := bankSpoiltRow.holds Try.pinned (OpenSpec.ofChange bankSpoiltWrong)

/- THE SECOND FORM. 'bulk': how many values and letters a reading holds, each counted each time it is reached (what is shared counts as often as it is met; a slice's spare places count too). A statement '..UptoSaid' is the law's where the arguments, and the package variables that the reading takes, are together of bulk at most 1048576: NARROWER than '..Said'. Prove '..Said' where nothing that the law and all that it calls make is longer than what came in: it says more and counts as full. Else prove '..UptoSaid'. A law counts once. -/
mutual
def uptoBulk {H : Type} : DataW H → Nat
  | .lit (.string bytes) => bytes.length + 1
  | .lit _ => 1
  | .nil => 1
  | .ptr d => uptoBulk d + 1
  | .slice elems spare => uptoBulkAll elems + uptoBulkAll spare + 1
  | .agg parts => uptoBulkAll parts + 1
  | .iface _ d => uptoBulk d + 1
  | .map entries => uptoBulkEntries entries + 1
  | .held _ => 1
def uptoBulkAll {H : Type} : List (DataW H) → Nat
  | [] => 0
  | d :: r => uptoBulk d + uptoBulkAll r
def uptoBulkEntries {H : Type} : List (Lit × DataW H) → Nat
  | [] => 0
  | x :: r => uptoBulkEntry x + uptoBulkEntries r
def uptoBulkEntry {H : Type} : Lit × DataW H → Nat
  | (.string bytes, d) => bytes.length + uptoBulk d + 1
  | (_, d) => uptoBulk d + 1
 end
def uptoSmall : (H : Type) → List (DataW H) → Bool := fun _ ds => decide (uptoBulkAll ds ≤ 1048576)
def OpenSpec.upto (s : _root_.Go.ChangeSpec) : _root_.Go.OpenSpec := { _root_.Go.OpenSpec.ofChange s with cond := some uptoSmall }

/-- 'ostlerlaw12.SlotEach', WHERE WHAT IT READS IS OF BULK AT MOST 1048576: true; the input reads as it did. -/
def slotEachUptoRow : OpenClaim := { program := "ytegdihpnefoolaa", sum := "8ebf75ac878b79ef7fdeafccfaa73c341f678cfe02a20154b1c04b862f52e0d9", func := "ostler/ostlerlaw12.SlotEach", spec := "slotEach", inPlace := ["internal/bytealg.MakeNoZero"], unfollowed := true, recurses := true, apart := false, narrowed := true }
def SlotEachUptoSaid : Prop := slotEachUptoRow.holds Try.pinned (OpenSpec.upto slotEachSpec)

/-- 'ostlerlaw12.SlotSpoilt', WHERE WHAT IT READS IS OF BULK AT MOST 1048576: true; the input reads as it did. -/
def slotSpoiltUptoRow : OpenClaim := { program := "ytegdihpnefoolaa", sum := "8ebf75ac878b79ef7fdeafccfaa73c341f678cfe02a20154b1c04b862f52e0d9", func := "ostler/ostlerlaw12.SlotSpoilt", spec := "slotSpoilt", inPlace := ["internal/bytealg.MakeNoZero"], unfollowed := true, recurses := true, apart := false, narrowed := true }
def SlotSpoiltUptoSaid : Prop := slotSpoiltUptoRow.holds Try.pinned (OpenSpec.upto slotSpoiltSpec)

/-- 'ostlerlaw13.BankPlays', WHERE WHAT IT READS IS OF BULK AT MOST 1048576: true; the input reads as it did. -/
def bankPlaysUptoRow : OpenClaim := { program := "ytegdihpnefoolaa", sum := "8ebf75ac878b79ef7fdeafccfaa73c341f678cfe02a20154b1c04b862f52e0d9", func := "ostler/ostlerlaw13.BankPlays", spec := "bankPlays", inPlace := ["internal/bytealg.MakeNoZero"], unfollowed := true, recurses := true, apart := false, narrowed := true }
def BankPlaysUptoSaid : Prop := bankPlaysUptoRow.holds Try.pinned (OpenSpec.upto bankPlaysSpec)

/-- 'ostlerlaw13.BankOld', WHERE WHAT IT READS IS OF BULK AT MOST 1048576: true; the input reads as it did. -/
def bankOldUptoRow : OpenClaim := { program := "ytegdihpnefoolaa", sum := "8ebf75ac878b79ef7fdeafccfaa73c341f678cfe02a20154b1c04b862f52e0d9", func := "ostler/ostlerlaw13.BankOld", spec := "bankOld", inPlace := ["internal/bytealg.MakeNoZero"], unfollowed := true, recurses := true, apart := false, narrowed := true }
def BankOldUptoSaid : Prop := bankOldUptoRow.holds Try.pinned (OpenSpec.upto bankOldSpec)

/-- 'ostlerlaw13.BankKeeps', WHERE WHAT IT READS IS OF BULK AT MOST 1048576: true; the input reads as it did. -/
def bankKeepsUptoRow : OpenClaim := { program := "ytegdihpnefoolaa", sum := "8ebf75ac878b79ef7fdeafccfaa73c341f678cfe02a20154b1c04b862f52e0d9", func := "ostler/ostlerlaw13.BankKeeps", spec := "bankKeeps", inPlace := ["internal/bytealg.MakeNoZero"], unfollowed := true, recurses := true, apart := false, narrowed := true }
def BankKeepsUptoSaid : Prop := bankKeepsUptoRow.holds Try.pinned (OpenSpec.upto bankKeepsSpec)

/-- 'ostlerlaw13.BankOther', WHERE WHAT IT READS IS OF BULK AT MOST 1048576: true; the input reads as it did. -/
def bankOtherUptoRow : OpenClaim := { program := "ytegdihpnefoolaa", sum := "8ebf75ac878b79ef7fdeafccfaa73c341f678cfe02a20154b1c04b862f52e0d9", func := "ostler/ostlerlaw13.BankOther", spec := "bankOther", inPlace := ["internal/bytealg.MakeNoZero"], unfollowed := true, recurses := true, apart := false, narrowed := true }
def BankOtherUptoSaid : Prop := bankOtherUptoRow.holds Try.pinned (OpenSpec.upto bankOtherSpec)

/-- 'ostlerlaw13.BankTurns', WHERE WHAT IT READS IS OF BULK AT MOST 1048576: true; the input reads as it did. -/
def bankTurnsUptoRow : OpenClaim := { program := "ytegdihpnefoolaa", sum := "8ebf75ac878b79ef7fdeafccfaa73c341f678cfe02a20154b1c04b862f52e0d9", func := "ostler/ostlerlaw13.BankTurns", spec := "bankTurns", inPlace := ["internal/bytealg.MakeNoZero"], unfollowed := true, recurses := true, apart := false, narrowed := true }
def BankTurnsUptoSaid : Prop := bankTurnsUptoRow.holds Try.pinned (OpenSpec.upto bankTurnsSpec)

/-- 'ostlerlaw13.BankSpoilt', WHERE WHAT IT READS IS OF BULK AT MOST 1048576: true; the input reads as it did. -/
def bankSpoiltUptoRow : OpenClaim := { program := "ytegdihpnefoolaa", sum := "8ebf75ac878b79ef7fdeafccfaa73c341f678cfe02a20154b1c04b862f52e0d9", func := "ostler/ostlerlaw13.BankSpoilt", spec := "bankSpoilt", inPlace := ["internal/bytealg.MakeNoZero"], unfollowed := true, recurses := true, apart := false, narrowed := true }
def BankSpoiltUptoSaid : Prop := bankSpoiltUptoRow.holds Try.pinned (OpenSpec.upto bankSpoiltSpec)

end Rows
end Go.Proofs.Ytegdihpnefoolaa
