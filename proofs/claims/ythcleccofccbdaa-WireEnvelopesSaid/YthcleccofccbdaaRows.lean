/-
  No cell of these rows narrows 'for every input' (looked for: loops, veiled, ifaces, maps, wideKeys, modest, calm, conditions, laid).
  DERIVED. THE GIVEN ROWS OF THIS SEAT. 8 by the template 'for every input the law returns true; each argument reads behind the call as it read before'; 0 by the template 'total and deterministic' (their statements: YthcleccofccbdaaTotals.lean).
  GIVEN WITH THE SEED: the statements are not yours to turn. If you find one false, say at which input.
  Laid BY PROGRAM, IN A SANDBOX (cutbox-rows.mjs): the forced cells as the released guide's own fill.sh prints them over the translation 0fb8fcaefba9c100… (all of the seat's roots in one cut). By AI agents, Wed Nov 11 2026. No macro, syntax, notation, axiom, sorry.
-/
import Derived.Test.YthcleccofccbdaaChecked
import GoSem.Claim
import GoSem.ClaimJoined
import GoSem.ClaimMapViews
import Derived.JoinedTies
import Derived.KernelRfl
namespace Go.Proofs.Ythcleccofccbdaa
/- THE CELL 'sum', in the pinned program and in every row, IS THE sha256 OF THE DUMP (.gsa) THAT YthcleccofccbdaaProg.lean LOADS. Nothing in Lean hashes anything: it is a label: what it is worth is what the hold of that sum in a sandbox is worth. -/
noncomputable def Try.pinned : Pinned := { name := "ythcleccofccbdaa", sum := "0fb8fcaefba9c100e90e4e2def27ed405617f989e13c27a16dd0ec62904cda44", checked := Try.checked }
namespace Rows
def none {H : Type} : Left H := { results := [], args := [] }

/-- 'ostlerlaw6.WireRoots': WHATEVER THE INPUT: true; the input reads as it did. -/
def wireRootsSpec : ChangeSpec := { name := "wireRoots", fn := fun _ => fun
  | [d1, d2] => { results := [.lit (.bool true)], args := [d1, d2] }
  | _ => none }
def wireRootsRow : OpenClaim := { program := "ythcleccofccbdaa", sum := "0fb8fcaefba9c100e90e4e2def27ed405617f989e13c27a16dd0ec62904cda44", func := "ostler/ostlerlaw6.WireRoots", spec := "wireRoots", unfollowed := true, recurses := true, plainKeys := false, apart := false }
def WireRootsSaid : Prop := wireRootsRow.holds Try.pinned (OpenSpec.ofChange wireRootsSpec)

/-- ITS FALSE NEIGHBOUR: 'it returns false'. Refute it at one input. -/
def wireRootsWrong : ChangeSpec := { name := "wireRoots", fn := fun _ => fun
  | [d1, d2] => { results := [.lit (.bool false)], args := [d1, d2] }
  | _ => none }
def WireRootsWrongFalsely : Prop := wireRootsRow.holds Try.pinned (OpenSpec.ofChange wireRootsWrong)

/-- 'ostlerlaw6.WireSnaps': WHATEVER THE INPUT: true; the input reads as it did. -/
def wireSnapsSpec : ChangeSpec := { name := "wireSnaps", fn := fun _ => fun
  | [d1, d2, d3] => { results := [.lit (.bool true)], args := [d1, d2, d3] }
  | _ => none }
def wireSnapsRow : OpenClaim := { program := "ythcleccofccbdaa", sum := "0fb8fcaefba9c100e90e4e2def27ed405617f989e13c27a16dd0ec62904cda44", func := "ostler/ostlerlaw6.WireSnaps", spec := "wireSnaps", unfollowed := true, recurses := true, plainKeys := false, apart := false }
def WireSnapsSaid : Prop := wireSnapsRow.holds Try.pinned (OpenSpec.ofChange wireSnapsSpec)

/-- ITS FALSE NEIGHBOUR: 'it returns false'. Refute it at one input. -/
def wireSnapsWrong : ChangeSpec := { name := "wireSnaps", fn := fun _ => fun
  | [d1, d2, d3] => { results := [.lit (.bool false)], args := [d1, d2, d3] }
  | _ => none }
def WireSnapsWrongFalsely : Prop := wireSnapsRow.holds Try.pinned (OpenSpec.ofChange wireSnapsWrong)

/-- 'ostlerlaw6.WireEnvelopes': WHATEVER THE INPUT: true; the input reads as it did. -/
def wireEnvelopesSpec : ChangeSpec := { name := "wireEnvelopes", fn := fun _ => fun
  | [d1, d2] => { results := [.lit (.bool true)], args := [d1, d2] }
  | _ => none }
def wireEnvelopesRow : OpenClaim := { program := "ythcleccofccbdaa", sum := "0fb8fcaefba9c100e90e4e2def27ed405617f989e13c27a16dd0ec62904cda44", func := "ostler/ostlerlaw6.WireEnvelopes", spec := "wireEnvelopes", unfollowed := true, recurses := true, plainKeys := false, apart := false }
def WireEnvelopesSaid : Prop := wireEnvelopesRow.holds Try.pinned (OpenSpec.ofChange wireEnvelopesSpec)

/-- ITS FALSE NEIGHBOUR: 'it returns false'. Refute it at one input. -/
def wireEnvelopesWrong : ChangeSpec := { name := "wireEnvelopes", fn := fun _ => fun
  | [d1, d2] => { results := [.lit (.bool false)], args := [d1, d2] }
  | _ => none }
def WireEnvelopesWrongFalsely : Prop := wireEnvelopesRow.holds Try.pinned (OpenSpec.ofChange wireEnvelopesWrong)

/-- 'ostlerlaw6.WireWhole': WHATEVER THE INPUT: true; the input reads as it did. -/
def wireWholeSpec : ChangeSpec := { name := "wireWhole", fn := fun _ => fun
  | [d1, d2, d3] => { results := [.lit (.bool true)], args := [d1, d2, d3] }
  | _ => none }
def wireWholeRow : OpenClaim := { program := "ythcleccofccbdaa", sum := "0fb8fcaefba9c100e90e4e2def27ed405617f989e13c27a16dd0ec62904cda44", func := "ostler/ostlerlaw6.WireWhole", spec := "wireWhole", unfollowed := true, recurses := true, plainKeys := false, apart := false }
def WireWholeSaid : Prop := wireWholeRow.holds Try.pinned (OpenSpec.ofChange wireWholeSpec)

/-- ITS FALSE NEIGHBOUR: 'it returns false'. Refute it at one input. -/
def wireWholeWrong : ChangeSpec := { name := "wireWhole", fn := fun _ => fun
  | [d1, d2, d3] => { results := [.lit (.bool false)], args := [d1, d2, d3] }
  | _ => none }
def WireWholeWrongFalsely : Prop := wireWholeRow.holds Try.pinned (OpenSpec.ofChange wireWholeWrong)

/-- 'ostlerlaw6.WireOrder': WHATEVER THE INPUT: true; the input reads as it did. -/
def wireOrderSpec : ChangeSpec := { name := "wireOrder", fn := fun _ => fun
  | [d1, d2, d3, d4] => { results := [.lit (.bool true)], args := [d1, d2, d3, d4] }
  | _ => none }
def wireOrderRow : OpenClaim := { program := "ythcleccofccbdaa", sum := "0fb8fcaefba9c100e90e4e2def27ed405617f989e13c27a16dd0ec62904cda44", func := "ostler/ostlerlaw6.WireOrder", spec := "wireOrder", unfollowed := true, recurses := true, plainKeys := false, apart := false }
def WireOrderSaid : Prop := wireOrderRow.holds Try.pinned (OpenSpec.ofChange wireOrderSpec)

/-- ITS FALSE NEIGHBOUR: 'it returns false'. Refute it at one input. -/
def wireOrderWrong : ChangeSpec := { name := "wireOrder", fn := fun _ => fun
  | [d1, d2, d3, d4] => { results := [.lit (.bool false)], args := [d1, d2, d3, d4] }
  | _ => none }
def WireOrderWrongFalsely : Prop := wireOrderRow.holds Try.pinned (OpenSpec.ofChange wireOrderWrong)

/-- 'ostlerlaw8.ChainNext': WHATEVER THE INPUT: true; the input reads as it did. -/
def chainNextSpec : ChangeSpec := { name := "chainNext", fn := fun _ => fun
  | [d1, d2, d3] => { results := [.lit (.bool true)], args := [d1, d2, d3] }
  | _ => none }
def chainNextRow : OpenClaim := { program := "ythcleccofccbdaa", sum := "0fb8fcaefba9c100e90e4e2def27ed405617f989e13c27a16dd0ec62904cda44", func := "ostler/ostlerlaw8.ChainNext", spec := "chainNext", inPlace := ["internal/bytealg.MakeNoZero"], unfollowed := true, recurses := true, plainKeys := false, apart := false }
def ChainNextSaid : Prop := chainNextRow.holds Try.pinned (OpenSpec.ofChange chainNextSpec)

/-- ITS FALSE NEIGHBOUR: 'it returns false'. Refute it at one input. -/
def chainNextWrong : ChangeSpec := { name := "chainNext", fn := fun _ => fun
  | [d1, d2, d3] => { results := [.lit (.bool false)], args := [d1, d2, d3] }
  | _ => none }
def ChainNextWrongFalsely : Prop := chainNextRow.holds Try.pinned (OpenSpec.ofChange chainNextWrong)

/-- 'ostlerlaw8.ChainLinks': WHATEVER THE INPUT: true; the input reads as it did. -/
def chainLinksSpec : ChangeSpec := { name := "chainLinks", fn := fun _ => fun
  | [d1, d2] => { results := [.lit (.bool true)], args := [d1, d2] }
  | _ => none }
def chainLinksRow : OpenClaim := { program := "ythcleccofccbdaa", sum := "0fb8fcaefba9c100e90e4e2def27ed405617f989e13c27a16dd0ec62904cda44", func := "ostler/ostlerlaw8.ChainLinks", spec := "chainLinks", inPlace := ["internal/bytealg.MakeNoZero"], unfollowed := true, recurses := true, plainKeys := false, apart := false }
def ChainLinksSaid : Prop := chainLinksRow.holds Try.pinned (OpenSpec.ofChange chainLinksSpec)

/-- ITS FALSE NEIGHBOUR: 'it returns false'. Refute it at one input. -/
def chainLinksWrong : ChangeSpec := { name := "chainLinks", fn := fun _ => fun
  | [d1, d2] => { results := [.lit (.bool false)], args := [d1, d2] }
  | _ => none }
def ChainLinksWrongFalsely : Prop := chainLinksRow.holds Try.pinned (OpenSpec.ofChange chainLinksWrong)

/-- 'ostlerlaw8.ChainStays': WHATEVER THE INPUT: true; the input reads as it did. -/
def chainStaysSpec : ChangeSpec := { name := "chainStays", fn := fun _ => fun
  | [d1, d2] => { results := [.lit (.bool true)], args := [d1, d2] }
  | _ => none }
def chainStaysRow : OpenClaim := { program := "ythcleccofccbdaa", sum := "0fb8fcaefba9c100e90e4e2def27ed405617f989e13c27a16dd0ec62904cda44", func := "ostler/ostlerlaw8.ChainStays", spec := "chainStays", inPlace := ["internal/bytealg.MakeNoZero"], unfollowed := true, recurses := true, plainKeys := false, apart := false }
def ChainStaysSaid : Prop := chainStaysRow.holds Try.pinned (OpenSpec.ofChange chainStaysSpec)

/-- ITS FALSE NEIGHBOUR: 'it returns false'. Refute it at one input. -/
def chainStaysWrong : ChangeSpec := { name := "chainStays", fn := fun _ => fun
  | [d1, d2] => { results := [.lit (.bool false)], args := [d1, d2] }
  | _ => none }
def ChainStaysWrongFalsely : Prop := chainStaysRow.holds Try.pinned (OpenSpec.ofChange chainStaysWrong)

/- THE SECOND FORM. 'bulk': how many values and letters a reading holds, each counted each time it is reached (what is shared counts as often as it is met; a slice's spare places count too). A statement '..UptoSaid' is the law's where the arguments, and the package variables that the reading takes, are together of bulk at most 1048576: NARROWER than '..Said'. Prove '..Said' where nothing that the law and all that it calls make is longer than what came in: it says more and counts as full. Else prove '..UptoSaid'. A law counts once. -/
mutual
def uptoBulk {H : Type} : DataW H → Nat
  | .lit (.string bytes) => bytes.length + 1
  | .lit _ => 1
  | .nil => 1
  | .ptr d => uptoBulk d + 1
  | .slice elems spare => uptoBulkAll elems + uptoBulkAll spare + 1
  | .agg parts => uptoBulkAll parts + 1
  | .iface _ d => uptoBulk d + 1
  | .map entries => uptoBulkEntries entries + 1
  | .held _ => 1
def uptoBulkAll {H : Type} : List (DataW H) → Nat
  | [] => 0
  | d :: r => uptoBulk d + uptoBulkAll r
def uptoBulkEntries {H : Type} : List (Lit × DataW H) → Nat
  | [] => 0
  | x :: r => uptoBulkEntry x + uptoBulkEntries r
def uptoBulkEntry {H : Type} : Lit × DataW H → Nat
  | (.string bytes, d) => bytes.length + uptoBulk d + 1
  | (_, d) => uptoBulk d + 1
 end
def uptoSmall : (H : Type) → List (DataW H) → Bool := fun _ ds => decide (uptoBulkAll ds ≤ 1048576)
def OpenSpec.upto (s : _root_.Go.ChangeSpec) : _root_.Go.OpenSpec := { _root_.Go.OpenSpec.ofChange s with cond := some uptoSmall }

/-- 'ostlerlaw6.WireRoots', WHERE WHAT IT READS IS OF BULK AT MOST 1048576: true; the input reads as it did. -/
def wireRootsUptoRow : OpenClaim := { program := "ythcleccofccbdaa", sum := "0fb8fcaefba9c100e90e4e2def27ed405617f989e13c27a16dd0ec62904cda44", func := "ostler/ostlerlaw6.WireRoots", spec := "wireRoots", unfollowed := true, recurses := true, plainKeys := false, apart := false, narrowed := true }
def WireRootsUptoSaid : Prop := wireRootsUptoRow.holds Try.pinned (OpenSpec.upto wireRootsSpec)

/-- 'ostlerlaw6.WireSnaps', WHERE WHAT IT READS IS OF BULK AT MOST 1048576: true; the input reads as it did. -/
def wireSnapsUptoRow : OpenClaim := { program := "ythcleccofccbdaa", sum := "0fb8fcaefba9c100e90e4e2def27ed405617f989e13c27a16dd0ec62904cda44", func := "ostler/ostlerlaw6.WireSnaps", spec := "wireSnaps", unfollowed := true, recurses := true, plainKeys := false, apart := false, narrowed := true }
def WireSnapsUptoSaid : Prop := wireSnapsUptoRow.holds Try.pinned (OpenSpec.upto wireSnapsSpec)

/-- 'ostlerlaw6.WireEnvelopes', WHERE WHAT IT READS IS OF BULK AT MOST 1048576: true; the input reads as it did. -/
def wireEnvelopesUptoRow : OpenClaim := { program := "ythcleccofccbdaa", sum := "0fb8fcaefba9c100e90e4e2def27ed405617f989e13c27a16dd0ec62904cda44", func := "ostler/ostlerlaw6.WireEnvelopes", spec := "wireEnvelopes", unfollowed := true, recurses := true, plainKeys := false, apart := false, narrowed := true }
def WireEnvelopesUptoSaid : Prop := wireEnvelopesUptoRow.holds Try.pinned (OpenSpec.upto wireEnvelopesSpec)

/-- 'ostlerlaw6.WireWhole', WHERE WHAT IT READS IS OF BULK AT MOST 1048576: true; the input reads as it did. -/
def wireWholeUptoRow : OpenClaim := { program := "ythcleccofccbdaa", sum := "0fb8fcaefba9c100e90e4e2def27ed405617f989e13c27a16dd0ec62904cda44", func := "ostler/ostlerlaw6.WireWhole", spec := "wireWhole", unfollowed := true, recurses := true, plainKeys := false, apart := false, narrowed := true }
def WireWholeUptoSaid : Prop := wireWholeUptoRow.holds Try.pinned (OpenSpec.upto wireWholeSpec)

/-- 'ostlerlaw6.WireOrder', WHERE WHAT IT READS IS OF BULK AT MOST 1048576: true; the input reads as it did. -/
def wireOrderUptoRow : OpenClaim := { program := "ythcleccofccbdaa", sum := "0fb8fcaefba9c100e90e4e2def27ed405617f989e13c27a16dd0ec62904cda44", func := "ostler/ostlerlaw6.WireOrder", spec := "wireOrder", unfollowed := true, recurses := true, plainKeys := false, apart := false, narrowed := true }
def WireOrderUptoSaid : Prop := wireOrderUptoRow.holds Try.pinned (OpenSpec.upto wireOrderSpec)

/-- 'ostlerlaw8.ChainNext', WHERE WHAT IT READS IS OF BULK AT MOST 1048576: true; the input reads as it did. -/
def chainNextUptoRow : OpenClaim := { program := "ythcleccofccbdaa", sum := "0fb8fcaefba9c100e90e4e2def27ed405617f989e13c27a16dd0ec62904cda44", func := "ostler/ostlerlaw8.ChainNext", spec := "chainNext", inPlace := ["internal/bytealg.MakeNoZero"], unfollowed := true, recurses := true, plainKeys := false, apart := false, narrowed := true }
def ChainNextUptoSaid : Prop := chainNextUptoRow.holds Try.pinned (OpenSpec.upto chainNextSpec)

/-- 'ostlerlaw8.ChainLinks', WHERE WHAT IT READS IS OF BULK AT MOST 1048576: true; the input reads as it did. -/
def chainLinksUptoRow : OpenClaim := { program := "ythcleccofccbdaa", sum := "0fb8fcaefba9c100e90e4e2def27ed405617f989e13c27a16dd0ec62904cda44", func := "ostler/ostlerlaw8.ChainLinks", spec := "chainLinks", inPlace := ["internal/bytealg.MakeNoZero"], unfollowed := true, recurses := true, plainKeys := false, apart := false, narrowed := true }
def ChainLinksUptoSaid : Prop := chainLinksUptoRow.holds Try.pinned (OpenSpec.upto chainLinksSpec)

/-- 'ostlerlaw8.ChainStays', WHERE WHAT IT READS IS OF BULK AT MOST 1048576: true; the input reads as it did. -/
def chainStaysUptoRow : OpenClaim := { program := "ythcleccofccbdaa", sum := "0fb8fcaefba9c100e90e4e2def27ed405617f989e13c27a16dd0ec62904cda44", func := "ostler/ostlerlaw8.ChainStays", spec := "chainStays", inPlace := ["internal/bytealg.MakeNoZero"], unfollowed := true, recurses := true, plainKeys := false, apart := false, narrowed := true }
def ChainStaysUptoSaid : Prop := chainStaysUptoRow.holds Try.pinned (OpenSpec.upto chainStaysSpec)

end Rows
end Go.Proofs.Ythcleccofccbdaa
