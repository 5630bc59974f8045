/-
  No cell of these rows narrows 'for every input' (looked for: loops, veiled, ifaces, maps, wideKeys, modest, calm, conditions, laid).
  DERIVED. THE GIVEN ROWS OF THIS SEAT. 4 by the template 'for every input the law returns true; each argument reads behind the call as it read before'; 0 by the template 'total and deterministic' (their statements: YtgjnjhhhbkidbaaGreatTotals.lean).
  GIVEN WITH THE SEED: the statements are not yours to turn. If you find one false, say at which input.
  Laid BY PROGRAM, IN A SANDBOX (cutbox-rows.mjs): the forced cells as the released guide's own fill.sh prints them over the translation f4d15b1da2fc3c85… (all of the seat's roots in one cut). By AI agents, Wed Nov 11 2026. No macro, syntax, notation, axiom, sorry.
-/
import Derived.Test.YtgjnjhhhbkidbaaGreatChecked
import GoSem.Claim
import GoSem.ClaimJoined
import GoSem.ClaimMapViews
import Derived.JoinedTies
import Derived.KernelRfl
namespace Go.Proofs.YtgjnjhhhbkidbaaGreat
/- THE CELL 'sum', in the pinned program and in every row, IS THE sha256 OF THE DUMP (.gsa) THAT YtgjnjhhhbkidbaaGreatProg.lean LOADS. Nothing in Lean hashes anything: it is a label: what it is worth is what the hold of that sum in a sandbox is worth. -/
noncomputable def Tryz.pinned : Pinned := { name := "ytgjnjhhhbkidbaagreat", sum := "f4d15b1da2fc3c850bfe8841309523e328ade6d664fc49a9b9f371d9d2ef16aa", checked := Tryz.checked }
namespace Rows
def none {H : Type} : Left H := { results := [], args := [] }

/-- 'ostlerlaw16.RepoUsed': WHATEVER THE INPUT: true; the input reads as it did. -/
def repoUsedSpec : ChangeSpec := { name := "repoUsed", fn := fun _ => fun
  | [d] => { results := [.lit (.bool true)], args := [d] }
  | _ => none }
def repoUsedRow : OpenClaim := { program := "ytgjnjhhhbkidbaagreat", sum := "f4d15b1da2fc3c850bfe8841309523e328ade6d664fc49a9b9f371d9d2ef16aa", func := "ostler/ostlerlaw16.RepoUsed", spec := "repoUsed", inPlace := ["internal/bytealg.MakeNoZero"], unfollowed := true, recurses := true, apart := false }
def RepoUsedSaid : Prop := repoUsedRow.holds Tryz.pinned (OpenSpec.ofChange repoUsedSpec)

/-- ITS FALSE NEIGHBOUR: 'it returns false'. Refute it at one input. -/
def repoUsedWrong : ChangeSpec := { name := "repoUsed", fn := fun _ => fun
  | [d] => { results := [.lit (.bool false)], args := [d] }
  | _ => none }
def RepoUsedWrongFalsely : Prop := repoUsedRow.holds Tryz.pinned (OpenSpec.ofChange repoUsedWrong)

/-- 'ostlerlaw16.RepoList': WHATEVER THE INPUT: true; the input reads as it did. -/
def repoListSpec : ChangeSpec := { name := "repoList", fn := fun _ => fun
  | [d] => { results := [.lit (.bool true)], args := [d] }
  | _ => none }
def repoListRow : OpenClaim := { program := "ytgjnjhhhbkidbaagreat", sum := "f4d15b1da2fc3c850bfe8841309523e328ade6d664fc49a9b9f371d9d2ef16aa", func := "ostler/ostlerlaw16.RepoList", spec := "repoList", inPlace := ["internal/bytealg.MakeNoZero", "slices.overlaps[ostler/api.Target]"], unfollowed := true, recurses := true, apart := false }
def RepoListSaid : Prop := repoListRow.holds Tryz.pinned (OpenSpec.ofChange repoListSpec)

/-- ITS FALSE NEIGHBOUR: 'it returns false'. Refute it at one input. -/
def repoListWrong : ChangeSpec := { name := "repoList", fn := fun _ => fun
  | [d] => { results := [.lit (.bool false)], args := [d] }
  | _ => none }
def RepoListWrongFalsely : Prop := repoListRow.holds Tryz.pinned (OpenSpec.ofChange repoListWrong)

/-- 'ostlerlaw16.RepoLedger': WHATEVER THE INPUT: true; the input reads as it did. -/
def repoLedgerSpec : ChangeSpec := { name := "repoLedger", fn := fun _ => fun
  | [d] => { results := [.lit (.bool true)], args := [d] }
  | _ => none }
def repoLedgerRow : OpenClaim := { program := "ytgjnjhhhbkidbaagreat", sum := "f4d15b1da2fc3c850bfe8841309523e328ade6d664fc49a9b9f371d9d2ef16aa", func := "ostler/ostlerlaw16.RepoLedger", spec := "repoLedger", inPlace := ["internal/bytealg.MakeNoZero", "slices.overlaps[ostler/api.Target]"], unfollowed := true, recurses := true, apart := false }
def RepoLedgerSaid : Prop := repoLedgerRow.holds Tryz.pinned (OpenSpec.ofChange repoLedgerSpec)

/-- ITS FALSE NEIGHBOUR: 'it returns false'. Refute it at one input. -/
def repoLedgerWrong : ChangeSpec := { name := "repoLedger", fn := fun _ => fun
  | [d] => { results := [.lit (.bool false)], args := [d] }
  | _ => none }
def RepoLedgerWrongFalsely : Prop := repoLedgerRow.holds Tryz.pinned (OpenSpec.ofChange repoLedgerWrong)

/-- 'ostlerlaw16.RepoVersions': WHATEVER THE INPUT: true; the input reads as it did. -/
def repoVersionsSpec : ChangeSpec := { name := "repoVersions", fn := fun _ => fun
  | [d1, d2] => { results := [.lit (.bool true)], args := [d1, d2] }
  | _ => none }
def repoVersionsRow : OpenClaim := { program := "ytgjnjhhhbkidbaagreat", sum := "f4d15b1da2fc3c850bfe8841309523e328ade6d664fc49a9b9f371d9d2ef16aa", func := "ostler/ostlerlaw16.RepoVersions", spec := "repoVersions", inPlace := ["internal/bytealg.MakeNoZero"], unfollowed := true, recurses := true, apart := false }
def RepoVersionsSaid : Prop := repoVersionsRow.holds Tryz.pinned (OpenSpec.ofChange repoVersionsSpec)

/-- ITS FALSE NEIGHBOUR: 'it returns false'. Refute it at one input. -/
def repoVersionsWrong : ChangeSpec := { name := "repoVersions", fn := fun _ => fun
  | [d1, d2] => { results := [.lit (.bool false)], args := [d1, d2] }
  | _ => none }
def RepoVersionsWrongFalsely : Prop := repoVersionsRow.holds Tryz.pinned (OpenSpec.ofChange repoVersionsWrong)

/- THE SECOND FORM. 'bulk': how many values and letters a reading holds, each counted each time it is reached (what is shared counts as often as it is met; a slice's spare places count too). A statement '..UptoSaid' is the law's where the arguments, and the package variables that the reading takes, are together of bulk at most 1048576: NARROWER than '..Said'. Prove '..Said' where nothing that the law and all that it calls make is longer than what came in: it says more and counts as full. Else prove '..UptoSaid'. A law counts once. -/
mutual
def uptoBulk {H : Type} : DataW H → Nat
  | .lit (.string bytes) => bytes.length + 1
  | .lit _ => 1
  | .nil => 1
  | .ptr d => uptoBulk d + 1
  | .slice elems spare => uptoBulkAll elems + uptoBulkAll spare + 1
  | .agg parts => uptoBulkAll parts + 1
  | .iface _ d => uptoBulk d + 1
  | .map entries => uptoBulkEntries entries + 1
  | .held _ => 1
def uptoBulkAll {H : Type} : List (DataW H) → Nat
  | [] => 0
  | d :: r => uptoBulk d + uptoBulkAll r
def uptoBulkEntries {H : Type} : List (Lit × DataW H) → Nat
  | [] => 0
  | x :: r => uptoBulkEntry x + uptoBulkEntries r
def uptoBulkEntry {H : Type} : Lit × DataW H → Nat
  | (.string bytes, d) => bytes.length + uptoBulk d + 1
  | (_, d) => uptoBulk d + 1
 end
def uptoSmall : (H : Type) → List (DataW H) → Bool := fun _ ds => decide (uptoBulkAll ds ≤ 1048576)
def OpenSpec.upto (s : _root_.Go.ChangeSpec) : _root_.Go.OpenSpec := { _root_.Go.OpenSpec.ofChange s with cond := some uptoSmall }

/-- 'ostlerlaw16.RepoUsed', WHERE WHAT IT READS IS OF BULK AT MOST 1048576: true; the input reads as it did. -/
def repoUsedUptoRow : OpenClaim := { program := "ytgjnjhhhbkidbaagreat", sum := "f4d15b1da2fc3c850bfe8841309523e328ade6d664fc49a9b9f371d9d2ef16aa", func := "ostler/ostlerlaw16.RepoUsed", spec := "repoUsed", inPlace := ["internal/bytealg.MakeNoZero"], unfollowed := true, recurses := true, apart := false, narrowed := true }
def RepoUsedUptoSaid : Prop := repoUsedUptoRow.holds Tryz.pinned (OpenSpec.upto repoUsedSpec)

/-- 'ostlerlaw16.RepoList', WHERE WHAT IT READS IS OF BULK AT MOST 1048576: true; the input reads as it did. -/
def repoListUptoRow : OpenClaim := { program := "ytgjnjhhhbkidbaagreat", sum := "f4d15b1da2fc3c850bfe8841309523e328ade6d664fc49a9b9f371d9d2ef16aa", func := "ostler/ostlerlaw16.RepoList", spec := "repoList", inPlace := ["internal/bytealg.MakeNoZero", "slices.overlaps[ostler/api.Target]"], unfollowed := true, recurses := true, apart := false, narrowed := true }
def RepoListUptoSaid : Prop := repoListUptoRow.holds Tryz.pinned (OpenSpec.upto repoListSpec)

/-- 'ostlerlaw16.RepoLedger', WHERE WHAT IT READS IS OF BULK AT MOST 1048576: true; the input reads as it did. -/
def repoLedgerUptoRow : OpenClaim := { program := "ytgjnjhhhbkidbaagreat", sum := "f4d15b1da2fc3c850bfe8841309523e328ade6d664fc49a9b9f371d9d2ef16aa", func := "ostler/ostlerlaw16.RepoLedger", spec := "repoLedger", inPlace := ["internal/bytealg.MakeNoZero", "slices.overlaps[ostler/api.Target]"], unfollowed := true, recurses := true, apart := false, narrowed := true }
def RepoLedgerUptoSaid : Prop := repoLedgerUptoRow.holds Tryz.pinned (OpenSpec.upto repoLedgerSpec)

/-- 'ostlerlaw16.RepoVersions', WHERE WHAT IT READS IS OF BULK AT MOST 1048576: true; the input reads as it did. -/
def repoVersionsUptoRow : OpenClaim := { program := "ytgjnjhhhbkidbaagreat", sum := "f4d15b1da2fc3c850bfe8841309523e328ade6d664fc49a9b9f371d9d2ef16aa", func := "ostler/ostlerlaw16.RepoVersions", spec := "repoVersions", inPlace := ["internal/bytealg.MakeNoZero"], unfollowed := true, recurses := true, apart := false, narrowed := true }
def RepoVersionsUptoSaid : Prop := repoVersionsUptoRow.holds Tryz.pinned (OpenSpec.upto repoVersionsSpec)

end Rows
end Go.Proofs.YtgjnjhhhbkidbaaGreat
