/-
  No cell of these rows narrows 'for every input' (looked for: loops, veiled, ifaces, maps, wideKeys, modest, calm, conditions, laid).
  DERIVED. THE GIVEN ROWS OF THIS SEAT. 2 by the template 'for every input the law returns true; each argument reads behind the call as it read before'; 0 by the template 'total and deterministic' (their statements: YtjjhceeookpieaaGreatTotals.lean).
  GIVEN WITH THE SEED: the statements are not yours to turn. If you find one false, say at which input.
  Laid BY PROGRAM, IN A SANDBOX (cutbox-rows.mjs): the forced cells as the released guide's own fill.sh prints them over the translation c9cb20c25b52b768… (all of the seat's roots in one cut). By AI agents, Wed Nov 11 2026. No macro, syntax, notation, axiom, sorry.
-/
import Derived.Test.YtjjhceeookpieaaGreatChecked
import GoSem.Claim
import GoSem.ClaimJoined
import GoSem.ClaimMapViews
import Derived.JoinedTies
import Derived.KernelRfl
namespace Go.Proofs.YtjjhceeookpieaaGreat
/- THE CELL 'sum', in the pinned program and in every row, IS THE sha256 OF THE DUMP (.gsa) THAT YtjjhceeookpieaaGreatProg.lean LOADS. Nothing in Lean hashes anything: it is a label: what it is worth is what the hold of that sum in a sandbox is worth. -/
noncomputable def Tryz.pinned : Pinned := { name := "ytjjhceeookpieaagreat", sum := "c9cb20c25b52b768c8b70c8d8fb45e4360c02a350596a640a4a1adf3f21b158e", checked := Tryz.checked }
namespace Rows
def none {H : Type} : Left H := { results := [], args := [] }

/-- 'ostlerlaw16.RepoTrusted': WHATEVER THE INPUT: true; the input reads as it did. -/
def repoTrustedSpec : ChangeSpec := { name := "repoTrusted", fn := fun _ => fun
  | [d1, d2, d3] => { results := [.lit (.bool true)], args := [d1, d2, d3] }
  | _ => none }
def repoTrustedRow : OpenClaim := { program := "ytjjhceeookpieaagreat", sum := "c9cb20c25b52b768c8b70c8d8fb45e4360c02a350596a640a4a1adf3f21b158e", func := "ostler/ostlerlaw16.RepoTrusted", spec := "repoTrusted", inPlace := ["internal/bytealg.MakeNoZero", "slices.overlaps[ostler/api.Target]"], unfollowed := true, recurses := true, apart := false }
def RepoTrustedSaid : Prop := repoTrustedRow.holds Tryz.pinned (OpenSpec.ofChange repoTrustedSpec)

/-- ITS FALSE NEIGHBOUR: 'it returns false'. Refute it at one input. -/
def repoTrustedWrong : ChangeSpec := { name := "repoTrusted", fn := fun _ => fun
  | [d1, d2, d3] => { results := [.lit (.bool false)], args := [d1, d2, d3] }
  | _ => none }
def RepoTrustedWrongFalsely : Prop := repoTrustedRow.holds Tryz.pinned (OpenSpec.ofChange repoTrustedWrong)

/-- 'ostlerlaw16.RepoRotates': WHATEVER THE INPUT: true; the input reads as it did. -/
def repoRotatesSpec : ChangeSpec := { name := "repoRotates", fn := fun _ => fun
  | [d1, d2] => { results := [.lit (.bool true)], args := [d1, d2] }
  | _ => none }
def repoRotatesRow : OpenClaim := { program := "ytjjhceeookpieaagreat", sum := "c9cb20c25b52b768c8b70c8d8fb45e4360c02a350596a640a4a1adf3f21b158e", func := "ostler/ostlerlaw16.RepoRotates", spec := "repoRotates", inPlace := ["internal/bytealg.MakeNoZero"], unfollowed := true, recurses := true, apart := false }
def RepoRotatesSaid : Prop := repoRotatesRow.holds Tryz.pinned (OpenSpec.ofChange repoRotatesSpec)

/-- ITS FALSE NEIGHBOUR: 'it returns false'. Refute it at one input. -/
def repoRotatesWrong : ChangeSpec := { name := "repoRotates", fn := fun _ => fun
  | [d1, d2] => { results := [.lit (.bool false)], args := [d1, d2] }
  | _ => none }
def RepoRotatesWrongFalsely : Prop := repoRotatesRow.holds Tryz.pinned (OpenSpec.ofChange repoRotatesWrong)

/- THE SECOND FORM. 'bulk': how many values and letters a reading holds, each counted each time it is reached (what is shared counts as often as it is met; a slice's spare places count too). A statement '..UptoSaid' is the law's where the arguments, and the package variables that the reading takes, are together of bulk at most 1048576: NARROWER than '..Said'. Prove '..Said' where nothing that the law and all that it calls make is longer than what came in: it says more and counts as full. Else prove '..UptoSaid'. A law counts once. -/
mutual
def uptoBulk {H : Type} : DataW H → Nat
  | .lit (.string bytes) => bytes.length + 1
  | .lit _ => 1
  | .nil => 1
  | .ptr d => uptoBulk d + 1
  | .slice elems spare => uptoBulkAll elems + uptoBulkAll spare + 1
  | .agg parts => uptoBulkAll parts + 1
  | .iface _ d => uptoBulk d + 1
  | .map entries => uptoBulkEntries entries + 1
  | .held _ => 1
def uptoBulkAll {H : Type} : List (DataW H) → Nat
  | [] => 0
  | d :: r => uptoBulk d + uptoBulkAll r
def uptoBulkEntries {H : Type} : List (Lit × DataW H) → Nat
  | [] => 0
  | x :: r => uptoBulkEntry x + uptoBulkEntries r
def uptoBulkEntry {H : Type} : Lit × DataW H → Nat
  | (.string bytes, d) => bytes.length + uptoBulk d + 1
  | (_, d) => uptoBulk d + 1
 end
def uptoSmall : (H : Type) → List (DataW H) → Bool := fun _ ds => decide (uptoBulkAll ds ≤ 1048576)
def OpenSpec.upto (s : _root_.Go.ChangeSpec) : _root_.Go.OpenSpec := { _root_.Go.OpenSpec.ofChange s with cond := some uptoSmall }

/-- 'ostlerlaw16.RepoTrusted', WHERE WHAT IT READS IS OF BULK AT MOST 1048576: true; the input reads as it did. -/
def repoTrustedUptoRow : OpenClaim := { program := "ytjjhceeookpieaagreat", sum := "c9cb20c25b52b768c8b70c8d8fb45e4360c02a350596a640a4a1adf3f21b158e", func := "ostler/ostlerlaw16.RepoTrusted", spec := "repoTrusted", inPlace := ["internal/bytealg.MakeNoZero", "slices.overlaps[ostler/api.Target]"], unfollowed := true, recurses := true, apart := false, narrowed := true }
def RepoTrustedUptoSaid : Prop := repoTrustedUptoRow.holds Tryz.pinned (OpenSpec.upto repoTrustedSpec)

/-- 'ostlerlaw16.RepoRotates', WHERE WHAT IT READS IS OF BULK AT MOST 1048576: true; the input reads as it did. -/
def repoRotatesUptoRow : OpenClaim := { program := "ytjjhceeookpieaagreat", sum := "c9cb20c25b52b768c8b70c8d8fb45e4360c02a350596a640a4a1adf3f21b158e", func := "ostler/ostlerlaw16.RepoRotates", spec := "repoRotates", inPlace := ["internal/bytealg.MakeNoZero"], unfollowed := true, recurses := true, apart := false, narrowed := true }
def RepoRotatesUptoSaid : Prop := repoRotatesUptoRow.holds Tryz.pinned (OpenSpec.upto repoRotatesSpec)

end Rows
end Go.Proofs.YtjjhceeookpieaaGreat
