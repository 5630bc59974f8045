/-
  No cell of these rows narrows 'for every input' (looked for: loops, veiled, ifaces, maps, wideKeys, modest, calm, conditions, laid).
  DERIVED. THE GIVEN ROWS OF THIS SEAT. 6 by the template 'for every input the law returns true; each argument reads behind the call as it read before'; 0 by the template 'total and deterministic' (their statements: YteieielodooglaaGreatTotals.lean).
  GIVEN WITH THE SEED: the statements are not yours to turn. If you find one false, say at which input.
  Laid BY PROGRAM, IN A SANDBOX (cutbox-rows.mjs): the forced cells as the released guide's own fill.sh prints them over the translation 4e839c2994ad8b64… (all of the seat's roots in one cut). By AI agents, Wed Nov 11 2026. No macro, syntax, notation, axiom, sorry.
-/
import Derived.Test.YteieielodooglaaGreatChecked
import GoSem.Claim
import GoSem.ClaimJoined
import GoSem.ClaimMapViews
import Derived.JoinedTies
import Derived.KernelRfl
namespace Go.Proofs.YteieielodooglaaGreat
/- THE CELL 'sum', in the pinned program and in every row, IS THE sha256 OF THE DUMP (.gsa) THAT YteieielodooglaaGreatProg.lean LOADS. Nothing in Lean hashes anything: it is a label: what it is worth is what the hold of that sum in a sandbox is worth. -/
noncomputable def Tryz.pinned : Pinned := { name := "yteieielodooglaagreat", sum := "4e839c2994ad8b64f8d71c05e71717dd5854823fba5026cd79ea640a232390ae", checked := Tryz.checked }
namespace Rows
def none {H : Type} : Left H := { results := [], args := [] }

/-- 'ostlerlaw16.RepoUsed': WHATEVER THE INPUT: true; the input reads as it did. -/
def repoUsedSpec : ChangeSpec := { name := "repoUsed", fn := fun _ => fun
  | [d] => { results := [.lit (.bool true)], args := [d] }
  | _ => none }
def repoUsedRow : OpenClaim := { program := "yteieielodooglaagreat", sum := "4e839c2994ad8b64f8d71c05e71717dd5854823fba5026cd79ea640a232390ae", func := "ostler/ostlerlaw16.RepoUsed", spec := "repoUsed", inPlace := ["internal/bytealg.MakeNoZero"], unfollowed := true, recurses := true, plainKeys := false, apart := false }
def RepoUsedSaid : Prop := repoUsedRow.holds Tryz.pinned (OpenSpec.ofChange repoUsedSpec)

/-- ITS FALSE NEIGHBOUR: 'it returns false'. Refute it at one input. -/
def repoUsedWrong : ChangeSpec := { name := "repoUsed", fn := fun _ => fun
  | [d] => { results := [.lit (.bool false)], args := [d] }
  | _ => none }
def RepoUsedWrongFalsely : Prop := repoUsedRow.holds Tryz.pinned (OpenSpec.ofChange repoUsedWrong)

/-- 'ostlerlaw16.RepoList': WHATEVER THE INPUT: true; the input reads as it did. -/
def repoListSpec : ChangeSpec := { name := "repoList", fn := fun _ => fun
  | [d] => { results := [.lit (.bool true)], args := [d] }
  | _ => none }
def repoListRow : OpenClaim := { program := "yteieielodooglaagreat", sum := "4e839c2994ad8b64f8d71c05e71717dd5854823fba5026cd79ea640a232390ae", func := "ostler/ostlerlaw16.RepoList", spec := "repoList", inPlace := ["internal/bytealg.MakeNoZero", "slices.overlaps[ostler/api.Target]"], unfollowed := true, recurses := true, plainKeys := false, apart := false }
def RepoListSaid : Prop := repoListRow.holds Tryz.pinned (OpenSpec.ofChange repoListSpec)

/-- ITS FALSE NEIGHBOUR: 'it returns false'. Refute it at one input. -/
def repoListWrong : ChangeSpec := { name := "repoList", fn := fun _ => fun
  | [d] => { results := [.lit (.bool false)], args := [d] }
  | _ => none }
def RepoListWrongFalsely : Prop := repoListRow.holds Tryz.pinned (OpenSpec.ofChange repoListWrong)

/-- 'ostlerlaw16.RepoOfNothing': WHATEVER THE INPUT: true; the input reads as it did. -/
def repoOfNothingSpec : ChangeSpec := { name := "repoOfNothing", fn := fun _ => fun
  | [d] => { results := [.lit (.bool true)], args := [d] }
  | _ => none }
def repoOfNothingRow : OpenClaim := { program := "yteieielodooglaagreat", sum := "4e839c2994ad8b64f8d71c05e71717dd5854823fba5026cd79ea640a232390ae", func := "ostler/ostlerlaw16.RepoOfNothing", spec := "repoOfNothing", inPlace := ["slices.overlaps[ostler/api.Target]", "internal/bytealg.MakeNoZero"], unfollowed := true, recurses := true, plainKeys := false, apart := false }
def RepoOfNothingSaid : Prop := repoOfNothingRow.holds Tryz.pinned (OpenSpec.ofChange repoOfNothingSpec)

/-- ITS FALSE NEIGHBOUR: 'it returns false'. Refute it at one input. -/
def repoOfNothingWrong : ChangeSpec := { name := "repoOfNothing", fn := fun _ => fun
  | [d] => { results := [.lit (.bool false)], args := [d] }
  | _ => none }
def RepoOfNothingWrongFalsely : Prop := repoOfNothingRow.holds Tryz.pinned (OpenSpec.ofChange repoOfNothingWrong)

/-- 'ostlerlaw17.DirectorAssigns': WHATEVER THE INPUT: true; the input reads as it did. -/
def directorAssignsSpec : ChangeSpec := { name := "directorAssigns", fn := fun _ => fun
  | [d] => { results := [.lit (.bool true)], args := [d] }
  | _ => none }
def directorAssignsRow : OpenClaim := { program := "yteieielodooglaagreat", sum := "4e839c2994ad8b64f8d71c05e71717dd5854823fba5026cd79ea640a232390ae", func := "ostler/ostlerlaw17.DirectorAssigns", spec := "directorAssigns", inPlace := ["internal/bytealg.MakeNoZero", "slices.overlaps[ostler/director.enrolled]", "slices.overlaps[ostler/api.Target]"], unfollowed := true, recurses := true, plainKeys := false, apart := false }
def DirectorAssignsSaid : Prop := directorAssignsRow.holds Tryz.pinned (OpenSpec.ofChange directorAssignsSpec)

/-- ITS FALSE NEIGHBOUR: 'it returns false'. Refute it at one input. -/
def directorAssignsWrong : ChangeSpec := { name := "directorAssigns", fn := fun _ => fun
  | [d] => { results := [.lit (.bool false)], args := [d] }
  | _ => none }
def DirectorAssignsWrongFalsely : Prop := directorAssignsRow.holds Tryz.pinned (OpenSpec.ofChange directorAssignsWrong)

/-- 'ostlerlaw17.DirectorMany': WHATEVER THE INPUT: true; the input reads as it did. -/
def directorManySpec : ChangeSpec := { name := "directorMany", fn := fun _ => fun
  | [d] => { results := [.lit (.bool true)], args := [d] }
  | _ => none }
def directorManyRow : OpenClaim := { program := "yteieielodooglaagreat", sum := "4e839c2994ad8b64f8d71c05e71717dd5854823fba5026cd79ea640a232390ae", func := "ostler/ostlerlaw17.DirectorMany", spec := "directorMany", inPlace := ["internal/bytealg.MakeNoZero", "slices.overlaps[ostler/api.Target]", "slices.overlaps[ostler/director.enrolled]"], unfollowed := true, recurses := true, plainKeys := false, apart := false }
def DirectorManySaid : Prop := directorManyRow.holds Tryz.pinned (OpenSpec.ofChange directorManySpec)

/-- ITS FALSE NEIGHBOUR: 'it returns false'. Refute it at one input. -/
def directorManyWrong : ChangeSpec := { name := "directorMany", fn := fun _ => fun
  | [d] => { results := [.lit (.bool false)], args := [d] }
  | _ => none }
def DirectorManyWrongFalsely : Prop := directorManyRow.holds Tryz.pinned (OpenSpec.ofChange directorManyWrong)

/-- 'ostlerlaw17.DirectorOfNothing': WHATEVER THE INPUT: true; the input reads as it did. -/
def directorOfNothingSpec : ChangeSpec := { name := "directorOfNothing", fn := fun _ => fun
  | [d1, d2] => { results := [.lit (.bool true)], args := [d1, d2] }
  | _ => none }
def directorOfNothingRow : OpenClaim := { program := "yteieielodooglaagreat", sum := "4e839c2994ad8b64f8d71c05e71717dd5854823fba5026cd79ea640a232390ae", func := "ostler/ostlerlaw17.DirectorOfNothing", spec := "directorOfNothing", inPlace := ["slices.overlaps[ostler/director.enrolled]", "slices.overlaps[ostler/api.Target]", "internal/bytealg.MakeNoZero"], unfollowed := true, recurses := true, plainKeys := false, apart := false }
def DirectorOfNothingSaid : Prop := directorOfNothingRow.holds Tryz.pinned (OpenSpec.ofChange directorOfNothingSpec)

/-- ITS FALSE NEIGHBOUR: 'it returns false'. Refute it at one input. -/
def directorOfNothingWrong : ChangeSpec := { name := "directorOfNothing", fn := fun _ => fun
  | [d1, d2] => { results := [.lit (.bool false)], args := [d1, d2] }
  | _ => none }
def DirectorOfNothingWrongFalsely : Prop := directorOfNothingRow.holds Tryz.pinned (OpenSpec.ofChange directorOfNothingWrong)

/- THE SECOND FORM. 'bulk': how many values and letters a reading holds, each counted each time it is reached (what is shared counts as often as it is met; a slice's spare places count too). A statement '..UptoSaid' is the law's where the arguments, and the package variables that the reading takes, are together of bulk at most 1048576: NARROWER than '..Said'. Prove '..Said' where nothing that the law and all that it calls make is longer than what came in: it says more and counts as full. Else prove '..UptoSaid'. A law counts once. -/
mutual
def uptoBulk {H : Type} : DataW H → Nat
  | .lit (.string bytes) => bytes.length + 1
  | .lit _ => 1
  | .nil => 1
  | .ptr d => uptoBulk d + 1
  | .slice elems spare => uptoBulkAll elems + uptoBulkAll spare + 1
  | .agg parts => uptoBulkAll parts + 1
  | .iface _ d => uptoBulk d + 1
  | .map entries => uptoBulkEntries entries + 1
  | .held _ => 1
def uptoBulkAll {H : Type} : List (DataW H) → Nat
  | [] => 0
  | d :: r => uptoBulk d + uptoBulkAll r
def uptoBulkEntries {H : Type} : List (Lit × DataW H) → Nat
  | [] => 0
  | x :: r => uptoBulkEntry x + uptoBulkEntries r
def uptoBulkEntry {H : Type} : Lit × DataW H → Nat
  | (.string bytes, d) => bytes.length + uptoBulk d + 1
  | (_, d) => uptoBulk d + 1
 end
def uptoSmall : (H : Type) → List (DataW H) → Bool := fun _ ds => decide (uptoBulkAll ds ≤ 1048576)
def OpenSpec.upto (s : _root_.Go.ChangeSpec) : _root_.Go.OpenSpec := { _root_.Go.OpenSpec.ofChange s with cond := some uptoSmall }

/-- 'ostlerlaw16.RepoUsed', WHERE WHAT IT READS IS OF BULK AT MOST 1048576: true; the input reads as it did. -/
def repoUsedUptoRow : OpenClaim := { program := "yteieielodooglaagreat", sum := "4e839c2994ad8b64f8d71c05e71717dd5854823fba5026cd79ea640a232390ae", func := "ostler/ostlerlaw16.RepoUsed", spec := "repoUsed", inPlace := ["internal/bytealg.MakeNoZero"], unfollowed := true, recurses := true, plainKeys := false, apart := false, narrowed := true }
def RepoUsedUptoSaid : Prop := repoUsedUptoRow.holds Tryz.pinned (OpenSpec.upto repoUsedSpec)

/-- 'ostlerlaw16.RepoList', WHERE WHAT IT READS IS OF BULK AT MOST 1048576: true; the input reads as it did. -/
def repoListUptoRow : OpenClaim := { program := "yteieielodooglaagreat", sum := "4e839c2994ad8b64f8d71c05e71717dd5854823fba5026cd79ea640a232390ae", func := "ostler/ostlerlaw16.RepoList", spec := "repoList", inPlace := ["internal/bytealg.MakeNoZero", "slices.overlaps[ostler/api.Target]"], unfollowed := true, recurses := true, plainKeys := false, apart := false, narrowed := true }
def RepoListUptoSaid : Prop := repoListUptoRow.holds Tryz.pinned (OpenSpec.upto repoListSpec)

/-- 'ostlerlaw16.RepoOfNothing', WHERE WHAT IT READS IS OF BULK AT MOST 1048576: true; the input reads as it did. -/
def repoOfNothingUptoRow : OpenClaim := { program := "yteieielodooglaagreat", sum := "4e839c2994ad8b64f8d71c05e71717dd5854823fba5026cd79ea640a232390ae", func := "ostler/ostlerlaw16.RepoOfNothing", spec := "repoOfNothing", inPlace := ["slices.overlaps[ostler/api.Target]", "internal/bytealg.MakeNoZero"], unfollowed := true, recurses := true, plainKeys := false, apart := false, narrowed := true }
def RepoOfNothingUptoSaid : Prop := repoOfNothingUptoRow.holds Tryz.pinned (OpenSpec.upto repoOfNothingSpec)

/-- 'ostlerlaw17.DirectorAssigns', WHERE WHAT IT READS IS OF BULK AT MOST 1048576: true; the input reads as it did. -/
def directorAssignsUptoRow : OpenClaim := { program := "yteieielodooglaagreat", sum := "4e839c2994ad8b64f8d71c05e71717dd5854823fba5026cd79ea640a232390ae", func := "ostler/ostlerlaw17.DirectorAssigns", spec := "directorAssigns", inPlace := ["internal/bytealg.MakeNoZero", "slices.overlaps[ostler/director.enrolled]", "slices.overlaps[ostler/api.Target]"], unfollowed := true, recurses := true, plainKeys := false, apart := false, narrowed := true }
def DirectorAssignsUptoSaid : Prop := directorAssignsUptoRow.holds Tryz.pinned (OpenSpec.upto directorAssignsSpec)

/-- 'ostlerlaw17.DirectorMany', WHERE WHAT IT READS IS OF BULK AT MOST 1048576: true; the input reads as it did. -/
def directorManyUptoRow : OpenClaim := { program := "yteieielodooglaagreat", sum := "4e839c2994ad8b64f8d71c05e71717dd5854823fba5026cd79ea640a232390ae", func := "ostler/ostlerlaw17.DirectorMany", spec := "directorMany", inPlace := ["internal/bytealg.MakeNoZero", "slices.overlaps[ostler/api.Target]", "slices.overlaps[ostler/director.enrolled]"], unfollowed := true, recurses := true, plainKeys := false, apart := false, narrowed := true }
def DirectorManyUptoSaid : Prop := directorManyUptoRow.holds Tryz.pinned (OpenSpec.upto directorManySpec)

/-- 'ostlerlaw17.DirectorOfNothing', WHERE WHAT IT READS IS OF BULK AT MOST 1048576: true; the input reads as it did. -/
def directorOfNothingUptoRow : OpenClaim := { program := "yteieielodooglaagreat", sum := "4e839c2994ad8b64f8d71c05e71717dd5854823fba5026cd79ea640a232390ae", func := "ostler/ostlerlaw17.DirectorOfNothing", spec := "directorOfNothing", inPlace := ["slices.overlaps[ostler/director.enrolled]", "slices.overlaps[ostler/api.Target]", "internal/bytealg.MakeNoZero"], unfollowed := true, recurses := true, plainKeys := false, apart := false, narrowed := true }
def DirectorOfNothingUptoSaid : Prop := directorOfNothingUptoRow.holds Tryz.pinned (OpenSpec.upto directorOfNothingSpec)

end Rows
end Go.Proofs.YteieielodooglaaGreat
