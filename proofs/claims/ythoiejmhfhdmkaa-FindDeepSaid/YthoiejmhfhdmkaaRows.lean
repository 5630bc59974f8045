/-
  No cell of these rows narrows 'for every input' (looked for: loops, veiled, ifaces, maps, wideKeys, modest, calm, conditions, laid).
  DERIVED. THE GIVEN ROWS OF THIS SEAT. 12 by the template 'for every input the law returns true; each argument reads behind the call as it read before'; 0 by the template 'total and deterministic' (their statements: YthoiejmhfhdmkaaTotals.lean).
  GIVEN WITH THE SEED: the statements are not yours to turn. If you find one false, say at which input.
  Laid BY PROGRAM, IN A SANDBOX (cutbox-rows.mjs): the forced cells as the released guide's own fill.sh prints them over the translation bc8280bb1b168c9f… (all of the seat's roots in one cut). By AI agents, Wed Nov 11 2026. No macro, syntax, notation, axiom, sorry.
-/
import Derived.Test.YthoiejmhfhdmkaaChecked
import GoSem.Claim
import GoSem.ClaimJoined
import GoSem.ClaimMapViews
import Derived.JoinedTies
import Derived.KernelRfl
namespace Go.Proofs.Ythoiejmhfhdmkaa
/- THE CELL 'sum', in the pinned program and in every row, IS THE sha256 OF THE DUMP (.gsa) THAT YthoiejmhfhdmkaaProg.lean LOADS. Nothing in Lean hashes anything: it is a label: what it is worth is what the hold of that sum in a sandbox is worth. -/
noncomputable def Try.pinned : Pinned := { name := "ythoiejmhfhdmkaa", sum := "bc8280bb1b168c9f0c3ab79b3aa82083d360aa0f872adf01d470af3e444e6665", checked := Try.checked }
namespace Rows
def none {H : Type} : Left H := { results := [], args := [] }

/-- 'ostlerlaw7.QuorumIs': WHATEVER THE INPUT: true; the input reads as it did. -/
def quorumIsSpec : ChangeSpec := { name := "quorumIs", fn := fun _ => fun
  | [d] => { results := [.lit (.bool true)], args := [d] }
  | _ => none }
def quorumIsRow : OpenClaim := { program := "ythoiejmhfhdmkaa", sum := "bc8280bb1b168c9f0c3ab79b3aa82083d360aa0f872adf01d470af3e444e6665", func := "ostler/ostlerlaw7.QuorumIs", spec := "quorumIs", apart := false }
def QuorumIsSaid : Prop := quorumIsRow.holds Try.pinned (OpenSpec.ofChange quorumIsSpec)

/-- ITS FALSE NEIGHBOUR: 'it returns false'. Refute it at one input. -/
def quorumIsWrong : ChangeSpec := { name := "quorumIs", fn := fun _ => fun
  | [d] => { results := [.lit (.bool false)], args := [d] }
  | _ => none }
def QuorumIsWrongFalsely : Prop := quorumIsRow.holds Try.pinned (OpenSpec.ofChange quorumIsWrong)

/-- 'ostlerlaw8.ChainTime': WHATEVER THE INPUT: true; the input reads as it did. -/
def chainTimeSpec : ChangeSpec := { name := "chainTime", fn := fun _ => fun
  | [d1, d2, d3] => { results := [.lit (.bool true)], args := [d1, d2, d3] }
  | _ => none }
def chainTimeRow : OpenClaim := { program := "ythoiejmhfhdmkaa", sum := "bc8280bb1b168c9f0c3ab79b3aa82083d360aa0f872adf01d470af3e444e6665", func := "ostler/ostlerlaw8.ChainTime", spec := "chainTime", apart := false }
def ChainTimeSaid : Prop := chainTimeRow.holds Try.pinned (OpenSpec.ofChange chainTimeSpec)

/-- ITS FALSE NEIGHBOUR: 'it returns false'. Refute it at one input. -/
def chainTimeWrong : ChangeSpec := { name := "chainTime", fn := fun _ => fun
  | [d1, d2, d3] => { results := [.lit (.bool false)], args := [d1, d2, d3] }
  | _ => none }
def ChainTimeWrongFalsely : Prop := chainTimeRow.holds Try.pinned (OpenSpec.ofChange chainTimeWrong)

/-- 'ostlerlaw10.FindTells': WHATEVER THE INPUT: true; the input reads as it did. -/
def findTellsSpec : ChangeSpec := { name := "findTells", fn := fun _ => fun
  | [d1, d2, d3] => { results := [.lit (.bool true)], args := [d1, d2, d3] }
  | _ => none }
def findTellsRow : OpenClaim := { program := "ythoiejmhfhdmkaa", sum := "bc8280bb1b168c9f0c3ab79b3aa82083d360aa0f872adf01d470af3e444e6665", func := "ostler/ostlerlaw10.FindTells", spec := "findTells", recurses := true, apart := false }
def FindTellsSaid : Prop := findTellsRow.holds Try.pinned (OpenSpec.ofChange findTellsSpec)

/-- ITS FALSE NEIGHBOUR: 'it returns false'. Refute it at one input. -/
def findTellsWrong : ChangeSpec := { name := "findTells", fn := fun _ => fun
  | [d1, d2, d3] => { results := [.lit (.bool false)], args := [d1, d2, d3] }
  | _ => none }
def FindTellsWrongFalsely : Prop := findTellsRow.holds Try.pinned (OpenSpec.ofChange findTellsWrong)

/-- 'ostlerlaw10.FindOwn': WHATEVER THE INPUT: true; the input reads as it did. -/
def findOwnSpec : ChangeSpec := { name := "findOwn", fn := fun _ => fun
  | [d1, d2] => { results := [.lit (.bool true)], args := [d1, d2] }
  | _ => none }
def findOwnRow : OpenClaim := { program := "ythoiejmhfhdmkaa", sum := "bc8280bb1b168c9f0c3ab79b3aa82083d360aa0f872adf01d470af3e444e6665", func := "ostler/ostlerlaw10.FindOwn", spec := "findOwn", recurses := true, apart := false }
def FindOwnSaid : Prop := findOwnRow.holds Try.pinned (OpenSpec.ofChange findOwnSpec)

/-- ITS FALSE NEIGHBOUR: 'it returns false'. Refute it at one input. -/
def findOwnWrong : ChangeSpec := { name := "findOwn", fn := fun _ => fun
  | [d1, d2] => { results := [.lit (.bool false)], args := [d1, d2] }
  | _ => none }
def FindOwnWrongFalsely : Prop := findOwnRow.holds Try.pinned (OpenSpec.ofChange findOwnWrong)

/-- 'ostlerlaw10.FindPrefix': WHATEVER THE INPUT: true; the input reads as it did. -/
def findPrefixSpec : ChangeSpec := { name := "findPrefix", fn := fun _ => fun
  | [d1, d2] => { results := [.lit (.bool true)], args := [d1, d2] }
  | _ => none }
def findPrefixRow : OpenClaim := { program := "ythoiejmhfhdmkaa", sum := "bc8280bb1b168c9f0c3ab79b3aa82083d360aa0f872adf01d470af3e444e6665", func := "ostler/ostlerlaw10.FindPrefix", spec := "findPrefix", recurses := true, apart := false }
def FindPrefixSaid : Prop := findPrefixRow.holds Try.pinned (OpenSpec.ofChange findPrefixSpec)

/-- ITS FALSE NEIGHBOUR: 'it returns false'. Refute it at one input. -/
def findPrefixWrong : ChangeSpec := { name := "findPrefix", fn := fun _ => fun
  | [d1, d2] => { results := [.lit (.bool false)], args := [d1, d2] }
  | _ => none }
def FindPrefixWrongFalsely : Prop := findPrefixRow.holds Try.pinned (OpenSpec.ofChange findPrefixWrong)

/-- 'ostlerlaw10.FindDeep': WHATEVER THE INPUT: true; the input reads as it did. -/
def findDeepSpec : ChangeSpec := { name := "findDeep", fn := fun _ => fun
  | [d] => { results := [.lit (.bool true)], args := [d] }
  | _ => none }
def findDeepRow : OpenClaim := { program := "ythoiejmhfhdmkaa", sum := "bc8280bb1b168c9f0c3ab79b3aa82083d360aa0f872adf01d470af3e444e6665", func := "ostler/ostlerlaw10.FindDeep", spec := "findDeep", recurses := true, apart := false }
def FindDeepSaid : Prop := findDeepRow.holds Try.pinned (OpenSpec.ofChange findDeepSpec)

/-- ITS FALSE NEIGHBOUR: 'it returns false'. Refute it at one input. -/
def findDeepWrong : ChangeSpec := { name := "findDeep", fn := fun _ => fun
  | [d] => { results := [.lit (.bool false)], args := [d] }
  | _ => none }
def FindDeepWrongFalsely : Prop := findDeepRow.holds Try.pinned (OpenSpec.ofChange findDeepWrong)

/-- 'ostlerlaw10.FindRound': WHATEVER THE INPUT: true; the input reads as it did. -/
def findRoundSpec : ChangeSpec := { name := "findRound", fn := fun _ => fun
  | [d1, d2] => { results := [.lit (.bool true)], args := [d1, d2] }
  | _ => none }
def findRoundRow : OpenClaim := { program := "ythoiejmhfhdmkaa", sum := "bc8280bb1b168c9f0c3ab79b3aa82083d360aa0f872adf01d470af3e444e6665", func := "ostler/ostlerlaw10.FindRound", spec := "findRound", recurses := true, apart := false }
def FindRoundSaid : Prop := findRoundRow.holds Try.pinned (OpenSpec.ofChange findRoundSpec)

/-- ITS FALSE NEIGHBOUR: 'it returns false'. Refute it at one input. -/
def findRoundWrong : ChangeSpec := { name := "findRound", fn := fun _ => fun
  | [d1, d2] => { results := [.lit (.bool false)], args := [d1, d2] }
  | _ => none }
def FindRoundWrongFalsely : Prop := findRoundRow.holds Try.pinned (OpenSpec.ofChange findRoundWrong)

/-- 'ostlerlaw10.FindNone': WHATEVER THE INPUT: true; the input reads as it did. -/
def findNoneSpec : ChangeSpec := { name := "findNone", fn := fun _ => fun
  | [d1, d2] => { results := [.lit (.bool true)], args := [d1, d2] }
  | _ => none }
def findNoneRow : OpenClaim := { program := "ythoiejmhfhdmkaa", sum := "bc8280bb1b168c9f0c3ab79b3aa82083d360aa0f872adf01d470af3e444e6665", func := "ostler/ostlerlaw10.FindNone", spec := "findNone", recurses := true, apart := false }
def FindNoneSaid : Prop := findNoneRow.holds Try.pinned (OpenSpec.ofChange findNoneSpec)

/-- ITS FALSE NEIGHBOUR: 'it returns false'. Refute it at one input. -/
def findNoneWrong : ChangeSpec := { name := "findNone", fn := fun _ => fun
  | [d1, d2] => { results := [.lit (.bool false)], args := [d1, d2] }
  | _ => none }
def FindNoneWrongFalsely : Prop := findNoneRow.holds Try.pinned (OpenSpec.ofChange findNoneWrong)

/-- 'ostlerlaw10.FindEcu': WHATEVER THE INPUT: true; the input reads as it did. -/
def findEcuSpec : ChangeSpec := { name := "findEcu", fn := fun _ => fun
  | [d1, d2] => { results := [.lit (.bool true)], args := [d1, d2] }
  | _ => none }
def findEcuRow : OpenClaim := { program := "ythoiejmhfhdmkaa", sum := "bc8280bb1b168c9f0c3ab79b3aa82083d360aa0f872adf01d470af3e444e6665", func := "ostler/ostlerlaw10.FindEcu", spec := "findEcu", recurses := true, apart := false }
def FindEcuSaid : Prop := findEcuRow.holds Try.pinned (OpenSpec.ofChange findEcuSpec)

/-- ITS FALSE NEIGHBOUR: 'it returns false'. Refute it at one input. -/
def findEcuWrong : ChangeSpec := { name := "findEcu", fn := fun _ => fun
  | [d1, d2] => { results := [.lit (.bool false)], args := [d1, d2] }
  | _ => none }
def FindEcuWrongFalsely : Prop := findEcuRow.holds Try.pinned (OpenSpec.ofChange findEcuWrong)

/-- 'ostlerlaw10.FindFirst': WHATEVER THE INPUT: true; the input reads as it did. -/
def findFirstSpec : ChangeSpec := { name := "findFirst", fn := fun _ => fun
  | [d1, d2, d3] => { results := [.lit (.bool true)], args := [d1, d2, d3] }
  | _ => none }
def findFirstRow : OpenClaim := { program := "ythoiejmhfhdmkaa", sum := "bc8280bb1b168c9f0c3ab79b3aa82083d360aa0f872adf01d470af3e444e6665", func := "ostler/ostlerlaw10.FindFirst", spec := "findFirst", recurses := true, apart := false }
def FindFirstSaid : Prop := findFirstRow.holds Try.pinned (OpenSpec.ofChange findFirstSpec)

/-- ITS FALSE NEIGHBOUR: 'it returns false'. Refute it at one input. -/
def findFirstWrong : ChangeSpec := { name := "findFirst", fn := fun _ => fun
  | [d1, d2, d3] => { results := [.lit (.bool false)], args := [d1, d2, d3] }
  | _ => none }
def FindFirstWrongFalsely : Prop := findFirstRow.holds Try.pinned (OpenSpec.ofChange findFirstWrong)

/-- 'ostlerlaw11.PagePlays': WHATEVER THE INPUT: true; the input reads as it did. -/
def pagePlaysSpec : ChangeSpec := { name := "pagePlays", fn := fun _ => fun
  | [d1, d2] => { results := [.lit (.bool true)], args := [d1, d2] }
  | _ => none }
def pagePlaysRow : OpenClaim := { program := "ythoiejmhfhdmkaa", sum := "bc8280bb1b168c9f0c3ab79b3aa82083d360aa0f872adf01d470af3e444e6665", func := "ostler/ostlerlaw11.PagePlays", spec := "pagePlays", unfollowed := true, recurses := true, apart := false }
def PagePlaysSaid : Prop := pagePlaysRow.holds Try.pinned (OpenSpec.ofChange pagePlaysSpec)

/-- ITS FALSE NEIGHBOUR: 'it returns false'. Refute it at one input. -/
def pagePlaysWrong : ChangeSpec := { name := "pagePlays", fn := fun _ => fun
  | [d1, d2] => { results := [.lit (.bool false)], args := [d1, d2] }
  | _ => none }
def PagePlaysWrongFalsely : Prop := pagePlaysRow.holds Try.pinned (OpenSpec.ofChange pagePlaysWrong)

/-- 'ostlerlaw11.PageTears': WHATEVER THE INPUT: true; the input reads as it did. -/
def pageTearsSpec : ChangeSpec := { name := "pageTears", fn := fun _ => fun
  | [d1, d2, d3] => { results := [.lit (.bool true)], args := [d1, d2, d3] }
  | _ => none }
def pageTearsRow : OpenClaim := { program := "ythoiejmhfhdmkaa", sum := "bc8280bb1b168c9f0c3ab79b3aa82083d360aa0f872adf01d470af3e444e6665", func := "ostler/ostlerlaw11.PageTears", spec := "pageTears", unfollowed := true, recurses := true, apart := false }
def PageTearsSaid : Prop := pageTearsRow.holds Try.pinned (OpenSpec.ofChange pageTearsSpec)

/-- ITS FALSE NEIGHBOUR: 'it returns false'. Refute it at one input. -/
def pageTearsWrong : ChangeSpec := { name := "pageTears", fn := fun _ => fun
  | [d1, d2, d3] => { results := [.lit (.bool false)], args := [d1, d2, d3] }
  | _ => none }
def PageTearsWrongFalsely : Prop := pageTearsRow.holds Try.pinned (OpenSpec.ofChange pageTearsWrong)

/- THE SECOND FORM. 'bulk': how many values and letters a reading holds, each counted each time it is reached (what is shared counts as often as it is met; a slice's spare places count too). A statement '..UptoSaid' is the law's where the arguments, and the package variables that the reading takes, are together of bulk at most 1048576: NARROWER than '..Said'. Prove '..Said' where nothing that the law and all that it calls make is longer than what came in: it says more and counts as full. Else prove '..UptoSaid'. A law counts once. -/
mutual
def uptoBulk {H : Type} : DataW H → Nat
  | .lit (.string bytes) => bytes.length + 1
  | .lit _ => 1
  | .nil => 1
  | .ptr d => uptoBulk d + 1
  | .slice elems spare => uptoBulkAll elems + uptoBulkAll spare + 1
  | .agg parts => uptoBulkAll parts + 1
  | .iface _ d => uptoBulk d + 1
  | .map entries => uptoBulkEntries entries + 1
  | .held _ => 1
def uptoBulkAll {H : Type} : List (DataW H) → Nat
  | [] => 0
  | d :: r => uptoBulk d + uptoBulkAll r
def uptoBulkEntries {H : Type} : List (Lit × DataW H) → Nat
  | [] => 0
  | x :: r => uptoBulkEntry x + uptoBulkEntries r
def uptoBulkEntry {H : Type} : Lit × DataW H → Nat
  | (.string bytes, d) => bytes.length + uptoBulk d + 1
  | (_, d) => uptoBulk d + 1
 end
def uptoSmall : (H : Type) → List (DataW H) → Bool := fun _ ds => decide (uptoBulkAll ds ≤ 1048576)
def OpenSpec.upto (s : _root_.Go.ChangeSpec) : _root_.Go.OpenSpec := { _root_.Go.OpenSpec.ofChange s with cond := some uptoSmall }

/-- 'ostlerlaw7.QuorumIs', WHERE WHAT IT READS IS OF BULK AT MOST 1048576: true; the input reads as it did. -/
def quorumIsUptoRow : OpenClaim := { program := "ythoiejmhfhdmkaa", sum := "bc8280bb1b168c9f0c3ab79b3aa82083d360aa0f872adf01d470af3e444e6665", func := "ostler/ostlerlaw7.QuorumIs", spec := "quorumIs", apart := false, narrowed := true }
def QuorumIsUptoSaid : Prop := quorumIsUptoRow.holds Try.pinned (OpenSpec.upto quorumIsSpec)

/-- 'ostlerlaw8.ChainTime', WHERE WHAT IT READS IS OF BULK AT MOST 1048576: true; the input reads as it did. -/
def chainTimeUptoRow : OpenClaim := { program := "ythoiejmhfhdmkaa", sum := "bc8280bb1b168c9f0c3ab79b3aa82083d360aa0f872adf01d470af3e444e6665", func := "ostler/ostlerlaw8.ChainTime", spec := "chainTime", apart := false, narrowed := true }
def ChainTimeUptoSaid : Prop := chainTimeUptoRow.holds Try.pinned (OpenSpec.upto chainTimeSpec)

/-- 'ostlerlaw10.FindTells', WHERE WHAT IT READS IS OF BULK AT MOST 1048576: true; the input reads as it did. -/
def findTellsUptoRow : OpenClaim := { program := "ythoiejmhfhdmkaa", sum := "bc8280bb1b168c9f0c3ab79b3aa82083d360aa0f872adf01d470af3e444e6665", func := "ostler/ostlerlaw10.FindTells", spec := "findTells", recurses := true, apart := false, narrowed := true }
def FindTellsUptoSaid : Prop := findTellsUptoRow.holds Try.pinned (OpenSpec.upto findTellsSpec)

/-- 'ostlerlaw10.FindOwn', WHERE WHAT IT READS IS OF BULK AT MOST 1048576: true; the input reads as it did. -/
def findOwnUptoRow : OpenClaim := { program := "ythoiejmhfhdmkaa", sum := "bc8280bb1b168c9f0c3ab79b3aa82083d360aa0f872adf01d470af3e444e6665", func := "ostler/ostlerlaw10.FindOwn", spec := "findOwn", recurses := true, apart := false, narrowed := true }
def FindOwnUptoSaid : Prop := findOwnUptoRow.holds Try.pinned (OpenSpec.upto findOwnSpec)

/-- 'ostlerlaw10.FindPrefix', WHERE WHAT IT READS IS OF BULK AT MOST 1048576: true; the input reads as it did. -/
def findPrefixUptoRow : OpenClaim := { program := "ythoiejmhfhdmkaa", sum := "bc8280bb1b168c9f0c3ab79b3aa82083d360aa0f872adf01d470af3e444e6665", func := "ostler/ostlerlaw10.FindPrefix", spec := "findPrefix", recurses := true, apart := false, narrowed := true }
def FindPrefixUptoSaid : Prop := findPrefixUptoRow.holds Try.pinned (OpenSpec.upto findPrefixSpec)

/-- 'ostlerlaw10.FindDeep', WHERE WHAT IT READS IS OF BULK AT MOST 1048576: true; the input reads as it did. -/
def findDeepUptoRow : OpenClaim := { program := "ythoiejmhfhdmkaa", sum := "bc8280bb1b168c9f0c3ab79b3aa82083d360aa0f872adf01d470af3e444e6665", func := "ostler/ostlerlaw10.FindDeep", spec := "findDeep", recurses := true, apart := false, narrowed := true }
def FindDeepUptoSaid : Prop := findDeepUptoRow.holds Try.pinned (OpenSpec.upto findDeepSpec)

/-- 'ostlerlaw10.FindRound', WHERE WHAT IT READS IS OF BULK AT MOST 1048576: true; the input reads as it did. -/
def findRoundUptoRow : OpenClaim := { program := "ythoiejmhfhdmkaa", sum := "bc8280bb1b168c9f0c3ab79b3aa82083d360aa0f872adf01d470af3e444e6665", func := "ostler/ostlerlaw10.FindRound", spec := "findRound", recurses := true, apart := false, narrowed := true }
def FindRoundUptoSaid : Prop := findRoundUptoRow.holds Try.pinned (OpenSpec.upto findRoundSpec)

/-- 'ostlerlaw10.FindNone', WHERE WHAT IT READS IS OF BULK AT MOST 1048576: true; the input reads as it did. -/
def findNoneUptoRow : OpenClaim := { program := "ythoiejmhfhdmkaa", sum := "bc8280bb1b168c9f0c3ab79b3aa82083d360aa0f872adf01d470af3e444e6665", func := "ostler/ostlerlaw10.FindNone", spec := "findNone", recurses := true, apart := false, narrowed := true }
def FindNoneUptoSaid : Prop := findNoneUptoRow.holds Try.pinned (OpenSpec.upto findNoneSpec)

/-- 'ostlerlaw10.FindEcu', WHERE WHAT IT READS IS OF BULK AT MOST 1048576: true; the input reads as it did. -/
def findEcuUptoRow : OpenClaim := { program := "ythoiejmhfhdmkaa", sum := "bc8280bb1b168c9f0c3ab79b3aa82083d360aa0f872adf01d470af3e444e6665", func := "ostler/ostlerlaw10.FindEcu", spec := "findEcu", recurses := true, apart := false, narrowed := true }
def FindEcuUptoSaid : Prop := findEcuUptoRow.holds Try.pinned (OpenSpec.upto findEcuSpec)

/-- 'ostlerlaw10.FindFirst', WHERE WHAT IT READS IS OF BULK AT MOST 1048576: true; the input reads as it did. -/
def findFirstUptoRow : OpenClaim := { program := "ythoiejmhfhdmkaa", sum := "bc8280bb1b168c9f0c3ab79b3aa82083d360aa0f872adf01d470af3e444e6665", func := "ostler/ostlerlaw10.FindFirst", spec := "findFirst", recurses := true, apart := false, narrowed := true }
def FindFirstUptoSaid : Prop := findFirstUptoRow.holds Try.pinned (OpenSpec.upto findFirstSpec)

/-- 'ostlerlaw11.PagePlays', WHERE WHAT IT READS IS OF BULK AT MOST 1048576: true; the input reads as it did. -/
def pagePlaysUptoRow : OpenClaim := { program := "ythoiejmhfhdmkaa", sum := "bc8280bb1b168c9f0c3ab79b3aa82083d360aa0f872adf01d470af3e444e6665", func := "ostler/ostlerlaw11.PagePlays", spec := "pagePlays", unfollowed := true, recurses := true, apart := false, narrowed := true }
def PagePlaysUptoSaid : Prop := pagePlaysUptoRow.holds Try.pinned (OpenSpec.upto pagePlaysSpec)

/-- 'ostlerlaw11.PageTears', WHERE WHAT IT READS IS OF BULK AT MOST 1048576: true; the input reads as it did. -/
def pageTearsUptoRow : OpenClaim := { program := "ythoiejmhfhdmkaa", sum := "bc8280bb1b168c9f0c3ab79b3aa82083d360aa0f872adf01d470af3e444e6665", func := "ostler/ostlerlaw11.PageTears", spec := "pageTears", unfollowed := true, recurses := true, apart := false, narrowed := true }
def PageTearsUptoSaid : Prop := pageTearsUptoRow.holds Try.pinned (OpenSpec.upto pageTearsSpec)

end Rows
end Go.Proofs.Ythoiejmhfhdmkaa
