/-
  No cell of these rows narrows 'for every input' (looked for: loops, veiled, ifaces, maps, wideKeys, modest, calm, conditions, laid).
  DERIVED. THE GIVEN ROWS OF THIS SEAT. 6 by the template 'for every input the law returns true; each argument reads behind the call as it read before'; 0 by the template 'total and deterministic' (their statements: YtfkjjlalfcajlaaTotals.lean).
  GIVEN WITH THE SEED: the statements are not yours to turn. If you find one false, say at which input.
  Laid BY PROGRAM, IN A SANDBOX (cutbox-rows.mjs): the forced cells as the released guide's own fill.sh prints them over the translation 0a88a02635ed193f… (all of the seat's roots in one cut). By AI agents, Wed Nov 11 2026. No macro, syntax, notation, axiom, sorry.
-/
import Derived.Test.YtfkjjlalfcajlaaChecked
import GoSem.Claim
import GoSem.ClaimJoined
import GoSem.ClaimMapViews
import Derived.JoinedTies
import Derived.KernelRfl
namespace Go.Proofs.Ytfkjjlalfcajlaa
/- THE CELL 'sum', in the pinned program and in every row, IS THE sha256 OF THE DUMP (.gsa) THAT YtfkjjlalfcajlaaProg.lean LOADS. Nothing in Lean hashes anything: it is a label: what it is worth is what the hold of that sum in a sandbox is worth. -/
noncomputable def Try.pinned : Pinned := { name := "ytfkjjlalfcajlaa", sum := "0a88a02635ed193fa71d2e604d8d97ba2eb5a2e1735646042eb62a117e8eff6b", checked := Try.checked }
namespace Rows
def none {H : Type} : Left H := { results := [], args := [] }

/-- 'ostlerlaw12.SlotPlays': WHATEVER THE INPUT: true; the input reads as it did. -/
def slotPlaysSpec : ChangeSpec := { name := "slotPlays", fn := fun _ => fun
  | [d1, d2] => { results := [.lit (.bool true)], args := [d1, d2] }
  | _ => none }
def slotPlaysRow : OpenClaim := { program := "ytfkjjlalfcajlaa", sum := "0a88a02635ed193fa71d2e604d8d97ba2eb5a2e1735646042eb62a117e8eff6b", func := "ostler/ostlerlaw12.SlotPlays", spec := "slotPlays", inPlace := ["internal/bytealg.MakeNoZero"], unfollowed := true, recurses := true, apart := false }
def SlotPlaysSaid : Prop := slotPlaysRow.holds Try.pinned (OpenSpec.ofChange slotPlaysSpec)

/-- ITS FALSE NEIGHBOUR: 'it returns false'. Refute it at one input. -/
def slotPlaysWrong : ChangeSpec := { name := "slotPlays", fn := fun _ => fun
  | [d1, d2] => { results := [.lit (.bool false)], args := [d1, d2] }
  | _ => none }
def SlotPlaysWrongFalsely : Prop := slotPlaysRow.holds Try.pinned (OpenSpec.ofChange slotPlaysWrong)

/-- 'ostlerlaw12.SlotEach': WHATEVER THE INPUT: true; the input reads as it did. -/
def slotEachSpec : ChangeSpec := { name := "slotEach", fn := fun _ => fun
  | [d1, d2, d3, d4] => { results := [.lit (.bool true)], args := [d1, d2, d3, d4] }
  | _ => none }
def slotEachRow : OpenClaim := { program := "ytfkjjlalfcajlaa", sum := "0a88a02635ed193fa71d2e604d8d97ba2eb5a2e1735646042eb62a117e8eff6b", func := "ostler/ostlerlaw12.SlotEach", spec := "slotEach", inPlace := ["internal/bytealg.MakeNoZero"], unfollowed := true, recurses := true, apart := false }
def SlotEachSaid : Prop := slotEachRow.holds Try.pinned (OpenSpec.ofChange slotEachSpec)

/-- ITS FALSE NEIGHBOUR: 'it returns false'. Refute it at one input. -/
def slotEachWrong : ChangeSpec := { name := "slotEach", fn := fun _ => fun
  | [d1, d2, d3, d4] => { results := [.lit (.bool false)], args := [d1, d2, d3, d4] }
  | _ => none }
def SlotEachWrongFalsely : Prop := slotEachRow.holds Try.pinned (OpenSpec.ofChange slotEachWrong)

/-- 'ostlerlaw12.SlotPacks': WHATEVER THE INPUT: true; the input reads as it did. -/
def slotPacksSpec : ChangeSpec := { name := "slotPacks", fn := fun _ => fun
  | [d1, d2, d3] => { results := [.lit (.bool true)], args := [d1, d2, d3] }
  | _ => none }
def slotPacksRow : OpenClaim := { program := "ytfkjjlalfcajlaa", sum := "0a88a02635ed193fa71d2e604d8d97ba2eb5a2e1735646042eb62a117e8eff6b", func := "ostler/ostlerlaw12.SlotPacks", spec := "slotPacks", inPlace := ["internal/bytealg.MakeNoZero"], unfollowed := true, recurses := true, apart := false }
def SlotPacksSaid : Prop := slotPacksRow.holds Try.pinned (OpenSpec.ofChange slotPacksSpec)

/-- ITS FALSE NEIGHBOUR: 'it returns false'. Refute it at one input. -/
def slotPacksWrong : ChangeSpec := { name := "slotPacks", fn := fun _ => fun
  | [d1, d2, d3] => { results := [.lit (.bool false)], args := [d1, d2, d3] }
  | _ => none }
def SlotPacksWrongFalsely : Prop := slotPacksRow.holds Try.pinned (OpenSpec.ofChange slotPacksWrong)

/-- 'ostlerlaw12.SlotSpoilt': WHATEVER THE INPUT: true; the input reads as it did. -/
def slotSpoiltSpec : ChangeSpec := { name := "slotSpoilt", fn := fun _ => fun
  | [d1, d2, d3, d4, d5] => { results := [.lit (.bool true)], args := [d1, d2, d3, d4, d5] }
  | _ => none }
def slotSpoiltRow : OpenClaim := { program := "ytfkjjlalfcajlaa", sum := "0a88a02635ed193fa71d2e604d8d97ba2eb5a2e1735646042eb62a117e8eff6b", func := "ostler/ostlerlaw12.SlotSpoilt", spec := "slotSpoilt", inPlace := ["internal/bytealg.MakeNoZero"], unfollowed := true, recurses := true, apart := false }
def SlotSpoiltSaid : Prop := slotSpoiltRow.holds Try.pinned (OpenSpec.ofChange slotSpoiltSpec)

/-- ITS FALSE NEIGHBOUR: 'it returns false'. Refute it at one input. -/
def slotSpoiltWrong : ChangeSpec := { name := "slotSpoilt", fn := fun _ => fun
  | [d1, d2, d3, d4, d5] => { results := [.lit (.bool false)], args := [d1, d2, d3, d4, d5] }
  | _ => none }
def SlotSpoiltWrongFalsely : Prop := slotSpoiltRow.holds Try.pinned (OpenSpec.ofChange slotSpoiltWrong)

/-- 'ostlerlaw12.SlotRises': WHATEVER THE INPUT: true; the input reads as it did. -/
def slotRisesSpec : ChangeSpec := { name := "slotRises", fn := fun _ => fun
  | [d] => { results := [.lit (.bool true)], args := [d] }
  | _ => none }
def slotRisesRow : OpenClaim := { program := "ytfkjjlalfcajlaa", sum := "0a88a02635ed193fa71d2e604d8d97ba2eb5a2e1735646042eb62a117e8eff6b", func := "ostler/ostlerlaw12.SlotRises", spec := "slotRises", inPlace := ["internal/bytealg.MakeNoZero"], unfollowed := true, recurses := true, apart := false }
def SlotRisesSaid : Prop := slotRisesRow.holds Try.pinned (OpenSpec.ofChange slotRisesSpec)

/-- ITS FALSE NEIGHBOUR: 'it returns false'. Refute it at one input. -/
def slotRisesWrong : ChangeSpec := { name := "slotRises", fn := fun _ => fun
  | [d] => { results := [.lit (.bool false)], args := [d] }
  | _ => none }
def SlotRisesWrongFalsely : Prop := slotRisesRow.holds Try.pinned (OpenSpec.ofChange slotRisesWrong)

/-- 'ostlerlaw12.SlotSmall': WHATEVER THE INPUT: true; the input reads as it did. -/
def slotSmallSpec : ChangeSpec := { name := "slotSmall", fn := fun _ => fun
  | [d1, d2] => { results := [.lit (.bool true)], args := [d1, d2] }
  | _ => none }
def slotSmallRow : OpenClaim := { program := "ytfkjjlalfcajlaa", sum := "0a88a02635ed193fa71d2e604d8d97ba2eb5a2e1735646042eb62a117e8eff6b", func := "ostler/ostlerlaw12.SlotSmall", spec := "slotSmall", inPlace := ["internal/bytealg.MakeNoZero"], unfollowed := true, recurses := true, apart := false }
def SlotSmallSaid : Prop := slotSmallRow.holds Try.pinned (OpenSpec.ofChange slotSmallSpec)

/-- ITS FALSE NEIGHBOUR: 'it returns false'. Refute it at one input. -/
def slotSmallWrong : ChangeSpec := { name := "slotSmall", fn := fun _ => fun
  | [d1, d2] => { results := [.lit (.bool false)], args := [d1, d2] }
  | _ => none }
def SlotSmallWrongFalsely : Prop := slotSmallRow.holds Try.pinned (OpenSpec.ofChange slotSmallWrong)

/- THE SECOND FORM. 'bulk': how many values and letters a reading holds, each counted each time it is reached (what is shared counts as often as it is met; a slice's spare places count too). A statement '..UptoSaid' is the law's where the arguments, and the package variables that the reading takes, are together of bulk at most 1048576: NARROWER than '..Said'. Prove '..Said' where nothing that the law and all that it calls make is longer than what came in: it says more and counts as full. Else prove '..UptoSaid'. A law counts once. -/
mutual
def uptoBulk {H : Type} : DataW H → Nat
  | .lit (.string bytes) => bytes.length + 1
  | .lit _ => 1
  | .nil => 1
  | .ptr d => uptoBulk d + 1
  | .slice elems spare => uptoBulkAll elems + uptoBulkAll spare + 1
  | .agg parts => uptoBulkAll parts + 1
  | .iface _ d => uptoBulk d + 1
  | .map entries => uptoBulkEntries entries + 1
  | .held _ => 1
def uptoBulkAll {H : Type} : List (DataW H) → Nat
  | [] => 0
  | d :: r => uptoBulk d + uptoBulkAll r
def uptoBulkEntries {H : Type} : List (Lit × DataW H) → Nat
  | [] => 0
  | x :: r => uptoBulkEntry x + uptoBulkEntries r
def uptoBulkEntry {H : Type} : Lit × DataW H → Nat
  | (.string bytes, d) => bytes.length + uptoBulk d + 1
  | (_, d) => uptoBulk d + 1
 end
def uptoSmall : (H : Type) → List (DataW H) → Bool := fun _ ds => decide (uptoBulkAll ds ≤ 1048576)
def OpenSpec.upto (s : _root_.Go.ChangeSpec) : _root_.Go.OpenSpec := { _root_.Go.OpenSpec.ofChange s with cond := some uptoSmall }

/-- 'ostlerlaw12.SlotPlays', WHERE WHAT IT READS IS OF BULK AT MOST 1048576: true; the input reads as it did. -/
def slotPlaysUptoRow : OpenClaim := { program := "ytfkjjlalfcajlaa", sum := "0a88a02635ed193fa71d2e604d8d97ba2eb5a2e1735646042eb62a117e8eff6b", func := "ostler/ostlerlaw12.SlotPlays", spec := "slotPlays", inPlace := ["internal/bytealg.MakeNoZero"], unfollowed := true, recurses := true, apart := false, narrowed := true }
def SlotPlaysUptoSaid : Prop := slotPlaysUptoRow.holds Try.pinned (OpenSpec.upto slotPlaysSpec)

/-- 'ostlerlaw12.SlotEach', WHERE WHAT IT READS IS OF BULK AT MOST 1048576: true; the input reads as it did. -/
def slotEachUptoRow : OpenClaim := { program := "ytfkjjlalfcajlaa", sum := "0a88a02635ed193fa71d2e604d8d97ba2eb5a2e1735646042eb62a117e8eff6b", func := "ostler/ostlerlaw12.SlotEach", spec := "slotEach", inPlace := ["internal/bytealg.MakeNoZero"], unfollowed := true, recurses := true, apart := false, narrowed := true }
def SlotEachUptoSaid : Prop := slotEachUptoRow.holds Try.pinned (OpenSpec.upto slotEachSpec)

/-- 'ostlerlaw12.SlotPacks', WHERE WHAT IT READS IS OF BULK AT MOST 1048576: true; the input reads as it did. -/
def slotPacksUptoRow : OpenClaim := { program := "ytfkjjlalfcajlaa", sum := "0a88a02635ed193fa71d2e604d8d97ba2eb5a2e1735646042eb62a117e8eff6b", func := "ostler/ostlerlaw12.SlotPacks", spec := "slotPacks", inPlace := ["internal/bytealg.MakeNoZero"], unfollowed := true, recurses := true, apart := false, narrowed := true }
def SlotPacksUptoSaid : Prop := slotPacksUptoRow.holds Try.pinned (OpenSpec.upto slotPacksSpec)

/-- 'ostlerlaw12.SlotSpoilt', WHERE WHAT IT READS IS OF BULK AT MOST 1048576: true; the input reads as it did. -/
def slotSpoiltUptoRow : OpenClaim := { program := "ytfkjjlalfcajlaa", sum := "0a88a02635ed193fa71d2e604d8d97ba2eb5a2e1735646042eb62a117e8eff6b", func := "ostler/ostlerlaw12.SlotSpoilt", spec := "slotSpoilt", inPlace := ["internal/bytealg.MakeNoZero"], unfollowed := true, recurses := true, apart := false, narrowed := true }
def SlotSpoiltUptoSaid : Prop := slotSpoiltUptoRow.holds Try.pinned (OpenSpec.upto slotSpoiltSpec)

/-- 'ostlerlaw12.SlotRises', WHERE WHAT IT READS IS OF BULK AT MOST 1048576: true; the input reads as it did. -/
def slotRisesUptoRow : OpenClaim := { program := "ytfkjjlalfcajlaa", sum := "0a88a02635ed193fa71d2e604d8d97ba2eb5a2e1735646042eb62a117e8eff6b", func := "ostler/ostlerlaw12.SlotRises", spec := "slotRises", inPlace := ["internal/bytealg.MakeNoZero"], unfollowed := true, recurses := true, apart := false, narrowed := true }
def SlotRisesUptoSaid : Prop := slotRisesUptoRow.holds Try.pinned (OpenSpec.upto slotRisesSpec)

/-- 'ostlerlaw12.SlotSmall', WHERE WHAT IT READS IS OF BULK AT MOST 1048576: true; the input reads as it did. -/
def slotSmallUptoRow : OpenClaim := { program := "ytfkjjlalfcajlaa", sum := "0a88a02635ed193fa71d2e604d8d97ba2eb5a2e1735646042eb62a117e8eff6b", func := "ostler/ostlerlaw12.SlotSmall", spec := "slotSmall", inPlace := ["internal/bytealg.MakeNoZero"], unfollowed := true, recurses := true, apart := false, narrowed := true }
def SlotSmallUptoSaid : Prop := slotSmallUptoRow.holds Try.pinned (OpenSpec.upto slotSmallSpec)

end Rows
end Go.Proofs.Ytfkjjlalfcajlaa
