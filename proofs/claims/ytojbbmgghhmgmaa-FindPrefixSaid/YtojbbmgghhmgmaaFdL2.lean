/- FindRound. -/
import Derived.Test.YtojbbmgghhmgmaaFdK
import Derived.Test.YtojbbmgghhmgmaaFdH
import Derived.Laws.Concat
open Go Go.RowKit
namespace Go.Proofs.Ytojbbmgghhmgmaa
theorem hasPre_none (nm : ByteArray) : hasPre nm noS = true := rfl
theorem hasPre_add (a b : ByteArray) : hasPre (a ++ b) a = true := by
  unfold hasPre Lib.hasPrefix
  rw [List.isPrefixOf_iff_prefix, ByteArray.data_append, Array.toList_append]
  exact List.prefix_append _ _
theorem ownF_nil (nm : ByteArray) : ownF [] nm = none := rfl
theorem ownF_self (g : TG) (L : List TG) (nm : ByteArray) (h : g.name = nm) : ownF (g :: L) nm = some g := by
  unfold ownF
  rw [List.find?_cons, decide_eq_true h]
def nA : ByteArray := ⟨#[97]⟩
def nB : ByteArray := ⟨#[98]⟩
def nC : ByteArray := ⟨#[99]⟩
def dlN (nm pre : ByteArray) (b : Bool) : DL := ⟨nm, none, 0, 0, 0, pre, b⟩
def tgN (nm hw : ByteArray) : TG := ⟨nm, 0, zeroH, hw, 0, noS⟩
def tsD (nm : ByteArray) (zd : Nat) (d1 d2 : DL) : TS := ⟨nm, 0, 0, none, 0, 0, some ⟨zd, 0, none⟩, 2, 2, [], [d1, d2]⟩
def tsL (nm : ByteArray) (zl : Nat) (g : TG) : TS := ⟨nm, 0, 0, some ⟨zl, 0, none⟩, 1, 1, none, 0, 0, [g], []⟩
def tR (z1 z2 zl : Nat) (pre nm : ByteArray) (last : Bool) : List TS := [tsD nA z1 (dlN nB pre last) (dlN nC noS false), tsD nB z2 (dlN nA noS false) (dlN nB noS false), tsL nC zl (tgN nm ⟨#[104]⟩)]
theorem tsD_wf {nm : ByteArray} {zd : Nat} {d1 d2 : DL} {l : List TS} (h1 : nm.size ≤ maxLen) (h2 : d1.name.size ≤ maxLen) (h3 : d2.name.size ≤ maxLen) (h : TSWf l) : TSWf (tsD nm zd d1 d2 :: l) :=
  TSWf.cons' (by show 0 ≤ _; decide) (by show 2 ≤ _; decide) h1 (fun d hd => by rcases List.mem_cons.1 hd with rfl | hd; exact h2; rcases List.mem_cons.1 hd with rfl | hd; exact h3; cases hd) h
theorem tsL_wf {nm : ByteArray} {zd : Nat} {g : TG} {l : List TS} (h1 : nm.size ≤ maxLen) (h : TSWf l) : TSWf (tsL nm zd g :: l) :=
  TSWf.cons' (by show 1 ≤ _; decide) (by show 0 ≤ _; decide) h1 (fun d hd => by cases hd) h
theorem tsD_t {w : World} {nm : ByteArray} {zd : Nat} {d1 d2 : DL} {l : List TS} (h1 : HR w (some ⟨zd, 0, none⟩) (cellsOf [d1, d2])) (h : HTs w l) : HTs w (tsD nm zd d1 d2 :: l) := HTs.cons' (t := tsD nm zd d1 d2) (HR.nilE w) rfl h1 rfl h
theorem tsL_t {w : World} {nm : ByteArray} {zl : Nat} {g : TG} {l : List TS} (h1 : HR w (some ⟨zl, 0, none⟩) (cellsOf [g])) (h : HTs w l) : HTs w (tsL nm zl g :: l) := HTs.cons' (t := tsL nm zl g) h1 rfl (HR.nilE w) rfl h
theorem tR_wf (z1 z2 zl : Nat) (pre nm : ByteArray) (last : Bool) : TSWf (tR z1 z2 zl pre nm last) := tsD_wf (by decide) (by show 1 ≤ _; decide) (by show 1 ≤ _; decide) (tsD_wf (by decide) (by decide) (by decide) (tsL_wf (by decide) TSWf.nil'))
theorem findR (z1 z2 zl : Nat) (pre nm : ByteArray) (last : Bool) (h : hasPre nm pre = true) : findS (tR z1 z2 zl pre nm last) nm = if last then none else some (tgN nm ⟨#[104]⟩, nC) := by
  have p0 : placeS (tR z1 z2 zl pre nm last) nA = some 0 := rfl
  have p1 : placeS (tR z1 z2 zl pre nm last) nB = some 1 := rfl
  have p2 : placeS (tR z1 z2 zl pre nm last) nC = some 2 := rfl
  have g0 : gt (tR z1 z2 zl pre nm last) 0 = tsD nA z1 (dlN nB pre last) (dlN nC noS false) := rfl
  have g1 : gt (tR z1 z2 zl pre nm last) 1 = tsD nB z2 (dlN nA noS false) (dlN nB noS false) := rfl
  have g2 : gt (tR z1 z2 zl pre nm last) 2 = tsL nC zl (tgN nm ⟨#[104]⟩) := rfl
  have hn := hasPre_none nm
  have hl : (tR z1 z2 zl pre nm last).length = 3 := rfl
  have ho := ownF_self (tgN nm ⟨#[104]⟩) [] nm rfl
  simp only [findS, hl, askS, g0, g1, g2, tsD, tsL, ownF_nil, loopS, dlN, h, hn, folS, p0, p1, p2, ho, insI]
  cases last <;> rfl
theorem add_str (pre : ByteArray) (x : UInt8) (h : pre.size ≤ 100) (w : World) : (Op.stringOp .add pre ⟨#[x]⟩).run Try.prog w = .ok (.string (pre ++ ⟨#[x]⟩)) w :=
  run_string_add_sum (P := Try.prog) w pre ⟨#[x]⟩ (by show pre.size + 1 ≤ _; omega)
end Go.Proofs.Ytojbbmgghhmgmaa

