/- FindFirst. -/
import Derived.Test.YtojbbmgghhmgmaaFdL2
open Go Go.RowKit
namespace Go.Proofs.Ytojbbmgghhmgmaa
/-- a whole element written into a row that is a block -/
theorem wpl_storeE {P : Program} {ops : Array Oper} {rest : List Oper} {a : Act} {w : World} {Q : Exit → Act → World → Prop} {dst : Option Tmp} {ty : TypeId} {pos : String} {after : Array Edge} {α : Type} [RowC α] {t : TypeId} {x y : Operand} {g k n : Nat} {d : α} (hx : a.eval x = ptrOf (some ⟨g, 0, none⟩) (k * n)) (hy : a.eval y = .agg (RowC.enc d).toArray) {tb : TypeId} {l : List α} (hb : HB w g tb (cellsOf l).toArray) (ht : RowT P t n) (hs : RowC.size α = n) (hp : 0 < n) (hk : k < l.length)
    (h : ∀ w', Step (only g) w w' → HB w' g tb (cellsOf (l.set k d)).toArray → wpList P ops Q rest (a.put dst undef) w') : wpList P ops Q (⟨dst, .store t x y, ty, pos, after, none⟩ :: rest) a w := by
  subst hs
  have hlen : (cellsOf l).length = l.length * RowC.size α := cellsOf_len l
  have hkl : k * RowC.size α + RowC.size α ≤ (cellsOf l).length := by rw [hlen, ← Nat.succ_mul]; exact Nat.mul_le_mul_right _ hk
  have ho : Own w tb (cellsOf l).length (some ⟨g, 0, none⟩) 1 1 (cellsOf l) :=
    Own.of_blk hb.out (Nat.le_refl _) (by decide) (by simp) (by simp)
  obtain ⟨g', hA, h1, h2, h3⟩ := own_setCells ho (k := k * RowC.size α) (cs := RowC.enc d) (m := RowC.size α) (RowC.len d) hkl hp
  obtain rfl : g' = g := by injection hA with hA; injection hA with hA; exact hA.symm
  rw [cellsOf_set l k d hk] at h2
  refine wpl_of_unit rfl (w' := w.setCells g' (k * RowC.size α) (RowC.enc d)) ?_ (h _ ⟨⟨h3.os, h3.tape, h3.output, h3.size, fun x hx hn => h3.block x hx (fun ⟨ad, e, e2⟩ => hn (by injection e with e; subst e; exact e2.symm))⟩⟩ ⟨?_⟩)
  · have hpp : ptrOf (some ⟨g', 0, none⟩) (k * RowC.size α) = .pointer (some ⟨g', k * RowC.size α, none⟩) := by rw [ptrOf, shift_some, add_row]
    show ((Instr.storeAt t (a.eval x) (a.eval y)) >>= fun _ => pure Next.skip).run P w = _
    rw [hx, hpp, hy, Sem.run_bind, run_storeAt_mid (P := P) w g' (k * RowC.size α) t (RowC.enc d).toArray (by rw [enc_sz d rfl]; exact h1) (by rw [enc_sz d rfl]; exact ht.size) (enc_one d)]
    rfl
  · have hl2 : (cellsOf (l.set k d)).length = (cellsOf l).length := by rw [cellsOf_len, cellsOf_len, List.length_set]
    rcases h2.form with ⟨hn, _⟩ | ⟨g3, cur, e, hb2, _, _, hsz, htk⟩
    · cases hn
    · injection e with e
      injection e with e
      subst e
      have : cur = (cellsOf (l.set k d)).toArray := by
        apply Array.ext'
        rw [List.take_of_length_le (by rw [Array.length_toList, hsz, Nat.one_mul]; exact Nat.le_refl _)] at htk
        simpa using htk
      rw [← this]
      exact hb2
def tF (zd za zb : Nat) (d1 d2 : DL) (nm : ByteArray) : List TS := [tsD ⟨#[116, 111, 112]⟩ zd d1 d2, tsL nA za (tgN nm ⟨#[104, 48]⟩), tsL nB zb (tgN nm ⟨#[104, 49]⟩)]
theorem findF0 (zd za zb : Nat) (nm : ByteArray) (last : Bool) : findS (tF zd za zb (dlN nA noS last) (dlN nB noS false) nm) nm = some (tgN nm ⟨#[104, 48]⟩, nA) := by
  obtain ⟨T, hT⟩ : ∃ T, T = tF zd za zb (dlN nA noS last) (dlN nB noS false) nm := ⟨_, rfl⟩
  rw [← hT]
  have p1 : placeS T nA = some 1 := by rw [hT]; rfl
  have g0 : gt T 0 = tsD ⟨#[116, 111, 112]⟩ zd (dlN nA noS last) (dlN nB noS false) := by rw [hT]; rfl
  have g1 : gt T 1 = tsL nA za (tgN nm ⟨#[104, 48]⟩) := by rw [hT]; rfl
  have hn := hasPre_none nm
  have hl : T.length = 3 := by rw [hT]; rfl
  have ho := ownF_self (tgN nm ⟨#[104, 48]⟩) [] nm rfl
  simp only [findS, hl, askS, g0, g1, tsD, tsL, ownF_nil, loopS, dlN, hn, folS, p1, ho, insI]
  rfl
theorem findF1 (zd za zb : Nat) (nm : ByteArray) (last : Bool) : findS (tF zd za zb (dlN nB noS false) (dlN nA noS last) nm) nm = some (tgN nm ⟨#[104, 49]⟩, nB) := by
  obtain ⟨T, hT⟩ : ∃ T, T = tF zd za zb (dlN nB noS false) (dlN nA noS last) nm := ⟨_, rfl⟩
  rw [← hT]
  have p1 : placeS T nB = some 2 := by rw [hT]; rfl
  have g0 : gt T 0 = tsD ⟨#[116, 111, 112]⟩ zd (dlN nB noS false) (dlN nA noS last) := by rw [hT]; rfl
  have g1 : gt T 2 = tsL nB zb (tgN nm ⟨#[104, 49]⟩) := by rw [hT]; rfl
  have hn := hasPre_none nm
  have hl : T.length = 3 := by rw [hT]; rfl
  have ho := ownF_self (tgN nm ⟨#[104, 49]⟩) [] nm rfl
  simp only [findS, hl, askS, g0, g1, tsD, tsL, ownF_nil, loopS, dlN, hn, folS, p1, ho, insI]
  rfl
theorem tF_wf (zd za zb : Nat) (d1 d2 : DL) (nm : ByteArray) (h1 : d1.name.size ≤ maxLen) (h2 : d2.name.size ≤ maxLen) : TSWf (tF zd za zb d1 d2 nm) := tsD_wf (by decide) h1 h2 (tsL_wf (by decide) (tsL_wf (by decide) TSWf.nil'))
end Go.Proofs.Ytojbbmgghhmgmaa
