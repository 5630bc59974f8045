/- Acts of a flash, opened. -/
import Derived.Test.YtekjahofghmdgaaPgS
import Derived.Test.YtekjahofghmdgaaOpens
open Go Go.RowKit Go.WideShapes Go.ChangeShapes Go.Deep
namespace Go.Proofs.Ytekjahofghmdgaa
theorem cAct5 : Try.prog.cellsOf 31 = 5 := by kernel_rfl
theorem cI1 : Try.prog.cellsOf 3 = 1 := by kernel_rfl
theorem cB1 : Try.prog.cellsOf 29 = 1 := by kernel_rfl
theorem cU1 : Try.prog.cellsOf 5 = 1 := by kernel_rfl
theorem trod_fieldsG {H : Type} {enc : TypeId × Value → H} {P : Program} {w : World} {spare : Nat → Bool} {held : Bool} {fuel : Nat} {t : TypeId} {cs : List Value} {x : DataW H × List MemPlace} {fs : Array Field} (ht : P.underlying t = some (.struct fs)) (hf : DataW.trod enc P w 0 spare held fuel t cs = some x) :
    ∃ m, cs.length = P.cellsOf t ∧ ∀ (i : Nat) (f : Field), nth fs.toList i = some f → ∃ y, DataW.trod enc P w 0 spare held m f.type ((cs.drop f.offset).take (P.cellsOf f.type)) = some y := by
  obtain ⟨xs, m, _, hx, hl, hxl, hel⟩ := DataW.trod_struct ht hf
  refine ⟨m, hl, fun i f hi => ?_⟩
  rw [← nth_get] at hi
  have hi' : fs[i]? = some f := by simpa using hi
  have hlt : i < xs.length := by
    rw [hxl]
    exact (Array.getElem?_eq_some_iff.1 hi').1
  exact ⟨xs[i], by rw [hel i f hi', List.getElem?_eq_getElem hlt]⟩
theorem reads_act {w : World} : ReadsP Try.prog w ActS (ActIn w) 31 := fun H enc spare held fuel cs x hf => by
  obtain ⟨m0, hl, E⟩ := trod_fieldsG Try.underlying31 hf
  obtain ⟨y0, e0⟩ := E 0 _ rfl
  obtain ⟨y1, e1⟩ := E 1 _ rfl
  obtain ⟨y2, e2⟩ := E 2 _ rfl
  obtain ⟨y3, e3⟩ := E 3 _ rfl
  obtain ⟨y4, e4⟩ := E 4 _ rfl
  dsimp only at e0 e1 e2 e3 e4
  rw [cI1] at e0 e1 e3 e4
  rw [cB1] at e2
  rw [cAct5] at hl
  obtain ⟨z0, g0, _, _⟩ := DataW.trod_int Try.underlying3 e0
  obtain ⟨z1, g1, _, _⟩ := DataW.trod_int Try.underlying3 e1
  obtain ⟨A, n, c, l, g2, l2, m2, r2, c2, _⟩ := rows_trodQ (α := UInt8) Try.underlying29 cU1 (by decide) (readsQ_u8 Try.underlying5) e2
  obtain ⟨z3, g3, _, w3⟩ := DataW.trod_int Try.underlying3 e3
  obtain ⟨z4, g4, _, _⟩ := DataW.trod_int Try.underlying3 e4
  have h3 : -9223372036854775808 ≤ z3 ∧ z3 ≤ 9223372036854775807 := by simpa [Lit.wf, IntKind.min, IntKind.max, IntKind.signed, IntKind.bits, Int.le_iff_lt_add_one] using w3
  subst l2
  rw [cellsOf_bytes] at r2
  refine ⟨⟨z0, z1, A, c, l, z3, z4⟩, ?_, r2, by unfold maxLen at m2; show l.length ≤ _; omega, h3.2⟩
  have q : cs = cs.drop 0 := rfl
  rw [q, seg cs 0 1 1 rfl, seg cs 1 1 2 rfl, seg cs 2 1 3 rfl, seg cs 3 1 4 rfl, seg_last cs 4 1 hl, g0, g1, g2, g3, g4]
  rfl
end Go.Proofs.Ytekjahofghmdgaa
