import Derived.Test.YtegdihpnefoolaaTjBpG
import Derived.Test.YtegdihpnefoolaaTjPlain
/- BpZ -/
open Go Go.RowKit Go.WideShapes Go.ChangeShapes Go.Deep
namespace Go.Proofs.Ytegdihpnefoolaa
theorem cBAct6 : Try.prog.cellsOf 48 = 6 := by kernel_rfl
theorem cBI1 : Try.prog.cellsOf 3 = 1 := by kernel_rfl
theorem cBB1 : Try.prog.cellsOf 22 = 1 := by kernel_rfl
theorem cBU1 : Try.prog.cellsOf 5 = 1 := by kernel_rfl
theorem cBS1 : Try.prog.cellsOf 9 = 1 := by kernel_rfl
theorem trod_fieldsB {H : Type} {enc : TypeId × Value → H} {P : Program} {w : World} {spare : Nat → Bool} {held : Bool} {fuel : Nat} {t : TypeId} {cs : List Value} {x : DataW H × List MemPlace} {fs : Array Field} (ht : P.underlying t = some (.struct fs)) (hf : DataW.trod enc P w 0 spare held fuel t cs = some x) :
    ∃ m, cs.length = P.cellsOf t ∧ ∀ (i : Nat) (f : Field), nth fs.toList i = some f → ∃ y, DataW.trod enc P w 0 spare held m f.type ((cs.drop f.offset).take (P.cellsOf f.type)) = some y := by
  obtain ⟨xs, m, _, hx, hl, hxl, hel⟩ := DataW.trod_struct ht hf
  refine ⟨m, hl, fun i f hi => ?_⟩
  rw [← nth_get] at hi
  have hi' : fs[i]? = some f := by simpa using hi
  have hlt : i < xs.length := by
    rw [hxl]
    exact (Array.getElem?_eq_some_iff.1 hi').1
  exact ⟨xs[i], by rw [hel i f hi', List.getElem?_eq_getElem hlt]⟩
theorem reads_bact {w : World} : ReadsP Try.prog w BAct (BActIn w) 48 := fun H enc spare held fuel cs x hf => by
  obtain ⟨m0, hl, E⟩ := trod_fieldsB Try.underlying48 hf
  obtain ⟨y0, e0⟩ := E 0 _ rfl
  obtain ⟨y1, e1⟩ := E 1 _ rfl
  obtain ⟨y2, e2⟩ := E 2 _ rfl
  obtain ⟨y3, e3⟩ := E 3 _ rfl
  obtain ⟨y4, e4⟩ := E 4 _ rfl
  obtain ⟨y5, e5⟩ := E 5 _ rfl
  dsimp only at e0 e1 e2 e3 e4 e5
  rw [cBI1] at e0 e3 e5
  rw [cBB1] at e2 e4
  rw [cBS1] at e1
  rw [cBAct6] at hl
  obtain ⟨z0, g0, _, _⟩ := DataW.trod_int Try.underlying3 e0
  obtain ⟨s1, g1, _, hs1⟩ := DataW.trod_string Try.underlying9 e1
  obtain ⟨A, n, c, l, g2, l2, m2, r2, c2, _⟩ := rows_trodQ (α := UInt8) Try.underlying22 cBU1 (by decide) (readsQ_u8 Try.underlying5) e2
  obtain ⟨z3, g3, _, w3⟩ := DataW.trod_int Try.underlying3 e3
  obtain ⟨A4, n4, c4, l4, g4, l4', m4, r4, c4', _⟩ := rows_trodQ (α := UInt8) Try.underlying22 cBU1 (by decide) (readsQ_u8 Try.underlying5) e4
  obtain ⟨z5, g5, _, _⟩ := DataW.trod_int Try.underlying3 e5
  have h3 : -9223372036854775808 ≤ z3 ∧ z3 ≤ 9223372036854775807 := by simpa [Lit.wf, IntKind.min, IntKind.max, IntKind.signed, IntKind.bits, Int.le_iff_lt_add_one] using w3
  subst l2
  subst l4'
  rw [cellsOf_bytes] at r2 r4
  obtain ⟨nm, rfl⟩ : ∃ nm, strL nm = s1 := ⟨s1.data.toList, by simp [strL]⟩
  have hsz : (strL nm).size = nm.length := by show nm.toArray.size = _; rw [List.size_toArray]
  refine ⟨⟨z0, nm, A, c, l, z3, A4, c4, l4, z5⟩, ?_, r2, r4, c2, by unfold maxLen at m2; show l.length ≤ _; omega, by unfold maxLen at m4; show l4.length ≤ _; omega, by unfold maxLen at hs1; show nm.length ≤ _; omega, h3.2⟩
  have q : cs = cs.drop 0 := rfl
  rw [q, seg cs 0 1 1 rfl, seg cs 1 1 2 rfl, seg cs 2 1 3 rfl, seg cs 3 1 4 rfl, seg cs 4 1 5 rfl, seg_last cs 5 1 hl, g0, g1, g2, g3, g4, g5]
  rfl
end Go.Proofs.Ytegdihpnefoolaa
/- BankPlays returns true for every number of pages and every script, and leaves all that was there as it was; no condition. -/
open Go Go.RowKit Go.WideShapes Go.ChangeShapes Go.ChangeAt
namespace Go.Proofs.Ytegdihpnefoolaa
namespace BankPlays
set_option maxRecDepth 100000 in
theorem contract (H : Type) (enc : TypeId × Value → H) (W : World) (base : Nat) (args : Array Value) (ds gs : List (DataW H)) (before : List MemPlace)
    (hval : ∀ (j : Nat) t v, Try.f5.params[j]? = some t → args[j]? = some v → Value.okWide Try.prog W .any base t v)
    (hW : DataW.Whole enc Try.prog Try.f5.params.toList Rows.bankPlaysSpec.vars false W args.toList ds gs before) :
    Calls Try.prog 5 args W fun e W' => ∃ v, e = .returned v ∧ Rows.bankPlaysSpec.post enc Try.prog Try.f5 false true false false W args v W' := by
  have hW' := hW
  obtain ⟨p, q, hA0, hV, rfl, hfz, hnd⟩ := hW
  have hA : DataW.TrodAll enc Try.prog W 0 (fun _ => true) true Try.f5.params.toList args.toList ds p := hA0
  rw [Try.params5] at hA hval
  obtain ⟨v0, vs0, d0, ds0, p0, q0, hargs, rfl, rfl, h0, r0⟩ := trodAll_cons hA
  obtain ⟨v1, vs1, d1, ds1, p1, q1, rfl, rfl, rfl, h1, r1⟩ := trodAll_cons r0
  obtain ⟨rfl, rfl, rfl⟩ := trodAll_nil r1
  obtain rfl : args = #[v0, v1] := by cases args; simp_all
  obtain ⟨x0, rfl, rfl, rfl, hwf0⟩ := open_int Try.underlying3 (hval 0 3 v0 rfl rfl) h0
  obtain ⟨A1, n1, c1, x1, rfl, hl1, hm1, hr1, hcap1, hok1, _⟩ := open_rowsP (α := BAct) Try.underlying44 (by kernel_rfl) (by decide) reads_bact (hval 1 44 v1 rfl rfl) h1
  refine ((fun (_ : HR W A1 (cellsOf x1)) => bankPlays_calls x0 hl1 hok1) ⟨hr1⟩).mono fun e W' ⟨he, hb⟩ => ⟨.bool true, he, ?_⟩
  exact post_law laidOutP (by kernel_rfl) rfl hW' rfl (b := 4) rfl Try.underlying4 hb.below'
theorem laid_met (os : Os) : laidMet Try.prog Rows.bankPlaysRow.laid ((World.holding Try.prog os ⟨#[], #[], []⟩).forCall (fun _ _ => 0) ⟨#[], #[Value.int .i64 0, Value.slice none 0 0], []⟩).memory :=
  laidMet_of_run' 8 (by kernel_rfl) (by kernel_rfl)
theorem reads (os : Os) {H : Type} (enc : TypeId × Value → H) : ∃ places, DataW.whole enc Try.prog ((World.holding Try.prog os ⟨#[], #[], []⟩).forCall (fun _ _ => 0) ⟨#[], #[Value.int .i64 0, Value.slice none 0 0], []⟩).memory Try.f5.params.toList Rows.bankPlaysSpec.vars false #[Value.int .i64 0, Value.slice none 0 0].toList 8 = some ([.lit (.int .i64 0), .nil], [], places) :=
  ⟨[], by kernel_rfl⟩
set_option maxRecDepth 100000 in
theorem lifted (os : Os) (started : os.Started) (H : Type) (enc : TypeId × Value → H) (F : Stop.Interp) :
    ReturnsInHanded {} Try.checked os 5 .any ((OpenSpec.ofChange Rows.bankPlaysSpec).preRow enc Try.prog Try.f5 Rows.bankPlaysRow.domain false Rows.bankPlaysRow.laid) (((OpenSpec.ofChange Rows.bankPlaysSpec).at F).post enc Try.prog Try.f5 false true false false) := by
  obtain ⟨places, hx⟩ := reads os enc
  refine returnsInHanded_of_row (C := Try.checked) (s := OpenSpec.ofChange Rows.bankPlaysSpec) ownK started (by kernel_rfl) Try.func5
    (witness_row_at (enc := enc) (C := Try.checked) false (World.holding Try.prog os ⟨#[], #[], []⟩) #[Value.int .i64 0, Value.slice none 0 0] rfl (by kernel_rfl) (by kernel_rfl) (by kernel_rfl)
      (OpenSpec.preRow_of_cond 8 hx (by kernel_rfl) (fun k hk => by cases hk) (by kernel_rfl) (laid_met os))) ?_
  intro W base args ds gs before hval hW _ _ _ hL _ _
  exact contract H enc W base args ds gs before hval hW
theorem said : Rows.BankPlaysSaid :=
  OpenClaim.holds_of_cond 5 Try.f5 rfl rfl rfl rfl rfl rfl rfl ⟨rfl, rfl, rfl, rfl, rfl⟩ rfl rfl rfl rfl rfl (by kernel_rfl) Try.func5 (by kernel_rfl)
    (of_decide_eq_true (by kernel_rfl)) (by unfold Func.isWrapper; first | (rw [if_pos (by decide +kernel)]; kernel_rfl) | (rw [if_neg (by decide +kernel)]; exact ⟨rfl, rfl⟩))
    (fun os started H enc _ F => by rw [OpenClaim.pre_eq_preRow]; exact lifted os started H enc F)
end BankPlays
theorem bankPlays_holds : Rows.BankPlaysSaid := BankPlays.said
end Go.Proofs.Ytegdihpnefoolaa
