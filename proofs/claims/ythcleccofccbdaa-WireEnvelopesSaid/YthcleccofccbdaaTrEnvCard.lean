/- WireEnvelopes returns true for every envelope and row of bytes, and leaves all that was there as it was; no condition. -/
import Derived.Test.YthcleccofccbdaaTrEnL
import Derived.Test.YthcleccofccbdaaTrPlain
open Go Go.RowKit Go.WideShapes Go.ChangeShapes Go.ChangeAt
namespace Go.Proofs.Ythcleccofccbdaa
namespace WireEnvelopes
set_option maxRecDepth 100000 in
theorem contract (H : Type) (enc : TypeId × Value → H) (W : World) (base : Nat) (args : Array Value) (ds gs : List (DataW H)) (before : List MemPlace)
    (hval : ∀ (j : Nat) t v, Try.f5.params[j]? = some t → args[j]? = some v → Value.okWide Try.prog W .any base t v)
    (hW : DataW.Whole enc Try.prog Try.f5.params.toList Rows.wireEnvelopesSpec.vars false W args.toList ds gs before) (hZ : (DataW.weightsEach Try.prog (Try.f5.params.toList ++ (OpenSpec.ofChange Rows.wireEnvelopesSpec).bare.plain.varTypes Try.prog) (ds ++ gs)).all (· ≤ reachBytes) = true) :
    Calls Try.prog 5 args W fun e W' => ∃ v, e = .returned v ∧ Rows.wireEnvelopesSpec.post enc Try.prog Try.f5 false true false false W args v W' := by
  have hW' := hW
  obtain ⟨p, q, hA0, hV, rfl, hfz, hnd⟩ := hW
  have hA : DataW.TrodAll enc Try.prog W 0 (fun _ => true) true Try.f5.params.toList args.toList ds p := hA0
  rw [Try.params5] at hA hval hZ
  obtain ⟨v0, vs0, d0, ds0, p0, q0, hargs, rfl, rfl, h0, r0⟩ := trodAll_cons hA
  obtain ⟨v1, vs1, d1, ds1, p1, q1, rfl, rfl, rfl, h1, r1⟩ := trodAll_cons r0
  obtain ⟨rfl, rfl, rfl⟩ := trodAll_nil r1
  obtain rfl : args = #[v0, v1] := by cases args; simp_all
  obtain ⟨A0, n0, c0, x0, B0, q0, k0, l0, rfl, hl0, hr0, hc0, hq0, hs0, hk0, hm0, hin0, hz0⟩ := open_env (hval 0 58 v0 rfl rfl) h0; replace hz0 := hz0 (fun x hx => by simpa using List.all_eq_true.1 hZ x (DataW.weights_mem_each (j := 0) rfl rfl x hx))
  obtain ⟨A1, n1, c1, x1, rfl, hl1, hm1, hr1, hcap1⟩ := open_bslC Try.underlying28 Try.underlying5 (by kernel_rfl) (hval 1 28 v1 rfl rfl) h1
  refine ((fun (_ : HR W A0 (bs x0)) (_ : HR W B0 (cellsOf l0)) (_ : HR W A1 (bs x1)) => wireEnvelopes_calls (m := x0) (L := l0) (b := x1) hin0 hl0 hq0 (by unfold maxLen at hm0; omega) (by omega) hl1 hcap1 (by unfold maxLen at hm1; omega)) hr0 hs0 ⟨hr1⟩).mono fun e W' ⟨he, hb⟩ => ⟨.bool true, he, ?_⟩
  exact post_law laidOutP (by kernel_rfl) rfl hW' rfl (b := 4) rfl Try.underlying4 hb.below'
theorem laid_met (os : Os) : laidMet Try.prog Rows.wireEnvelopesRow.laid ((World.holding Try.prog os ⟨#[], #[], []⟩).forCall (fun _ _ => 0) ⟨#[], #[Value.agg #[Value.slice none 0 0, Value.slice none 0 0], Value.slice none 0 0], []⟩).memory :=
  laidMet_of_run' 8 (by kernel_rfl) (by kernel_rfl)
theorem reads (os : Os) {H : Type} (enc : TypeId × Value → H) : ∃ places, DataW.whole enc Try.prog ((World.holding Try.prog os ⟨#[], #[], []⟩).forCall (fun _ _ => 0) ⟨#[], #[Value.agg #[Value.slice none 0 0, Value.slice none 0 0], Value.slice none 0 0], []⟩).memory Try.f5.params.toList Rows.wireEnvelopesSpec.vars false #[Value.agg #[Value.slice none 0 0, Value.slice none 0 0], Value.slice none 0 0].toList 8 = some ([.agg [.nil, .nil], .nil], [], places) :=
  ⟨[], by kernel_rfl⟩
set_option maxRecDepth 100000 in
theorem lifted (os : Os) (started : os.Started) (H : Type) (enc : TypeId × Value → H) (F : Stop.Interp) :
    ReturnsInHanded {} Try.checked os 5 .any ((OpenSpec.ofChange Rows.wireEnvelopesSpec).preRow enc Try.prog Try.f5 Rows.wireEnvelopesRow.domain false Rows.wireEnvelopesRow.laid) (((OpenSpec.ofChange Rows.wireEnvelopesSpec).at F).post enc Try.prog Try.f5 false true false false) := by
  obtain ⟨places, hx⟩ := reads os enc
  refine returnsInHanded_of_row (C := Try.checked) (s := OpenSpec.ofChange Rows.wireEnvelopesSpec) ownK started (by kernel_rfl) Try.func5
    (witness_row_at (enc := enc) (C := Try.checked) false (World.holding Try.prog os ⟨#[], #[], []⟩) #[Value.agg #[Value.slice none 0 0, Value.slice none 0 0], Value.slice none 0 0] rfl (by kernel_rfl) (by kernel_rfl) (by kernel_rfl)
      (OpenSpec.preRow_of_cond 8 hx (by kernel_rfl) (fun k hk => by cases hk) (by kernel_rfl) (laid_met os))) ?_
  intro W base args ds gs before hval hW _ _ hZ hL _ _
  exact contract H enc W base args ds gs before hval hW hZ
theorem said : Rows.WireEnvelopesSaid :=
  OpenClaim.holds_of_cond 5 Try.f5 rfl rfl rfl rfl rfl rfl rfl ⟨rfl, rfl, rfl, rfl, rfl⟩ rfl rfl rfl rfl rfl (by kernel_rfl) Try.func5 (by kernel_rfl)
    (of_decide_eq_true (by kernel_rfl)) (by unfold Func.isWrapper; first | (rw [if_pos (by decide +kernel)]; kernel_rfl) | (rw [if_neg (by decide +kernel)]; exact ⟨rfl, rfl⟩))
    (fun os started H enc _ F => by rw [OpenClaim.pre_eq_preRow]; exact lifted os started H enc F)
end WireEnvelopes
theorem wireEnvelopes_holds : Rows.WireEnvelopesSaid := WireEnvelopes.said
end Go.Proofs.Ythcleccofccbdaa
