/- WireTimes returns true for every time, report and row of bytes, and leaves all that was there as it was; no condition. -/
import Derived.Test.YtecmeejbpkcgiaaWzL
import Derived.Test.YtecmeejbpkcgiaaWyO
import Derived.Test.YtecmeejbpkcgiaaOpens
import Derived.Test.YtecmeejbpkcgiaaPlain
open Go Go.RowKit Go.WideShapes Go.ChangeShapes Go.ChangeAt
namespace Go.Proofs.Ytecmeejbpkcgiaa
namespace WireTimes
set_option maxRecDepth 100000 in
theorem contract (H : Type) (enc : TypeId × Value → H) (W : World) (base : Nat) (args : Array Value) (ds gs : List (DataW H)) (before : List MemPlace)
    (hval : ∀ (j : Nat) t v, Try.f4.params[j]? = some t → args[j]? = some v → Value.okWide Try.prog W .any base t v)
    (hW : DataW.Whole enc Try.prog Try.f4.params.toList Rows.wireTimesSpec.vars false W args.toList ds gs before) :
    Calls Try.prog 4 args W fun e W' => ∃ v, e = .returned v ∧ Rows.wireTimesSpec.post enc Try.prog Try.f4 false true false false W args v W' := by
  have hW' := hW
  obtain ⟨p, q, hA0, hV, rfl, hfz, hnd⟩ := hW
  have hA : DataW.TrodAll enc Try.prog W 0 (fun _ => true) true Try.f4.params.toList args.toList ds p := hA0
  rw [Try.params4] at hA hval
  obtain ⟨v0, vs0, d0, ds0, p0, q0, hargs, rfl, rfl, h0, r0⟩ := trodAll_cons hA
  obtain ⟨v1, vs1, d1, ds1, p1, q1, rfl, rfl, rfl, h1, r1⟩ := trodAll_cons r0
  obtain ⟨v2, vs2, d2, ds2, p2, q2, rfl, rfl, rfl, h2, r2⟩ := trodAll_cons r1
  obtain ⟨rfl, rfl, rfl⟩ := trodAll_nil r2
  obtain rfl : args = #[v0, v1, v2] := by cases args; simp_all
  obtain ⟨v0a, v0b, v0c, v0h, rfl⟩ := open_time (hval 0 45 v0 rfl rfl) h0
  obtain ⟨u1, n1, w1h, c1, k1, rfl, hu1, hn1⟩ := open_report (hval 1 47 v1 rfl rfl) h1
  obtain ⟨A2, n2, c2, x2, rfl, hl2, hm2, hr2, hcap2⟩ := open_bslC Try.underlying28 Try.underlying5 (by kernel_rfl) (hval 2 28 v2 rfl rfl) h2
  refine ((fun (_ : HR W A2 (bs x2)) => wireTimes_calls v0a v0b v0c v0h u1 n1 w1h c1 k1 (by unfold maxLen at hu1; omega) (by unfold maxLen at hn1; omega) hl2 hcap2 (by unfold maxLen at hm2; omega)) ⟨hr2⟩).mono fun e W' ⟨he, hb⟩ => ⟨.bool true, he, ?_⟩
  exact post_law laidOutP (by kernel_rfl) rfl hW' rfl (b := 4) rfl Try.underlying4 hb.below'
theorem laid_met (os : Os) : laidMet Try.prog Rows.wireTimesRow.laid ((World.holding Try.prog os ⟨#[], #[], []⟩).forCall (fun _ _ => 0) ⟨#[], #[Value.agg (timL 0 0 0 zeroH).toArray, Value.agg (repL ⟨#[]⟩ ⟨#[]⟩ zeroH 0 0).toArray, Value.slice none 0 0], []⟩).memory :=
  laidMet_of_run' 8 (by kernel_rfl) (by kernel_rfl)
theorem reads (os : Os) {H : Type} (enc : TypeId × Value → H) : ∃ places, DataW.whole enc Try.prog ((World.holding Try.prog os ⟨#[], #[], []⟩).forCall (fun _ _ => 0) ⟨#[], #[Value.agg (timL 0 0 0 zeroH).toArray, Value.agg (repL ⟨#[]⟩ ⟨#[]⟩ zeroH 0 0).toArray, Value.slice none 0 0], []⟩).memory Try.f4.params.toList Rows.wireTimesSpec.vars false #[Value.agg (timL 0 0 0 zeroH).toArray, Value.agg (repL ⟨#[]⟩ ⟨#[]⟩ zeroH 0 0).toArray, Value.slice none 0 0].toList 8 = some ([.agg [.lit (.int .i64 0), .lit (.int .i64 0), .lit (.int .i64 0), .agg (List.replicate 32 (.lit (.int .u8 0)))], .agg [.lit (.string []), .lit (.string []), .agg (List.replicate 32 (.lit (.int .u8 0))), .lit (.int .i64 0), .lit (.int .i64 0)], .nil], [], places) :=
  ⟨[], by kernel_rfl⟩
set_option maxRecDepth 100000 in
theorem lifted (os : Os) (started : os.Started) (H : Type) (enc : TypeId × Value → H) (F : Stop.Interp) :
    ReturnsInHanded {} Try.checked os 4 .any ((OpenSpec.ofChange Rows.wireTimesSpec).preRow enc Try.prog Try.f4 Rows.wireTimesRow.domain false Rows.wireTimesRow.laid) (((OpenSpec.ofChange Rows.wireTimesSpec).at F).post enc Try.prog Try.f4 false true false false) := by
  obtain ⟨places, hx⟩ := reads os enc
  refine returnsInHanded_of_row (C := Try.checked) (s := OpenSpec.ofChange Rows.wireTimesSpec) ownK started (by kernel_rfl) Try.func4
    (witness_row_at (enc := enc) (C := Try.checked) false (World.holding Try.prog os ⟨#[], #[], []⟩) #[Value.agg (timL 0 0 0 zeroH).toArray, Value.agg (repL ⟨#[]⟩ ⟨#[]⟩ zeroH 0 0).toArray, Value.slice none 0 0] rfl (by kernel_rfl) (by kernel_rfl) (by kernel_rfl)
      (OpenSpec.preRow_of_cond 8 hx (by kernel_rfl) (fun k hk => by cases hk) (by kernel_rfl) (laid_met os))) ?_
  intro W base args ds gs before hval hW _ _ _ hL _ _
  exact contract H enc W base args ds gs before hval hW
theorem said : Rows.WireTimesSaid :=
  OpenClaim.holds_of_cond 4 Try.f4 rfl rfl rfl rfl rfl rfl rfl ⟨rfl, rfl, rfl, rfl, rfl⟩ rfl rfl rfl rfl rfl (by kernel_rfl) Try.func4 (by kernel_rfl)
    (of_decide_eq_true (by kernel_rfl)) (by unfold Func.isWrapper; first | (rw [if_pos (by decide +kernel)]; kernel_rfl) | (rw [if_neg (by decide +kernel)]; exact ⟨rfl, rfl⟩))
    (fun os started H enc _ F => by rw [OpenClaim.pre_eq_preRow]; exact lifted os started H enc F)
end WireTimes
theorem wireTimes_holds : Rows.WireTimesSaid := WireTimes.said
end Go.Proofs.Ytecmeejbpkcgiaa
