/- WireTurned returns true for every time, report, place and byte, and leaves all that was there as it was; no condition. -/
import Derived.Test.YtecmeejbpkcgiaaWyL
import Derived.Test.YtecmeejbpkcgiaaWyO
import Derived.Test.YtecmeejbpkcgiaaOpens
import Derived.Test.YtecmeejbpkcgiaaPlain
open Go Go.RowKit Go.WideShapes Go.ChangeShapes Go.ChangeAt
namespace Go.Proofs.Ytecmeejbpkcgiaa
namespace WireTurned
set_option maxRecDepth 100000 in
theorem contract (H : Type) (enc : TypeId × Value → H) (W : World) (base : Nat) (args : Array Value) (ds gs : List (DataW H)) (before : List MemPlace)
    (hval : ∀ (j : Nat) t v, Try.f11.params[j]? = some t → args[j]? = some v → Value.okWide Try.prog W .any base t v)
    (hW : DataW.Whole enc Try.prog Try.f11.params.toList Rows.wireTurnedSpec.vars false W args.toList ds gs before) :
    Calls Try.prog 11 args W fun e W' => ∃ v, e = .returned v ∧ Rows.wireTurnedSpec.post enc Try.prog Try.f11 false true false false W args v W' := by
  have hW' := hW
  obtain ⟨p, q, hA0, hV, rfl, hfz, hnd⟩ := hW
  have hA : DataW.TrodAll enc Try.prog W 0 (fun _ => true) true Try.f11.params.toList args.toList ds p := hA0
  rw [Try.params11] at hA hval
  obtain ⟨v0, vs0, d0, ds0, p0, q0, hargs, rfl, rfl, h0, r0⟩ := trodAll_cons hA
  obtain ⟨v1, vs1, d1, ds1, p1, q1, rfl, rfl, rfl, h1, r1⟩ := trodAll_cons r0
  obtain ⟨v2, vs2, d2, ds2, p2, q2, rfl, rfl, rfl, h2, r2⟩ := trodAll_cons r1
  obtain ⟨v3, vs3, d3, ds3, p3, q3, rfl, rfl, rfl, h3, r3⟩ := trodAll_cons r2
  obtain ⟨rfl, rfl, rfl⟩ := trodAll_nil r3
  obtain rfl : args = #[v0, v1, v2, v3] := by cases args; simp_all
  obtain ⟨v0a, v0b, v0c, v0h, rfl⟩ := open_time (hval 0 45 v0 rfl rfl) h0
  obtain ⟨u1, n1, w1h, c1, k1, rfl, hu1, hn1⟩ := open_report (hval 1 47 v1 rfl rfl) h1
  obtain ⟨x2, rfl, rfl, rfl, hwf2⟩ := open_int Try.underlying3 (hval 2 3 v2 rfl rfl) h2
  obtain ⟨z3, rfl, rfl, rfl, hwf3⟩ := open_int Try.underlying5 (hval 3 5 v3 rfl rfl) h3; obtain ⟨x3, rfl⟩ := u8_of hwf3
  refine (wireTurned_calls v0a v0b v0c v0h u1 n1 w1h c1 k1 x2 x3 (by unfold maxLen at hu1; omega) (by unfold maxLen at hn1; omega) W).mono fun e W' ⟨he, hb⟩ => ⟨.bool true, he, ?_⟩
  exact post_law laidOutP (by kernel_rfl) rfl hW' rfl (b := 4) rfl Try.underlying4 hb.below'
theorem laid_met (os : Os) : laidMet Try.prog Rows.wireTurnedRow.laid ((World.holding Try.prog os ⟨#[], #[], []⟩).forCall (fun _ _ => 0) ⟨#[], #[Value.agg (timL 0 0 0 zeroH).toArray, Value.agg (repL ⟨#[]⟩ ⟨#[]⟩ zeroH 0 0).toArray, Value.int .i64 0, Value.int .u8 0], []⟩).memory :=
  laidMet_of_run' 8 (by kernel_rfl) (by kernel_rfl)
theorem reads (os : Os) {H : Type} (enc : TypeId × Value → H) : ∃ places, DataW.whole enc Try.prog ((World.holding Try.prog os ⟨#[], #[], []⟩).forCall (fun _ _ => 0) ⟨#[], #[Value.agg (timL 0 0 0 zeroH).toArray, Value.agg (repL ⟨#[]⟩ ⟨#[]⟩ zeroH 0 0).toArray, Value.int .i64 0, Value.int .u8 0], []⟩).memory Try.f11.params.toList Rows.wireTurnedSpec.vars false #[Value.agg (timL 0 0 0 zeroH).toArray, Value.agg (repL ⟨#[]⟩ ⟨#[]⟩ zeroH 0 0).toArray, Value.int .i64 0, Value.int .u8 0].toList 8 = some ([.agg [.lit (.int .i64 0), .lit (.int .i64 0), .lit (.int .i64 0), .agg (List.replicate 32 (.lit (.int .u8 0)))], .agg [.lit (.string []), .lit (.string []), .agg (List.replicate 32 (.lit (.int .u8 0))), .lit (.int .i64 0), .lit (.int .i64 0)], .lit (.int .i64 0), .lit (.int .u8 0)], [], places) :=
  ⟨[], by kernel_rfl⟩
set_option maxRecDepth 100000 in
theorem lifted (os : Os) (started : os.Started) (H : Type) (enc : TypeId × Value → H) (F : Stop.Interp) :
    ReturnsInHanded {} Try.checked os 11 .any ((OpenSpec.ofChange Rows.wireTurnedSpec).preRow enc Try.prog Try.f11 Rows.wireTurnedRow.domain false Rows.wireTurnedRow.laid) (((OpenSpec.ofChange Rows.wireTurnedSpec).at F).post enc Try.prog Try.f11 false true false false) := by
  obtain ⟨places, hx⟩ := reads os enc
  refine returnsInHanded_of_row (C := Try.checked) (s := OpenSpec.ofChange Rows.wireTurnedSpec) ownK started (by kernel_rfl) Try.func11
    (witness_row_at (enc := enc) (C := Try.checked) false (World.holding Try.prog os ⟨#[], #[], []⟩) #[Value.agg (timL 0 0 0 zeroH).toArray, Value.agg (repL ⟨#[]⟩ ⟨#[]⟩ zeroH 0 0).toArray, Value.int .i64 0, Value.int .u8 0] rfl (by kernel_rfl) (by kernel_rfl) (by kernel_rfl)
      (OpenSpec.preRow_of_cond 8 hx (by kernel_rfl) (fun k hk => by cases hk) (by kernel_rfl) (laid_met os))) ?_
  intro W base args ds gs before hval hW _ _ _ hL _ _
  exact contract H enc W base args ds gs before hval hW
theorem said : Rows.WireTurnedSaid :=
  OpenClaim.holds_of_cond 11 Try.f11 rfl rfl rfl rfl rfl rfl rfl ⟨rfl, rfl, rfl, rfl, rfl⟩ rfl rfl rfl rfl rfl (by kernel_rfl) Try.func11 (by kernel_rfl)
    (of_decide_eq_true (by kernel_rfl)) (by unfold Func.isWrapper; first | (rw [if_pos (by decide +kernel)]; kernel_rfl) | (rw [if_neg (by decide +kernel)]; exact ⟨rfl, rfl⟩))
    (fun os started H enc _ F => by rw [OpenClaim.pre_eq_preRow]; exact lifted os started H enc F)
end WireTurned
theorem wireTurned_holds : Rows.WireTurnedSaid := WireTurned.said
end Go.Proofs.Ytecmeejbpkcgiaa
