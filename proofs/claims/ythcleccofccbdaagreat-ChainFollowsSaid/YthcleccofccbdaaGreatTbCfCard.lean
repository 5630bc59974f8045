/- ChainFollows returns true for every root and row of envelopes, and leaves all that was there as it was; no condition. -/
import Derived.Test.YthcleccofccbdaaGreatTbCfC
import Derived.Test.YthcleccofccbdaaGreatTbPlain
open Go Go.RowKit Go.WideShapes Go.ChangeShapes Go.ChangeAt
namespace Go.Proofs.YthcleccofccbdaaGreat
namespace ChainFollows
set_option maxRecDepth 100000 in
theorem contract (H : Type) (enc : TypeId × Value → H) (W : World) (base : Nat) (args : Array Value) (ds gs : List (DataW H)) (before : List MemPlace)
    (hval : ∀ (j : Nat) t v, Tryz.f5.params[j]? = some t → args[j]? = some v → Value.okWide Tryz.prog W .any base t v)
    (hW : DataW.Whole enc Tryz.prog Tryz.f5.params.toList Rows.chainFollowsSpec.vars false W args.toList ds gs before) (hZ : (DataW.weightsEach Tryz.prog (Tryz.f5.params.toList ++ (OpenSpec.ofChange Rows.chainFollowsSpec).bare.plain.varTypes Tryz.prog) (ds ++ gs)).all (· ≤ reachBytes) = true) :
    Calls Tryz.prog 5 args W fun e W' => ∃ v, e = .returned v ∧ Rows.chainFollowsSpec.post enc Tryz.prog Tryz.f5 false true false false W args v W' := by
  have hW' := hW
  obtain ⟨p, q, hA0, hV, rfl, hfz, hnd⟩ := hW
  have hA : DataW.TrodAll enc Tryz.prog W 0 (fun _ => true) true Tryz.f5.params.toList args.toList ds p := hA0
  rw [Tryz.params5] at hA hval hZ
  obtain ⟨v0, vs0, d0, ds0, p0, q0, hargs, rfl, rfl, h0, r0⟩ := trodAll_cons hA
  obtain ⟨v1, vs1, d1, ds1, p1, q1, rfl, rfl, rfl, h1, r1⟩ := trodAll_cons r0
  obtain ⟨rfl, rfl, rfl⟩ := trodAll_nil r1
  obtain rfl : args = #[v0, v1] := by cases args; simp_all
  obtain ⟨v0, e0, K0, rfl, hL0, hK0, hz0⟩ := open_root (hval 0 45 v0 rfl rfl) h0; replace hz0 := hz0 (fun x hx => by simpa using List.all_eq_true.1 hZ x (DataW.weights_mem_each (j := 0) rfl rfl x hx))
  obtain ⟨A1, n1, c1, L1, rfl, hl1, hm1, hr1, hc1, hin1, hz1⟩ := open_envs (hval 1 75 v1 rfl rfl) h1; replace hz1 := hz1 (fun x hx => by simpa using List.all_eq_true.1 hZ x (DataW.weights_mem_each (j := 1) rfl rfl x hx))
  refine ((fun (_ : HR W A1 (cellsOf L1)) => chainFollows_calls v0 e0 K0 hL0 hK0 hz0 (fun r hr => (hin1 r hr).env (hz1 r hr)) hl1 (by unfold maxLen at hm1; omega)) ⟨hr1⟩).mono fun e W' ⟨he, hb⟩ => ⟨.bool true, he, ?_⟩
  exact post_law laidOutP (by kernel_rfl) rfl hW' rfl (b := 4) rfl Tryz.underlying4 hb.below'
theorem laid_met (os : Os) : laidMet Tryz.prog Rows.chainFollowsRow.laid ((World.holding Tryz.prog os ⟨#[], #[], []⟩).forCall (fun _ _ => 0) ⟨#[], #[Value.agg (rtL 0 0 noK).toArray, Value.slice none 0 0], []⟩).memory :=
  laidMet_of_run' 8 (by kernel_rfl) (by kernel_rfl)
theorem reads (os : Os) {H : Type} (enc : TypeId × Value → H) : ∃ places, DataW.whole enc Tryz.prog ((World.holding Tryz.prog os ⟨#[], #[], []⟩).forCall (fun _ _ => 0) ⟨#[], #[Value.agg (rtL 0 0 noK).toArray, Value.slice none 0 0], []⟩).memory Tryz.f5.params.toList Rows.chainFollowsSpec.vars false #[Value.agg (rtL 0 0 noK).toArray, Value.slice none 0 0].toList 8 = some ([.agg [.lit (.int .i64 0), .lit (.int .i64 0), .agg (List.replicate 4 (.agg [.nil, .lit (.int .i64 0)]))], .nil], [], places) :=
  ⟨[], by kernel_rfl⟩
set_option maxRecDepth 100000 in
theorem lifted (os : Os) (started : os.Started) (H : Type) (enc : TypeId × Value → H) (F : Stop.Interp) :
    ReturnsInHanded {} Tryz.checked os 5 .any ((OpenSpec.ofChange Rows.chainFollowsSpec).preRow enc Tryz.prog Tryz.f5 Rows.chainFollowsRow.domain false Rows.chainFollowsRow.laid) (((OpenSpec.ofChange Rows.chainFollowsSpec).at F).post enc Tryz.prog Tryz.f5 false true false false) := by
  obtain ⟨places, hx⟩ := reads os enc
  refine returnsInHanded_of_row (C := Tryz.checked) (s := OpenSpec.ofChange Rows.chainFollowsSpec) ownK started (by kernel_rfl) Tryz.func5
    (witness_row_at (enc := enc) (C := Tryz.checked) false (World.holding Tryz.prog os ⟨#[], #[], []⟩) #[Value.agg (rtL 0 0 noK).toArray, Value.slice none 0 0] rfl (by kernel_rfl) (by kernel_rfl) (by kernel_rfl)
      (OpenSpec.preRow_of_cond 8 hx (by kernel_rfl) (fun k hk => by cases hk) (by kernel_rfl) (laid_met os))) ?_
  intro W base args ds gs before hval hW _ _ hZ hL _ _
  exact contract H enc W base args ds gs before hval hW hZ
theorem said : Rows.ChainFollowsSaid :=
  OpenClaim.holds_of_cond 5 Tryz.f5 rfl rfl rfl rfl rfl rfl rfl ⟨rfl, rfl, rfl, rfl, rfl⟩ rfl rfl rfl rfl rfl (by kernel_rfl) Tryz.func5 (by kernel_rfl)
    (of_decide_eq_true (by kernel_rfl)) (by unfold Func.isWrapper; first | (rw [if_pos (by decide +kernel)]; kernel_rfl) | (rw [if_neg (by decide +kernel)]; exact ⟨rfl, rfl⟩))
    (fun os started H enc _ F => by rw [OpenClaim.pre_eq_preRow]; exact lifted os started H enc F)
end ChainFollows
theorem chainFollows_holds : Rows.ChainFollowsSaid := ChainFollows.said
end Go.Proofs.YthcleccofccbdaaGreat
