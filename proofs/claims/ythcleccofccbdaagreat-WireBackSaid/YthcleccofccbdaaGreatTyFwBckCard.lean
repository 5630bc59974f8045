/- WireBack returns true for every root, time, snapshot, Targets and report, and leaves all that was there as it was; no condition. -/
import Derived.Test.YthcleccofccbdaaGreatTyFwS
import Derived.Test.YthcleccofccbdaaGreatTyPlain
open Go Go.RowKit Go.WideShapes Go.ChangeShapes Go.ChangeAt
namespace Go.Proofs.YthcleccofccbdaaGreat
namespace WireBack
set_option maxRecDepth 100000 in
theorem contract (H : Type) (enc : TypeId × Value → H) (W : World) (base : Nat) (args : Array Value) (ds gs : List (DataW H)) (before : List MemPlace)
    (hval : ∀ (j : Nat) t v, Tryz.f4.params[j]? = some t → args[j]? = some v → Value.okWide Tryz.prog W .any base t v)
    (hW : DataW.Whole enc Tryz.prog Tryz.f4.params.toList Rows.wireBackSpec.vars false W args.toList ds gs before) (hZ : (DataW.weightsEach Tryz.prog (Tryz.f4.params.toList ++ (OpenSpec.ofChange Rows.wireBackSpec).bare.plain.varTypes Tryz.prog) (ds ++ gs)).all (· ≤ reachBytes) = true) :
    Calls Tryz.prog 4 args W fun e W' => ∃ v, e = .returned v ∧ Rows.wireBackSpec.post enc Tryz.prog Tryz.f4 false true false false W args v W' := by
  have hW' := hW
  obtain ⟨p, q, hA0, hV, rfl, hfz, hnd⟩ := hW
  have hA : DataW.TrodAll enc Tryz.prog W 0 (fun _ => true) true Tryz.f4.params.toList args.toList ds p := hA0
  rw [Tryz.params4] at hA hval hZ
  obtain ⟨v0, vs0, d0, ds0, p0, q0, hargs, rfl, rfl, h0, r0⟩ := trodAll_cons hA
  obtain ⟨v1, vs1, d1, ds1, p1, q1, rfl, rfl, rfl, h1, r1⟩ := trodAll_cons r0
  obtain ⟨v2, vs2, d2, ds2, p2, q2, rfl, rfl, rfl, h2, r2⟩ := trodAll_cons r1
  obtain ⟨v3, vs3, d3, ds3, p3, q3, rfl, rfl, rfl, h3, r3⟩ := trodAll_cons r2
  obtain ⟨v4, vs4, d4, ds4, p4, q4, rfl, rfl, rfl, h4, r4⟩ := trodAll_cons r3
  obtain ⟨rfl, rfl, rfl⟩ := trodAll_nil r4
  obtain rfl : args = #[v0, v1, v2, v3, v4] := by cases args; simp_all
  obtain ⟨v0, e0, K0, rfl, hL0, hK0, hz0⟩ := open_root (hval 0 45 v0 rfl rfl) h0; replace hz0 := hz0 (fun x hx => by simpa using List.all_eq_true.1 hZ x (DataW.weights_mem_each (j := 0) rfl rfl x hx))
  obtain ⟨v1a, v1b, v1c, v1h, rfl⟩ := open_time (hval 1 49 v1 rfl rfl) h1
  obtain ⟨v2, e2, A2, n2, c2, P2, rfl, hl2, hm2, hr2, hcap2, hp2⟩ := open_snap (hval 2 52 v2 rfl rfl) h2
  obtain ⟨nm3, v3, e3, A3, C3, n3, c3, m3, q3, P3, D3, rfl, hnm3, ⟨hl3, hm3, hr3, hcap3, hp3⟩, ⟨hk3, hj3, hs3, hcaq3, hd3⟩, hz3⟩ := open_targets (hval 3 25 v3 rfl rfl) h3; replace hz3 := hz3 (fun x hx => by simpa using List.all_eq_true.1 hZ x (DataW.weights_mem_each (j := 3) rfl rfl x hx))
  obtain ⟨u4, n4, w4h, c4, k4, rfl, hu4, hn4⟩ := open_report (hval 4 54 v4 rfl rfl) h4
  refine ((fun (_ : HR W A2 (cellsOf P2)) (_ : HR W A3 (cellsOf P3)) (_ : HR W C3 (cellsOf D3)) => wireBack_calls v0 e0 K0 v1a v1b v1c v1h v2 e2 nm3 v3 e3 u4 n4 w4h c4 k4 hL0 hK0 hz0 hl2 (by unfold maxLen at hm2; omega) (fun p hp => by have := hp2 p hp; unfold maxLen at this; omega) hl3 hk3 hz3.1 hz3.2.1 (by unfold maxLen at hnm3; omega) (fun t ht => by have := hp3 t ht; unfold TgLens maxLen at this; omega) (fun k hk => ⟨⟨(hd3 k hk).2.2.rd, (hd3 k hk).2.2.len, (hd3 k hk).2.2.cap, hz3.2.2 k hk⟩, by have := (hd3 k hk).1; unfold maxLen at this; omega, by have := (hd3 k hk).2.1; unfold maxLen at this; omega⟩) (by unfold maxLen at hu4; omega) (by unfold maxLen at hn4; omega)) hr2 ⟨hr3⟩ ⟨hs3⟩).mono fun e W' ⟨he, hb⟩ => ⟨.bool true, he, ?_⟩
  exact post_law laidOutP (by kernel_rfl) rfl hW' rfl (b := 4) rfl Tryz.underlying4 hb.below'
theorem laid_met (os : Os) : laidMet Tryz.prog Rows.wireBackRow.laid ((World.holding Tryz.prog os ⟨#[], #[], []⟩).forCall (fun _ _ => 0) ⟨#[], #[Value.agg (rtL 0 0 noK).toArray, Value.agg (timL 0 0 0 zeroH).toArray, Value.agg #[Value.int .i64 0, Value.int .i64 0, Value.slice none 0 0], Value.agg #[Value.string ⟨#[]⟩, Value.int .i64 0, Value.int .i64 0, Value.slice none 0 0, Value.slice none 0 0], Value.agg (repL ⟨#[]⟩ ⟨#[]⟩ zeroH 0 0).toArray], []⟩).memory :=
  laidMet_of_run' 8 (by kernel_rfl) (by kernel_rfl)
theorem reads (os : Os) {H : Type} (enc : TypeId × Value → H) : ∃ places, DataW.whole enc Tryz.prog ((World.holding Tryz.prog os ⟨#[], #[], []⟩).forCall (fun _ _ => 0) ⟨#[], #[Value.agg (rtL 0 0 noK).toArray, Value.agg (timL 0 0 0 zeroH).toArray, Value.agg #[Value.int .i64 0, Value.int .i64 0, Value.slice none 0 0], Value.agg #[Value.string ⟨#[]⟩, Value.int .i64 0, Value.int .i64 0, Value.slice none 0 0, Value.slice none 0 0], Value.agg (repL ⟨#[]⟩ ⟨#[]⟩ zeroH 0 0).toArray], []⟩).memory Tryz.f4.params.toList Rows.wireBackSpec.vars false #[Value.agg (rtL 0 0 noK).toArray, Value.agg (timL 0 0 0 zeroH).toArray, Value.agg #[Value.int .i64 0, Value.int .i64 0, Value.slice none 0 0], Value.agg #[Value.string ⟨#[]⟩, Value.int .i64 0, Value.int .i64 0, Value.slice none 0 0, Value.slice none 0 0], Value.agg (repL ⟨#[]⟩ ⟨#[]⟩ zeroH 0 0).toArray].toList 8 = some ([.agg [.lit (.int .i64 0), .lit (.int .i64 0), .agg (List.replicate 4 (.agg [.nil, .lit (.int .i64 0)]))], .agg [.lit (.int .i64 0), .lit (.int .i64 0), .lit (.int .i64 0), .agg (List.replicate 32 (.lit (.int .u8 0)))], .agg [.lit (.int .i64 0), .lit (.int .i64 0), .nil], .agg [.lit (.string []), .lit (.int .i64 0), .lit (.int .i64 0), .nil, .nil], .agg [.lit (.string []), .lit (.string []), .agg (List.replicate 32 (.lit (.int .u8 0))), .lit (.int .i64 0), .lit (.int .i64 0)]], [], places) :=
  ⟨[], by kernel_rfl⟩
set_option maxRecDepth 100000 in
theorem lifted (os : Os) (started : os.Started) (H : Type) (enc : TypeId × Value → H) (F : Stop.Interp) :
    ReturnsInHanded {} Tryz.checked os 4 .any ((OpenSpec.ofChange Rows.wireBackSpec).preRow enc Tryz.prog Tryz.f4 Rows.wireBackRow.domain false Rows.wireBackRow.laid) (((OpenSpec.ofChange Rows.wireBackSpec).at F).post enc Tryz.prog Tryz.f4 false true false false) := by
  obtain ⟨places, hx⟩ := reads os enc
  refine returnsInHanded_of_row (C := Tryz.checked) (s := OpenSpec.ofChange Rows.wireBackSpec) ownK started (by kernel_rfl) Tryz.func4
    (witness_row_at (enc := enc) (C := Tryz.checked) false (World.holding Tryz.prog os ⟨#[], #[], []⟩) #[Value.agg (rtL 0 0 noK).toArray, Value.agg (timL 0 0 0 zeroH).toArray, Value.agg #[Value.int .i64 0, Value.int .i64 0, Value.slice none 0 0], Value.agg #[Value.string ⟨#[]⟩, Value.int .i64 0, Value.int .i64 0, Value.slice none 0 0, Value.slice none 0 0], Value.agg (repL ⟨#[]⟩ ⟨#[]⟩ zeroH 0 0).toArray] rfl (by kernel_rfl) (by kernel_rfl) (by kernel_rfl)
      (OpenSpec.preRow_of_cond 8 hx (by kernel_rfl) (fun k hk => by cases hk) (by kernel_rfl) (laid_met os))) ?_
  intro W base args ds gs before hval hW _ _ hZ hL _ _
  exact contract H enc W base args ds gs before hval hW hZ
theorem said : Rows.WireBackSaid :=
  OpenClaim.holds_of_cond 4 Tryz.f4 rfl rfl rfl rfl rfl rfl rfl ⟨rfl, rfl, rfl, rfl, rfl⟩ rfl rfl rfl rfl rfl (by kernel_rfl) Tryz.func4 (by kernel_rfl)
    (of_decide_eq_true (by kernel_rfl)) (by unfold Func.isWrapper; first | (rw [if_pos (by decide +kernel)]; kernel_rfl) | (rw [if_neg (by decide +kernel)]; exact ⟨rfl, rfl⟩))
    (fun os started H enc _ F => by rw [OpenClaim.pre_eq_preRow]; exact lifted os started H enc F)
end WireBack
theorem wireBack_holds : Rows.WireBackSaid := WireBack.said
end Go.Proofs.YthcleccofccbdaaGreat
