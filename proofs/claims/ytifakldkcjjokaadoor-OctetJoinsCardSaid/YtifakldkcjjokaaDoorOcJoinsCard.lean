/- OctetJoins returns true for all rows, and leaves all that was there as it was; the check sum's table lies in its variable, as the program's text lays it. -/
import Derived.Test.YtifakldkcjjokaaDoorOcJoins
import Derived.Test.YtifakldkcjjokaaDoorOcTab
import Derived.Test.YtifakldkcjjokaaDoorOpen
open Go Go.RowKit Go.WideShapes Go.ChangeShapes Go.ChangeAt
namespace Go.Proofs.YtifakldkcjjokaaDoor
namespace OctetJoins
set_option maxRecDepth 100000 in
theorem contract (H : Type) (enc : TypeId × Value → H) (W : World) (base : Nat) (args : Array Value) (ds gs : List (DataW H)) (before : List MemPlace)
    (hval : ∀ (j : Nat) t v, Tryd.f10.params[j]? = some t → args[j]? = some v → Value.okWide Tryd.prog W .any base t v)
    (hW : DataW.Whole enc Tryd.prog Tryd.f10.params.toList Rows.octetJoinsSpec.vars false W args.toList ds gs before) (hL : laidMetH Tryd.prog Rows.octetJoinsRow.laid W) :
    Calls Tryd.prog 10 args W fun e W' => ∃ v, e = .returned v ∧ Rows.octetJoinsSpec.post enc Tryd.prog Tryd.f10 false true false false W args v W' := by
  have hW' := hW
  obtain ⟨p, q, hA0, hV, rfl, hfz, hnd⟩ := hW
  have hA : DataW.TrodAll enc Tryd.prog W 0 (fun _ => true) true Tryd.f10.params.toList args.toList ds p := hA0
  rw [Tryd.params10] at hA hval
  obtain ⟨v0, vs0, d0, ds0, p0, q0, hargs, rfl, rfl, h0, r0⟩ := trodAll_cons hA
  obtain ⟨v1, vs1, d1, ds1, p1, q1, rfl, rfl, rfl, h1, r1⟩ := trodAll_cons r0
  obtain ⟨rfl, rfl, rfl⟩ := trodAll_nil r1
  obtain rfl : args = #[v0, v1] := by cases args; simp_all
  obtain ⟨A0, n0, c0, x0, rfl, hl0, hm0, hr0, hrow0, hrl0, hcap0⟩ := open_browsC Tryd.underlying36 Tryd.underlying23 Tryd.underlying5 (by kernel_rfl) (by kernel_rfl) (hval 0 36 v0 rfl rfl) h0
  obtain ⟨A1, n1, c1, x1, rfl, hl1, hm1, hr1, hrow1, hrl1, hcap1⟩ := open_browsC Tryd.underlying36 Tryd.underlying23 Tryd.underlying5 (by kernel_rfl) (by kernel_rfl) (hval 1 36 v1 rfl rfl) h1
  refine (octetJoins_calls A0 A1 n0 c0 n1 c1 x0 x1 W (table hL) hr0 hl0 hcap0 (by unfold maxLen at hm0; omega) hrow0 (fun r hr => by have := hrl0 r hr; unfold maxLen at this; omega) hr1 hl1 hcap1 (by unfold maxLen at hm1; omega) hrow1 (fun r hr => by have := hrl1 r hr; unfold maxLen at this; omega)).mono fun e W' ⟨he, hb⟩ => ⟨.bool true, he, ?_⟩
  exact post_law laidOutP (by kernel_rfl) rfl hW' rfl (b := 4) rfl Tryd.underlying4 hb.below'
theorem laid_met (os : Os) : laidMet Tryd.prog Rows.octetJoinsRow.laid ((laidWorld os).forCall (fun _ _ => 0) ⟨#[], #[Value.slice none 0 0, Value.slice none 0 0], []⟩).memory :=
  laidMet_of_run' 8 (by kernel_rfl) (by kernel_rfl)
theorem reads (os : Os) {H : Type} (enc : TypeId × Value → H) : ∃ places, DataW.whole enc Tryd.prog ((laidWorld os).forCall (fun _ _ => 0) ⟨#[], #[Value.slice none 0 0, Value.slice none 0 0], []⟩).memory Tryd.f10.params.toList Rows.octetJoinsSpec.vars false #[Value.slice none 0 0, Value.slice none 0 0].toList 8 = some ([.nil, .nil], [], places) :=
  ⟨[], by kernel_rfl⟩
set_option maxRecDepth 100000 in
theorem lifted (os : Os) (started : os.Started) (H : Type) (enc : TypeId × Value → H) (F : Stop.Interp) :
    ReturnsInHanded {} Tryd.checked os 10 .any ((OpenSpec.ofChange Rows.octetJoinsSpec).preRow enc Tryd.prog Tryd.f10 Rows.octetJoinsRow.domain false Rows.octetJoinsRow.laid) (((OpenSpec.ofChange Rows.octetJoinsSpec).at F).post enc Tryd.prog Tryd.f10 false true false false) := by
  obtain ⟨places, hx⟩ := reads os enc
  refine returnsInHanded_of_row (C := Tryd.checked) (s := OpenSpec.ofChange Rows.octetJoinsSpec) ownK started (by kernel_rfl) Tryd.func10
    (witness_row_at (enc := enc) (C := Tryd.checked) false (laidWorld os) #[Value.slice none 0 0, Value.slice none 0 0] rfl (by kernel_rfl) (by kernel_rfl) (by kernel_rfl)
      (OpenSpec.preRow_of_cond 8 hx (by kernel_rfl) (fun k hk => by cases hk) (by kernel_rfl) (laid_met os))) ?_
  intro W base args ds gs before hval hW _ _ _ hL _ _
  exact contract H enc W base args ds gs before hval hW hL
theorem said : Rows.OctetJoinsSaid :=
  OpenClaim.holds_of_cond 10 Tryd.f10 rfl rfl rfl rfl rfl rfl rfl ⟨rfl, rfl, rfl, rfl, rfl⟩ rfl rfl rfl rfl rfl (by kernel_rfl) Tryd.func10 (by kernel_rfl)
    (of_decide_eq_true (by kernel_rfl)) (by unfold Func.isWrapper; first | (rw [if_pos (by decide +kernel)]; kernel_rfl) | (rw [if_neg (by decide +kernel)]; exact ⟨rfl, rfl⟩))
    (fun os started H enc _ F => by rw [OpenClaim.pre_eq_preRow]; exact lifted os started H enc F)
theorem plain (f : FuncId) (fn : Func) (hf : Tryd.pinned.checked.prog.funcNamed "ostler/ostlerlaw1.OctetJoins" = some f) (hfn : Tryd.pinned.checked.prog.funcs[f]? = some fn) :
    false = Tryd.pinned.checked.prog.looks [] ∧ ∀ (j : Nat) t, fn.params[j]? = some t → Tryd.pinned.checked.prog.wantsStandIn t = false := by
  obtain rfl : f = 10 := Option.some.inj ((show Tryd.prog.funcNamed "ostler/ostlerlaw1.OctetJoins" = some 10 by kernel_rfl).symm.trans hf) |>.symm
  obtain rfl : fn = Tryd.f10 := (Option.some.inj (Tryd.func10.symm.trans hfn)).symm
  refine ⟨by kernel_rfl, fun j t ht => ?_⟩
  rw [Tryd.params10] at ht
  have h1 : ∀ t ∈ [36, 36], Tryd.prog.wantsStandIn t = false := by decide +kernel
  exact h1 t (by simpa using Array.mem_of_getElem? ht)
end OctetJoins
theorem octetJoins_card : Rows.OctetJoinsCardSaid :=
  Claim7.holds_tied_plain_at .later [] _ _ _ _ OctetJoins.said (fun _ h => by cases h) (by kernel_rfl) (fun _ h => by cases h) octetJoins_row_tie rfl ⟨rfl, rfl⟩ (by kernel_rfl) rfl OctetJoins.plain (by kernel_rfl)
end Go.Proofs.YtifakldkcjjokaaDoor
