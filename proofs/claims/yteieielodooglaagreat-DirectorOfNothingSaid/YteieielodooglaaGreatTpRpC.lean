/- RpC -/
import Derived.Test.YteieielodooglaaGreatTpRpB
import Derived.Test.YteieielodooglaaGreatTpTgL
import Derived.Test.YteieielodooglaaGreatTpRpK
open Go Go.RowKit
namespace Go.Proofs.YteieielodooglaaGreat
theorem run_emptyTg (w : World) : (Instr.buildSlice 40 0 #[]).run Tryz.prog w = .ok (.slice (some ⟨w.heap.size, 0, none⟩) 0 0) (w.alloc (.cells #[] 42)) := by kernel_rfl
theorem own_none {w : World} {e : TypeId} {s n c : Nat} {xs : List Value} (h : Own w e s none n c xs) : n = 0 := by
  rcases h.form with ⟨_, h1, _⟩ | ⟨g, _, h, _⟩
  · exact h1
  · cases h
theorem nilTgs (A : Option Addr) (n c : Nat) (w : World) : (binOp .eql 40 (.slice A n c) (.slice none 0 0)).run Tryz.prog w = .ok (.bool A.isNone) w :=
  Lib.run_eql_slice_nil w 40 42 A n c 0 0 Tryz.underlying40
attribute [local go_sem] nilTgs
theorem HO.ofEmptyTg (w : World) (z : Nat) [h : HB w z 42 #[]] : HO w 42 37 (some ⟨z, 0, none⟩) 0 0 (cellsOf ([] : List TargetR)) := ⟨Own.of_blk h.out (Nat.le_refl _) (Nat.zero_le _) (by simp) (by simp [cellsOf])⟩
set_option maxRecDepth 100000 in
set_option maxHeartbeats 1600000 in
theorem cloneR_calls {A : Option Addr} {n c : Nat} {L : List TargetR} {w : World} [ho : HO w 42 37 A n c (cellsOf L)] (hl : L.length = n) (hn : n ≤ 1000000) :
    Calls Tryz.prog 47 #[.slice A n c] w fun e w' => ∃ A' c', e = .returned (.slice A' n c') ∧ Step nowhere w w' ∧ HR w' A' (cellsOf L) ∧ NewA w A' := by
  have hrl : HR w A (cellsOf L) := ⟨ho.out.rd⟩
  cases A with
  | none =>
    have h0 := own_none ho.out
    subst h0
    obtain rfl : L = [] := List.length_eq_zero_iff.1 hl
    go_enter Tryz.func47, Tryz.ntmps47
    go_wp2_with fail
    go_ret
    exact ⟨none, 0, rfl, stepN, hrl, newA_none _⟩
  | some ad =>
    go_enter Tryz.func47, Tryz.ntmps47
    go_wp2_with (first | ((with_reducible apply (stop_dst (dst := some 5))); (try simp only [Act.put, sA, sB, sC]); ((with_reducible apply (wpl_bslice (dst := some 5))); (exact run_emptyTg _); intro zb wb _ _ _)) | ((with_reducible apply (wpl_appendR (α := TargetR))); (exact rfl); (exact rfl); infer_instance; (exact HO.ofEmptyTg _ _); infer_instance; (exact rfl); (exact hl); omega; (decide); (decide); intro A' c' wa _ ho _ hcap))
    go_ret
    refine ⟨A', c', by simp, stepN, ⟨?_⟩, inferInstance⟩
    have h5 := ho.out.rd
    simpa using h5
/-- a list of it alone may be -/
def mayL : List UInt8 := [116, 111, 112]
def mayR (t : TargetR) : Bool := tgsOk mayL 1 0 [t] []
theorem run_may (A : Option Addr) (n c : Nat) (w : World) : (Instr.build 84 #[(0, .string ⟨#[116, 111, 112]⟩), (1, .int .i64 1), (3, .slice A n c)]).run Tryz.prog w = .ok (.agg #[.string (strL mayL), .int .i64 1, .int .i64 0, .slice A n c, .slice none 0 0]) w := by kernel_rfl
theorem EncPost.uniR {ok : Bool} {bytes : List UInt8} {w w' : World} {e : Ending} (h : EncPost ok bytes w e w') :
    Step nowhere w w' ∧ ∃ A n c, e = .returned (.tuple #[.slice A n c, .int .i64 (if ok then 0 else 1)]) := by
  obtain ⟨hs, h⟩ := h
  refine ⟨hs, ?_⟩
  cases ok with
  | false =>
    obtain rfl : e = _ := h
    exact ⟨none, 0, 0, rfl⟩
  | true =>
    obtain ⟨A, n, c, rfl, _⟩ := h
    exact ⟨A, n, c, rfl⟩
set_option maxRecDepth 100000 in
set_option maxHeartbeats 1600000 in
theorem rmayBe_calls (t : TargetR) (w : World) : Calls Tryz.prog 44 #[.agg (RowC.enc t).toArray] w fun e w' => e = .returned (.bool (mayR t)) ∧ Step nowhere w w' := by
  have hsz : (RowC.enc t).toArray.size = 37 := tgR_len t
  have hon := enc_one t
  obtain ⟨R, hR⟩ : ∃ R, R = mayR t := ⟨_, rfl⟩
  have HM : Hid (mayR t = R) := Lib.hid hR.symm
  rw [← hR]
  clear hR
  go_enter Tryz.func44, Tryz.ntmps44
  go_wp2_with (first | ((with_reducible apply (stop_dst (dst := some 7))); (try simp only [Act.put, sA, sB, sC]); ((with_reducible apply (wpl_bslice (dst := some 7))); (exact run_bsR _ _); intro zb wb _ _ _)) | ((with_reducible apply wpl_build); (exact run_may _ _ _ _)) | ((with_reducible apply (wpl_box_agg (dst := some 1))); (exact rfl); intro zt wzt _ _ _) | ((with_reducible apply (wpl_box_int (dst := some 1))); (exact rfl); intro zt wzt _ _ _) | ((with_reducible apply (wpl_box_slice (dst := some 1))); (exact rfl); intro zt wzt _ _ _) | ((with_reducible apply (wpl_box_str (dst := some 1))); (exact rfl); intro zt wzt _ _ _) | ((with_reducible apply (wpl_box_bool (dst := some 1))); (exact rfl); intro zt wzt _ _ _) | ((with_reducible apply (wpl_box_ptr (dst := some 1))); (exact rfl); intro zt wzt _ _ _) | ((with_reducible apply wpl_box_agg); (exact rfl); intro z wz _ _ _) | ((with_reducible apply wpl_box_int); (exact rfl); intro z wz _ _ _) | ((with_reducible apply wpl_box_slice); (exact rfl); intro z wz _ _ _) | ((with_reducible apply wpl_box_str); (exact rfl); intro z wz _ _ _) | ((with_reducible apply wpl_box_bool); (exact rfl); intro z wz _ _ _) | ((with_reducible apply wpl_box_ptr); (exact rfl); intro z wz _ _ _) | ((with_reducible apply wpl_loadrow); (exact rfl); infer_instance; infer_instance; (first | (with_reducible assumption) | (with_reducible exact H32.size _) | (with_reducible exact enc_sz _ rfl) | kernel_rfl)) | ((with_reducible apply wpl_loadcellN); (exact rfl); infer_instance; (exact rfl)))
  have hP : HR wb (some ⟨zb, 0, none⟩) (cellsOf [t]) := HB.cells inferInstance
  have hD : HR wb none (cellsOf ([] : List DeleR)) := ⟨Rd.nil _ _⟩
  refine (EncodeTargets_calls mayL 1 0 (P := [t]) (D := []) rfl rfl (fun k hk => by cases hk) (by show 1 ≤ 9223372036854775807; decide) (by decide)).mono ?_
  rintro e w5 hp
  obtain ⟨st5, A5, n5, c5, rfl⟩ := hp.uniR
  clear hp
  rw [show tgsOk mayL 1 0 [t] [] = R from HM.out]
  cases R
  case false =>
    go_wp2_with (first | ((with_reducible apply wpl_box_agg); (exact rfl); intro z wz _ _ _) | ((with_reducible apply wpl_box_int); (exact rfl); intro z wz _ _ _) | ((with_reducible apply wpl_box_slice); (exact rfl); intro z wz _ _ _) | ((with_reducible apply wpl_box_str); (exact rfl); intro z wz _ _ _) | ((with_reducible apply wpl_box_bool); (exact rfl); intro z wz _ _ _) | ((with_reducible apply wpl_box_ptr); (exact rfl); intro z wz _ _ _) | ((with_reducible apply wpl_loadrow); (exact rfl); infer_instance; infer_instance; (first | (with_reducible assumption) | (with_reducible exact H32.size _) | (with_reducible exact enc_sz _ rfl) | kernel_rfl)) | ((with_reducible apply wpl_loadcellN); (exact rfl); infer_instance; (exact rfl)))
    go_ret
    exact ⟨rfl, stepN⟩
  case true =>
    go_wp2_with (first | ((with_reducible apply wpl_box_agg); (exact rfl); intro z wz _ _ _) | ((with_reducible apply wpl_box_int); (exact rfl); intro z wz _ _ _) | ((with_reducible apply wpl_box_slice); (exact rfl); intro z wz _ _ _) | ((with_reducible apply wpl_box_str); (exact rfl); intro z wz _ _ _) | ((with_reducible apply wpl_box_bool); (exact rfl); intro z wz _ _ _) | ((with_reducible apply wpl_box_ptr); (exact rfl); intro z wz _ _ _) | ((with_reducible apply wpl_loadrow); (exact rfl); infer_instance; infer_instance; (first | (with_reducible assumption) | (with_reducible exact H32.size _) | (with_reducible exact enc_sz _ rfl) | kernel_rfl)) | ((with_reducible apply wpl_loadcellN); (exact rfl); infer_instance; (exact rfl)))
    go_ret
    exact ⟨rfl, stepN⟩
set_option maxRecDepth 100000 in
set_option maxHeartbeats 1600000 in
theorem dmayBe_calls (t : TargetR) (w : World) : Calls Tryz.prog 52 #[.agg (RowC.enc t).toArray] w fun e w' => e = .returned (.bool (mayR t)) ∧ Step nowhere w w' := by
  have hsz : (RowC.enc t).toArray.size = 37 := tgR_len t
  have hon := enc_one t
  obtain ⟨R, hR⟩ : ∃ R, R = mayR t := ⟨_, rfl⟩
  have HM : Hid (mayR t = R) := Lib.hid hR.symm
  rw [← hR]
  clear hR
  go_enter Tryz.func52, Tryz.ntmps52
  go_wp2_with (first | ((with_reducible apply (stop_dst (dst := some 7))); (try simp only [Act.put, sA, sB, sC]); ((with_reducible apply (wpl_bslice (dst := some 7))); (exact run_bsR _ _); intro zb wb _ _ _)) | ((with_reducible apply wpl_build); (exact run_may _ _ _ _)) | ((with_reducible apply (wpl_box_agg (dst := some 1))); (exact rfl); intro zt wzt _ _ _) | ((with_reducible apply (wpl_box_int (dst := some 1))); (exact rfl); intro zt wzt _ _ _) | ((with_reducible apply (wpl_box_slice (dst := some 1))); (exact rfl); intro zt wzt _ _ _) | ((with_reducible apply (wpl_box_str (dst := some 1))); (exact rfl); intro zt wzt _ _ _) | ((with_reducible apply (wpl_box_bool (dst := some 1))); (exact rfl); intro zt wzt _ _ _) | ((with_reducible apply (wpl_box_ptr (dst := some 1))); (exact rfl); intro zt wzt _ _ _) | ((with_reducible apply wpl_box_agg); (exact rfl); intro z wz _ _ _) | ((with_reducible apply wpl_box_int); (exact rfl); intro z wz _ _ _) | ((with_reducible apply wpl_box_slice); (exact rfl); intro z wz _ _ _) | ((with_reducible apply wpl_box_str); (exact rfl); intro z wz _ _ _) | ((with_reducible apply wpl_box_bool); (exact rfl); intro z wz _ _ _) | ((with_reducible apply wpl_box_ptr); (exact rfl); intro z wz _ _ _) | ((with_reducible apply wpl_loadrow); (exact rfl); infer_instance; infer_instance; (first | (with_reducible assumption) | (with_reducible exact H32.size _) | (with_reducible exact enc_sz _ rfl) | kernel_rfl)) | ((with_reducible apply wpl_loadcellN); (exact rfl); infer_instance; (exact rfl)))
  have hP : HR wb (some ⟨zb, 0, none⟩) (cellsOf [t]) := HB.cells inferInstance
  have hD : HR wb none (cellsOf ([] : List DeleR)) := ⟨Rd.nil _ _⟩
  refine (EncodeTargets_calls mayL 1 0 (P := [t]) (D := []) rfl rfl (fun k hk => by cases hk) (by show 1 ≤ 9223372036854775807; decide) (by decide)).mono ?_
  rintro e w5 hp
  obtain ⟨st5, A5, n5, c5, rfl⟩ := hp.uniR
  clear hp
  rw [show tgsOk mayL 1 0 [t] [] = R from HM.out]
  cases R
  case false =>
    go_wp2_with (first | ((with_reducible apply wpl_box_agg); (exact rfl); intro z wz _ _ _) | ((with_reducible apply wpl_box_int); (exact rfl); intro z wz _ _ _) | ((with_reducible apply wpl_box_slice); (exact rfl); intro z wz _ _ _) | ((with_reducible apply wpl_box_str); (exact rfl); intro z wz _ _ _) | ((with_reducible apply wpl_box_bool); (exact rfl); intro z wz _ _ _) | ((with_reducible apply wpl_box_ptr); (exact rfl); intro z wz _ _ _) | ((with_reducible apply wpl_loadrow); (exact rfl); infer_instance; infer_instance; (first | (with_reducible assumption) | (with_reducible exact H32.size _) | (with_reducible exact enc_sz _ rfl) | kernel_rfl)) | ((with_reducible apply wpl_loadcellN); (exact rfl); infer_instance; (exact rfl)))
    go_ret
    exact ⟨rfl, stepN⟩
  case true =>
    go_wp2_with (first | ((with_reducible apply wpl_box_agg); (exact rfl); intro z wz _ _ _) | ((with_reducible apply wpl_box_int); (exact rfl); intro z wz _ _ _) | ((with_reducible apply wpl_box_slice); (exact rfl); intro z wz _ _ _) | ((with_reducible apply wpl_box_str); (exact rfl); intro z wz _ _ _) | ((with_reducible apply wpl_box_bool); (exact rfl); intro z wz _ _ _) | ((with_reducible apply wpl_box_ptr); (exact rfl); intro z wz _ _ _) | ((with_reducible apply wpl_loadrow); (exact rfl); infer_instance; infer_instance; (first | (with_reducible assumption) | (with_reducible exact H32.size _) | (with_reducible exact enc_sz _ rfl) | kernel_rfl)) | ((with_reducible apply wpl_loadcellN); (exact rfl); infer_instance; (exact rfl)))
    go_ret
    exact ⟨rfl, stepN⟩
end Go.Proofs.YteieielodooglaaGreat
