/- List. -/
import Derived.Test.YthoipeamdolfgaaBsK
open Go Go.RowKit
namespace Go.Proofs.Ythoipeamdolfgaa
open Hp
theorem HO.ofEmptyM (w : World) (g : Nat) (e : TypeId) [h : HB w g e #[]] : HO w e 3 (some ⟨g, 0, none⟩) 0 0 (cellsOf ([] : List BM)) :=
  ⟨Own.of_blk h.out (Nat.le_refl _) (Nat.zero_le _) (by simp) (by simp [cellsOf])⟩
theorem run_emptyQ (w : World) : (Instr.buildSlice 84 0 #[]).run Try.prog w = .ok (.slice (some ⟨w.heap.size, 0, none⟩) 0 0) (w.alloc (.cells #[] 91)) := by kernel_rfl
attribute [local go_sem] nilQ
set_option maxRecDepth 100000 in
theorem qclone_calls {A : Option Addr} {n c : Nat} (l : List BM) {w : World} [h : HR w A (cellsOf l)] (hl : l.length = n) (hm : n ≤ 100000) :
    Calls Try.prog 46 #[.slice A n c] w fun e w' => ∃ A' c', e = .returned (.slice A' n c') ∧ Step nowhere w w' ∧ HO w' 91 3 A' n c' (cellsOf l) ∧ NewA w A' := by
  cases A with
  | none =>
    have hx : l = [] := by
      cases l with
      | nil => rfl
      | cons x l => obtain ⟨ad, h, _⟩ := h.out 0 _ rfl; cases h
    subst hx
    subst hl
    go_enter Try.func46, Try.ntmps46
    go_wp2_with fail
    go_ret
    exact ⟨none, 0, rfl, stepN, ⟨Own.nil _ _ _⟩, NewA.of_none _⟩
  | some ad =>
    go_enter Try.func46, Try.ntmps46
    go_wp2_with (first | ((with_reducible apply (stop_dst (dst := some 5))); (try simp only [Act.put, List.setIfInBounds_toArray, List.set_cons_succ, List.set_cons_zero]); ((with_reducible apply (wpl_bslice (dst := some 5))); (exact run_emptyQ _); intro zb wb _ _ _)) | ((with_reducible apply (wpl_appendR (α := BM))); (exact rfl); (exact rfl); (exact inferInstance); (exact HO.ofEmptyM _ _ _); (exact inferInstance); (exact rfl); (exact hl); omega; (decide); (decide); intro A' c' wa _ ho _ _))
    go_ret
    exact ⟨A', c', rfl, stepN, ⟨by have h5 := ho.out; simpa using h5⟩, inferInstance⟩
end Go.Proofs.Ythoipeamdolfgaa
