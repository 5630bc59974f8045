/- bytes.Clone; seg.frame. -/
import Derived.Test.YtmeeopfdplaiaaaSgT
open Go Go.RowKit
namespace Go.Proofs.Ytmeeopfdplaiaaa
theorem nilB (A : Option Addr) (n c : Nat) (w : World) : (binOp .eql 22 (.slice A n c) (.slice none 0 0)).run Try.prog w = .ok (.bool A.isNone) w :=
  Lib.run_eql_slice_nil w 22 5 A n c 0 0 Try.underlying22
attribute [local go_sem] nilB
set_option maxRecDepth 100000 in
theorem clone_calls {A : Option Addr} {n c : Nat} {xs : List UInt8} {w : World} [h : HR w A (bs xs)] (hn : xs.length = n) (hc : n ≤ c) (hm : n ≤ 10000) :
    Calls Try.prog 38 #[.slice A n c] w fun e w' => ∃ A' c', e = .returned (.slice A' n c') ∧ Step nowhere w w' ∧ HO w' 5 1 A' n c' (bs xs) ∧ NewA w A' := by
  cases A with
  | none =>
    have hx : xs = [] := by
      cases xs with
      | nil => rfl
      | cons x l => obtain ⟨ad, h, _⟩ := h.out 0 _ rfl; cases h
    subst hx
    subst hn
    go_enter Try.func38, Try.ntmps38
    go_wp2_with fail
    go_ret
    exact ⟨none, 0, rfl, stepN, ⟨Own.nil _ _ _⟩, NewA.of_none _⟩
  | some ad =>
    have f0 : Fact' (([] : List UInt8).length ≤ maxLen) := ⟨by decide⟩
    go_enter Try.func38, Try.ntmps38
    go_wp2_with (first | ((with_reducible apply wpl_bslice); (exact run_empty _); intro zb wb _ _ _) | ((with_reducible apply wpl_appendB); (exact rfl); (exact rfl); (exact inferInstance); (exact inferInstance); (exact inferInstance); (exact hn); omega; intro A' c' wa _ ho _ _))
    go_ret
    exact ⟨A', c', rfl, stepN, ⟨by have h5 := ho.out; simpa using h5⟩, inferInstance⟩
set_option maxRecDepth 100000 in
theorem frame_calls (id : Int) {g m : Nat} {hd : List UInt8} {A : Option Addr} {n c : Nat} {xs : List UInt8} {w : World} [hb : HB w g 5 (u8s hd)] (hm : hd.length = m) [h : HR w A (bs xs)] (hn : xs.length = n) (hl : m + n ≤ 10000) :
    Calls Try.prog 25 #[.int .i64 id, .slice (some ⟨g, 0, none⟩) m m, .slice A n c] w fun e w' => ∃ A' c', e = .returned (.agg #[.int .i64 id, .slice A' (m + n) c']) ∧ Step (only g) w w' ∧ HR w' A' (bs (hd ++ xs)) ∧ m + n ≤ c' ∧ (A' = some ⟨g, 0, none⟩ ∨ NewA w A') := by
  subst hm
  have f0 : Fact' (hd.length ≤ maxLen) := ⟨by unfold maxLen; omega⟩
  go_enter Try.func25, Try.ntmps25
  go_wp2_with (first | ((with_reducible apply wpl_build); (exact run_build_frame _ _ _ _)) | ((with_reducible apply wpl_appendB); (exact rfl); (exact rfl); (exact inferInstance); (exact inferInstance); (exact inferInstance); (exact hn); omega; intro A' c' wa s5 ho g5 hcap) | (first | ((with_reducible apply (wpl_alloc (dst := some 6))); intro z wz _ _ _) | ((with_reducible apply wpl_alloc); intro z wz _ _ _) | ((with_reducible apply wpl_storerow); (exact rfl); (exact rfl); (exact inferInstance); (exact inferInstance); (first | (with_reducible assumption) | (with_reducible exact H32.size _) | kernel_rfl); (first | (with_reducible assumption) | (with_reducible exact H32.size _) | kernel_rfl); (first | (with_reducible exact u8s_one _) | (with_reducible assumption) | kernel_rfl); intro ws _ _) | ((with_reducible apply wpl_storecell); (exact rfl); (exact rfl); (exact inferInstance); (exact rfl); (first | (with_reducible assumption) | omega | (focus (simp; done)) | (focus (simp; omega; done)) | decide); intro ws _ _)))
  refine ret_row rfl rfl (n := 2) rfl rfl ?_
  refine ⟨A', c', rfl, ?_, inferInstance, hcap, ?_⟩
  · exact stepC
  · rcases g5.out with k | k
    · exact .inl k
    · exact .inr (NewA.szLe k)
end Go.Proofs.Ytmeeopfdplaiaaa
