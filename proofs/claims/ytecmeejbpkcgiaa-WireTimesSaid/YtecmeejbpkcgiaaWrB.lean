/- Fields laid one behind the other. -/
import Derived.Test.YtecmeejbpkcgiaaWrA
open Go Go.RowKit
namespace Go.Proofs.Ytecmeejbpkcgiaa
structure Fld where
  fv : Value
  T : Nat → Prop
  ys : List UInt8
def fvs (l : List Fld) : List Value := l.map (·.fv)
def allYs (l : List Fld) : List UInt8 := l.flatMap (·.ys)
def gf (l : List Fld) (k : Nat) : Fld := l.getD k ⟨.nilFunc, nowhere, []⟩
theorem gf_mem (l : List Fld) (k : Nat) (h : k < l.length) : gf l k ∈ l := by
  simp [gf, List.getD_eq_getElem?_getD, h]
theorem fvs_at {l : List Fld} {k : Nat} (h : k < l.length) : (fvs l)[k]? = some (gf l k).fv := by
  simp [fvs, gf, List.getD_eq_getElem?_getD, h]
theorem allYs_take (l : List Fld) (k : Nat) (h : k < l.length) : allYs (l.take (k + 1)) = allYs (l.take k) ++ (gf l k).ys := by
  rw [List.take_add_one, List.getElem?_eq_getElem h]
  unfold allYs
  rw [List.flatMap_append]
  simp [gf, List.getD_eq_getElem?_getD, h]
theorem allYs_le (l : List Fld) (k : Nat) (h : k < l.length) : (allYs (l.take k)).length + (gf l k).ys.length ≤ (allYs l).length := by
  rw [← List.length_append, ← allYs_take l k h]
  have e : allYs l = allYs (l.take (k + 1)) ++ allYs (l.drop (k + 1)) := by
    unfold allYs
    rw [← List.flatMap_append, List.take_append_drop]
  rw [e, List.length_append]
  exact Nat.le_add_right _ _
set_option maxRecDepth 100000 in
theorem fields1_calls {w : World} {g bl n c : Nat} {A A2 : Option Addr} {xs : List UInt8} {l : List Fld} {t1 : TypeId} (hw : WrAt w g A xs) [hbl : HB w bl t1 #[.slice A2 n c]] (hr : Rd w A2 (fvs l)) (hn : l.length = n) (hA2 : Apart (Wf g A) A2 (fvs l))
    (hL : ∀ f ∈ l, Lays w f.T f.fv f.ys) (hT : ∀ f ∈ l, ∀ x, Wf g A x → ¬ f.T x) (hx : xs.length + (allYs l).length ≤ 1000000000) (hm : n ≤ 1000000000) :
    Calls Try.prog 157 #[.pointer (some ⟨g, 0, none⟩), .pointer (some ⟨bl, 0, none⟩)] w fun e w' => e = .returned (.tuple #[]) ∧ ∃ A', WrAt w' g A' (xs ++ allYs l) ∧ Chg (Wf g A) w w' ∧ Moved w A A' := by
  have HN := Lib.hid hn
  clear hn
  go_enter Try.func157, Try.ntmps157
  go_wp2_with (first | ((with_reducible apply wpl_loadrow); (exact rfl); (exact inferInstance); (exact inferInstance); (first | (with_reducible assumption) | (with_reducible exact H32.size _) | kernel_rfl)) | ((with_reducible apply wpl_loadcellN); (exact rfl); (exact inferInstance); (exact rfl)))
  go_loopw [7] (fun iv wr => ∃ (k : Nat) (A1 : Option Addr), k ≤ n ∧ iv = .int .i64 (k : Int) ∧ WrAt wr g A1 (xs ++ allYs (l.take k)) ∧ Chg (Wf g A) w wr ∧ Moved w A A1) (fun iv _ => n - (intOf iv).toNat)
  case atStart => exact ⟨0, A, Nat.zero_le _, rfl, by simpa [allYs] using hw, Chg.refl _ _, Moved.refl _ _⟩
  case round =>
    obtain ⟨k, A1, hk, rfl, hW, hC, hM⟩ := hrel
    by_cases hlt : k < n
    · have hltI : (k : Int) < n := by omega
      have hkl : k < l.length := by have := HN.out; omega
      have hv := fvs_at hkl
      have hvl : 0 < (fvs l).length := by simp [fvs]; omega
      have hLk := hL _ (gf_mem l k hkl)
      have hTk := hT _ (gf_mem l k hkl)
      have hle := allYs_le l k hkl
      have htk := allYs_take l k hkl
      obtain ⟨⟨fv, T, ys⟩, hfl⟩ : ∃ x, gf l k = x := ⟨_, rfl⟩
      rw [hfl] at hv hLk hTk hle htk
      simp only at hv hLk hTk hle htk
      obtain ⟨f, caps, rfl, hent, hrun⟩ := hLk.run
      have hlow := hLk.low
      have hr1 : HR wr A2 (fvs l) := ⟨hr.chg hC hA2⟩
      have HV := Lib.hid hv
      have hcall := hrun wr g A1 (xs ++ allYs (l.take k)) (hC.mono (fun x _ hS hTx => hTk x hS hTx)) hW (fun x hx hTx => by
        rcases hM with rfl | ⟨ad, rfl, had⟩
        · exact hTk x hx hTx
        · rcases hx with rfl | ⟨ad', e, rfl⟩
          · exact hTk _ (.inl rfl) hTx
          · injection e with e
            subst e
            have := hlow _ hTx
            omega) (by rw [List.length_append]; omega)
      clear hle hv hfl hLk hlow
      go_wp2_with (first | ((with_reducible apply wpl_index1); (exact rfl); (exact rfl); (exact inferInstance); (exact hr1); (exact hvl); (exact hlt)) | ((with_reducible apply wpl_load1); (exact rfl); (exact hr1); (exact inferInstance); (exact HV.out)))
      refine hcall.mono ?_
      rintro e w5 ⟨rfl, A5, h5, hc5, hm5⟩
      have h6 := wf_trans hC hM hc5 hm5
      go_wp2_with fail
      refine ⟨⟨k + 1, A5, by omega, by simp, by rw [htk, ← List.append_assoc]; exact h5, h6.1, h6.2⟩, by simp [intOf]; omega⟩
    · obtain rfl : k = n := by omega
      have hltI : ¬ (k : Int) < k := by omega
      have hfin : l.take k = l := List.take_of_length_le (by have := HN.out; omega)
      rw [hfin] at hW
      go_wp2_with fail
      go_end0
      exact ⟨rfl, A1, hW, hC, hM⟩
end Go.Proofs.Ytecmeejbpkcgiaa
