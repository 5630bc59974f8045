/- WrC -/
import Derived.Test.YthcleccofccbdaaTwWrB
open Go Go.RowKit
namespace Go.Proofs.Ythcleccofccbdaa
theorem HB.rdL {w : World} {z : Nat} {t : TypeId} {cs : Array Value} (h : HB w z t cs) : Rd w (some ⟨z, 0, none⟩) cs.toList := fun k u hk => by
  refine ⟨_, rfl, ?_⟩
  rw [add_row, h.out.cell k]
  simpa using hk
/-- a closure of one function -/
def fnV (f : FuncId) (caps : Array Value) : Value := .func (.func f) #[] caps
set_option maxRecDepth 100000 in
theorem fields_calls {A2 : Option Addr} {n c : Nat} {l : List Fld} {w : World} (hr : Rd w A2 (fvs l)) (hn : l.length = n) (hm : n ≤ 1000000000) (hL : ∀ f ∈ l, Lays w f.T f.fv f.ys) :
    Calls Try.prog 94 #[.slice A2 n c] w fun e w' => ∃ f caps T, e = .returned (.func (.func f) #[] caps) ∧ Step nowhere w w' ∧ Lays w' T (.func (.func f) #[] caps) (allYs l) ∧ ∀ x, T x → w.heap.size ≤ x ∨ (fvs l ≠ [] ∧ rowOf A2 x) ∨ ∃ f ∈ l, f.T x := by
  go_enter Try.func94, Try.ntmps94
  go_wp2_with (first | ((with_reducible apply (wpl_box_slice (dst := some 1))); (exact rfl); intro bl wbl _ _ _))
  go_ret
  have h1 : HB wbl bl 216 #[.slice A2 n c] := inferInstance
  have hst : Step nowhere w wbl := stepN
  have hbl : w.heap.size ≤ bl := Nat.le_of_eq (inferInstance : Born w bl).eq.symm
  have hr2 := hr.later hst.chg
  refine ⟨_, _, fun x => x = bl ∨ (fvs l ≠ [] ∧ rowOf A2 x) ∨ ∃ f ∈ l, f.T x, rfl, hst, ⟨fun x hx => ?_, _, _, rfl, run_enter Try.func160 (by kernel_rfl) rfl, fun w1 g A xs hc hw hT hlen => ?_⟩, fun x hx => ?_⟩
  · rcases hx with rfl | ⟨hne, ad, e, hk⟩ | ⟨f, hf, hx⟩
    · exact h1.out.lt
    · rw [← hk]
      exact rd_lt hr2 hne e
    · exact Nat.lt_of_lt_of_le ((hL f hf).low x hx) hst.chg.size
  · have k1 : HB w1 bl 216 #[.slice A2 n c] := ⟨h1.out.chg hc (fun hk => hk (.inl rfl))⟩
    exact fields1_calls hw (hr2.chg hc (fun hne ad e hk => hk (.inr (.inl ⟨hne, ad, e, rfl⟩)))) hn (fun hne ad e hk => hT _ hk (.inr (.inl ⟨hne, ad, e, rfl⟩)))
      (fun f hf => (((hL f hf).later hst.chg (fun _ _ h => h)).later hc (fun x hx hk => hk (.inr (.inr ⟨f, hf, hx⟩))))) (fun f hf x hx hk => hT x hx (.inr (.inr ⟨f, hf, hk⟩))) (by omega) hm
  · rcases hx with rfl | h | h
    · exact .inl hbl
    · exact .inr (.inl h)
    · exact .inr (.inr h)
set_option maxRecDepth 100000 in
theorem laidB1_calls {w : World} {g bl bv n c : Nat} {A A2 : Option Addr} {xs ys : List UInt8} {fx : FuncId} {t1 t2 : TypeId} (hf : fx = 212) (hw : WrAt w g A xs) [hbl : HB w bl t1 #[.func (.func fx) #[] #[]]] [hbv : HB w bv t2 #[.slice A2 n c]] (hr : Rd w A2 (bs ys)) (hn : ys.length = n) (hx : xs.length + ys.length ≤ 10000000000000) :
    Calls Try.prog 235 #[.pointer (some ⟨g, 0, none⟩), .pointer (some ⟨bl, 0, none⟩), .pointer (some ⟨bv, 0, none⟩)] w fun e w' => e = .returned (.tuple #[]) ∧ ∃ A', WrAt w' g A' (xs ++ ys) ∧ Chg (Wf g A) w w' ∧ Moved w A A' := by
  subst hf
  go_enter Try.func235, Try.ntmps235
  go_wp2_with (first | ((with_reducible apply wpl_loadrow); (exact rfl); infer_instance; infer_instance; (first | (with_reducible assumption) | (with_reducible exact H32.size _) | kernel_rfl)) | ((with_reducible apply wpl_loadcellN); (exact rfl); infer_instance; (exact rfl)))
  refine (wRaw_calls g A xs A2 n c ys w hw hr hn hx).mono ?_
  rintro e w5 ⟨rfl, A5, h5, h6, h7⟩
  go_wp2_with fail
  go_end0
  exact ⟨rfl, A5, h5.out, h6.out, h7.out⟩
set_option maxRecDepth 100000 in
theorem laidB_calls {A2 : Option Addr} {n c : Nat} {ys : List UInt8} {w : World} (hr : Rd w A2 (bs ys)) (hn : ys.length = n) :
    Calls Try.prog 211 #[.func (.func 212) #[] #[], .slice A2 n c] w fun e w' => ∃ f caps T, e = .returned (.func (.func f) #[] caps) ∧ Step nowhere w w' ∧ Lays w' T (.func (.func f) #[] caps) ys ∧ ∀ x, T x → w.heap.size ≤ x ∨ rowOf A2 x := by
  go_enter Try.func211, Try.ntmps211
  go_wp2_with (first | ((with_reducible apply (wpl_box (dst := some 2) (cs := #[.func (.func 212) #[] #[]]))); (exact rfl); (exact rfl); intro bl wbl _ _ _) | ((with_reducible apply (wpl_box_slice (dst := some 3))); (exact rfl); intro bv wbv _ _ _))
  go_ret
  have h1 : HB wbv bl 255 #[.func (.func 212) #[] #[]] := inferInstance
  have h2 : HB wbv bv 28 #[.slice A2 n c] := inferInstance
  have hst : Step nowhere w wbv := stepN
  have hbl : w.heap.size ≤ bl := Nat.le_of_eq (inferInstance : Born w bl).eq.symm
  have hbv : w.heap.size ≤ bv := by
    have e1 := (inferInstance : Born wbl bv).eq
    have e2 := (inferInstance : SzLe w wbl).out
    omega
  have hr2 := hr.later hst.chg
  refine ⟨_, _, fun x => x = bl ∨ x = bv ∨ (bs ys ≠ [] ∧ rowOf A2 x), rfl, hst, ⟨fun x hx => ?_, _, _, rfl, run_enter Try.func235 (by kernel_rfl) rfl, fun w1 g A xs hc hw hT hlen => ?_⟩, fun x hx => ?_⟩
  · rcases hx with rfl | rfl | ⟨hne, ad, e, hk⟩
    · exact h1.out.lt
    · exact h2.out.lt
    · rw [← hk]
      exact rd_lt hr2 hne e
  · have k1 : HB w1 bl 255 #[.func (.func 212) #[] #[]] := ⟨h1.out.chg hc (fun hk => hk (.inl rfl))⟩
    have k2 : HB w1 bv 28 #[.slice A2 n c] := ⟨h2.out.chg hc (fun hk => hk (.inr (.inl rfl)))⟩
    exact laidB1_calls rfl hw (hr2.chg hc (fun hne ad e hk => hk (.inr (.inr ⟨hne, ad, e, rfl⟩)))) hn (by omega)
  · rcases hx with rfl | rfl | ⟨hne, hk⟩
    · exact .inl hbl
    · exact .inl hbv
    · exact .inr hk
set_option maxRecDepth 100000 in
theorem fhash_calls (h : H32) (w : World) :
    Calls Try.prog 169 #[.agg (u8s h.l)] w fun e w' => ∃ f caps T, e = .returned (.func (.func f) #[] caps) ∧ Step nowhere w w' ∧ Lays w' T (.func (.func f) #[] caps) h.l ∧ ∀ x, T x → w.heap.size ≤ x := by
  go_enter Try.func169, Try.ntmps169
  go_wp2_with (first | ((with_reducible apply (wpl_box_agg (dst := some 1))); (exact rfl); intro zb wzb _ _ _) | ((with_reducible apply (wpl_box_int (dst := some 1))); (exact rfl); intro zb wzb _ _ _) | ((with_reducible apply (wpl_box_slice (dst := some 1))); (exact rfl); intro zb wzb _ _ _) | ((with_reducible apply (wpl_box_str (dst := some 1))); (exact rfl); intro zb wzb _ _ _) | ((with_reducible apply (wpl_box_bool (dst := some 1))); (exact rfl); intro zb wzb _ _ _) | ((with_reducible apply (wpl_box_ptr (dst := some 1))); (exact rfl); intro zb wzb _ _ _) | ((with_reducible apply wpl_box_agg); (exact rfl); intro z wz _ _ _) | ((with_reducible apply wpl_box_int); (exact rfl); intro z wz _ _ _) | ((with_reducible apply wpl_box_slice); (exact rfl); intro z wz _ _ _) | ((with_reducible apply wpl_box_str); (exact rfl); intro z wz _ _ _) | ((with_reducible apply wpl_box_bool); (exact rfl); intro z wz _ _ _) | ((with_reducible apply wpl_box_ptr); (exact rfl); intro z wz _ _ _))
  have hbz : HB wzb zb 78 (u8s h.l) := inferInstance
  have hz : zb = w.heap.size := (inferInstance : Born w zb).eq
  have hst : Step nowhere w wzb := stepN
  refine (laidB_calls (A2 := some ⟨zb, 0, none⟩) (n := 32) (c := 32) (ys := h.l) hbz.rdL h.len).mono ?_
  rintro e w5 ⟨f, caps, T, rfl, hs, hL, hT⟩
  go_wp2_with fail
  go_ret
  refine ⟨f, caps, T, rfl, ⟨hst.chg.trans hs.chg (fun _ _ h => h)⟩, hL, fun x hx => ?_⟩
  rcases hT x hx with h | ⟨ad, e, hk⟩
  · exact Nat.le_trans hst.chg.size h
  · injection e with e
    subst e
    have hk' : zb = x := hk
    omega
end Go.Proofs.Ythcleccofccbdaa
