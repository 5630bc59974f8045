/- Byte, WrA, WrB, WrC, WnA -/
import Derived.Test.YthcleccofccbdaaTrBase
import Derived.Test.YthcleccofccbdaaTrOcRfC
import Derived.Test.YthcleccofccbdaaTrOcW
import Derived.Laws.IdiomStrings
section
open Go Go.RowKit
namespace Go.Proofs.Ythcleccofccbdaa
section
variable {P : Program} {ops : Array Oper} {rest : List Oper} {a : Act} {w : World} {Q : Exit → Act → World → Prop} {dst : Option Tmp} {ty : TypeId} {pos : String} {after : Array Edge} {gd : Option (Nat × Bool)}
end
end Go.Proofs.Ythcleccofccbdaa
end
section
open Go Go.RowKit
namespace Go.Proofs.Ythcleccofccbdaa
/-- fv is a closure that lays ys, whatever Writer it is handed, as long as the blocks T stand as in w -/
structure Lays (w : World) (T : Nat → Prop) (fv : Value) (ys : List UInt8) : Prop where
  low : ∀ x, T x → x < w.heap.size
  run : ∃ f caps, fv = .func (.func f) #[] caps ∧ (∀ args w2, (callFunc f args).run Try.prog w2 = .ok (.enter f args) w2) ∧ ∀ w1 g A xs, Chg (fun x => ¬ T x) w w1 → WrAt w1 g A xs → (∀ x, Wf g A x → ¬ T x) → xs.length + ys.length ≤ 1000000000 →
    Calls Try.prog f (#[.pointer (some ⟨g, 0, none⟩)] ++ caps) w1 fun e w' => e = .returned (.tuple #[]) ∧ ∃ A', WrAt w' g A' (xs ++ ys) ∧ Chg (Wf g A) w1 w' ∧ Moved w1 A A'
theorem run_enter {P : Program} {f : FuncId} {fn : Func} {c : Code} (hf : P.funcs[f]? = some fn) (hname : (fn.name == "runtime.NumGoroutine") = false) (hb : fn.body = some c) (args : Array Value) (w : World) :
    (callFunc f args).run P w = .ok (.enter f args) w := by
  have h1 : fn.name ≠ "runtime.NumGoroutine" := by simpa using hname
  simp [callFunc, hf, h1, hb]
theorem Lays.later {w w' : World} {T S : Nat → Prop} {fv : Value} {ys : List UInt8} (h : Lays w T fv ys) (hc : Chg S w w') (hS : ∀ x, T x → ¬ S x) : Lays w' T fv ys := by
  obtain ⟨f, caps, e, hent, hrun⟩ := h.run
  refine ⟨fun x hx => Nat.lt_of_lt_of_le (h.low x hx) hc.size, f, caps, e, hent, fun w1 g A xs h1 h2 h3 h4 => hrun w1 g A xs ?_ h2 h3 h4⟩
  exact (hc.mono (fun x _ hk hT => hS x hT hk)).trans h1 (fun _ _ hk => hk)
set_option maxRecDepth 100000 in
theorem laidI1_calls {w : World} {g bl bv n c : Nat} {A A2 : Option Addr} {xs : List UInt8} {vs : List Int} {fx : FuncId} {t1 t2 : TypeId} (hf : fx = 162) (hw : WrAt w g A xs) [hbl : HB w bl t1 #[.func (.func fx) #[] #[]]] [hbv : HB w bv t2 #[.slice A2 n c]] (hr : Rd w A2 (is64 vs)) (hn : vs.length = n) (hA2 : Apart (Wf g A) A2 (is64 vs)) (hx : xs.length + 9 * vs.length ≤ 1000000000000) :
    Calls Try.prog 207 #[.pointer (some ⟨g, 0, none⟩), .pointer (some ⟨bl, 0, none⟩), .pointer (some ⟨bv, 0, none⟩)] w fun e w' => e = .returned (.tuple #[]) ∧ ∃ A', WrAt w' g A' (xs ++ encAll vs) ∧ Chg (Wf g A) w w' ∧ Moved w A A' := by
  subst hf
  go_enter Try.func207, Try.ntmps207
  go_wp2_with (first | ((with_reducible apply wpl_loadrow); (exact rfl); infer_instance; infer_instance; (first | (with_reducible assumption) | (with_reducible exact H32.size _) | kernel_rfl)) | ((with_reducible apply wpl_loadcellN); (exact rfl); infer_instance; (exact rfl)))
  refine (Nums_calls g A xs A2 n c vs w hw hr hn hA2 hx).mono ?_
  rintro e w5 ⟨rfl, h5⟩
  go_wp2_with fail
  go_end0
  exact ⟨rfl, h5⟩
set_option maxRecDepth 100000 in
theorem laidI_calls {A2 : Option Addr} {n c : Nat} {vs : List Int} {w : World} (hr : Rd w A2 (is64 vs)) (hn : vs.length = n) (hlim : 9 * vs.length ≤ 1000000000) :
    Calls Try.prog 161 #[.func (.func 162) #[] #[], .slice A2 n c] w fun e w' => ∃ fv T, e = .returned fv ∧ Step nowhere w w' ∧ Lays w' T fv (encAll vs) ∧ ∀ x, T x → w.heap.size ≤ x ∨ rowOf A2 x := by
  go_enter Try.func161, Try.ntmps161
  go_wp2_with (first | ((with_reducible apply (wpl_box (dst := some 2) (cs := #[.func (.func 162) #[] #[]]))); (exact rfl); (exact rfl); intro bl wbl _ _ _) | ((with_reducible apply (wpl_box_slice (dst := some 3))); (exact rfl); intro bv wbv _ _ _))
  go_ret
  have h1 : HB wbv bl 218 #[.func (.func 162) #[] #[]] := inferInstance
  have h2 : HB wbv bv 89 #[.slice A2 n c] := inferInstance
  have hst : Step nowhere w wbv := stepN
  have hbl : w.heap.size ≤ bl := Nat.le_of_eq (inferInstance : Born w bl).eq.symm
  have hbv : w.heap.size ≤ bv := by
    have e1 := (inferInstance : Born wbl bv).eq
    have e2 := (inferInstance : SzLe w wbl).out
    omega
  have hr2 := hr.later hst.chg
  refine ⟨_, fun x => x = bl ∨ x = bv ∨ (is64 vs ≠ [] ∧ rowOf A2 x), rfl, hst, ⟨fun x hx => ?_, _, _, rfl, run_enter Try.func207 (by kernel_rfl) rfl, fun w1 g A xs hc hw hT hlen => ?_⟩, fun x hx => ?_⟩
  · rcases hx with rfl | rfl | ⟨hne, ad, e, hk⟩
    · exact h1.out.lt
    · exact h2.out.lt
    · rw [← hk]
      exact rd_lt hr2 hne e
  · have k1 : HB w1 bl 218 #[.func (.func 162) #[] #[]] := ⟨h1.out.chg hc (fun hk => hk (.inl rfl))⟩
    have k2 : HB w1 bv 89 #[.slice A2 n c] := ⟨h2.out.chg hc (fun hk => hk (.inr (.inl rfl)))⟩
    have hl := encAll_len vs
    exact laidI1_calls rfl hw (hr2.chg hc (fun hne ad e hk => hk (.inr (.inr ⟨hne, ad, e, rfl⟩)))) hn (fun hne ad e hk => hT _ hk (.inr (.inr ⟨hne, ad, e, rfl⟩))) (by omega)
  · rcases hx with rfl | rfl | ⟨hne, hk⟩
    · exact .inl hbl
    · exact .inl hbv
    · exact .inr hk
set_option maxRecDepth 100000 in
theorem nums_calls {A2 : Option Addr} {n c : Nat} {vs : List Int} {w : World} (hr : Rd w A2 (is64 vs)) (hn : vs.length = n) (hlim : 9 * vs.length ≤ 1000000000) :
    Calls Try.prog 95 #[.slice A2 n c] w fun e w' => ∃ fv T, e = .returned fv ∧ Step nowhere w w' ∧ Lays w' T fv (encAll vs) ∧ ∀ x, T x → w.heap.size ≤ x ∨ rowOf A2 x := by
  go_enter Try.func95, Try.ntmps95
  go_wp2_with fail
  refine (laidI_calls (A2 := A2) (c := c) hr hn hlim).mono ?_
  rintro e w5 ⟨fv, T, rfl, hs, hL, hT⟩
  go_wp2_with fail
  go_ret
  exact ⟨fv, T, rfl, hs, hL, hT⟩
end Go.Proofs.Ythcleccofccbdaa
end
section
open Go Go.RowKit
namespace Go.Proofs.Ythcleccofccbdaa
structure Fld where
  fv : Value
  T : Nat → Prop
  ys : List UInt8
def fvs (l : List Fld) : List Value := l.map (·.fv)
def allYs (l : List Fld) : List UInt8 := l.flatMap (·.ys)
def gf (l : List Fld) (k : Nat) : Fld := l.getD k ⟨.nilFunc, nowhere, []⟩
theorem gf_mem (l : List Fld) (k : Nat) (h : k < l.length) : gf l k ∈ l := by
  simp [gf, List.getD_eq_getElem?_getD, h]
theorem fvs_at {l : List Fld} {k : Nat} (h : k < l.length) : (fvs l)[k]? = some (gf l k).fv := by
  simp [fvs, gf, List.getD_eq_getElem?_getD, h]
theorem allYs_take (l : List Fld) (k : Nat) (h : k < l.length) : allYs (l.take (k + 1)) = allYs (l.take k) ++ (gf l k).ys := by
  rw [List.take_add_one, List.getElem?_eq_getElem h]
  unfold allYs
  rw [List.flatMap_append]
  simp [gf, List.getD_eq_getElem?_getD, h]
theorem allYs_le (l : List Fld) (k : Nat) (h : k < l.length) : (allYs (l.take k)).length + (gf l k).ys.length ≤ (allYs l).length := by
  rw [← List.length_append, ← allYs_take l k h]
  have e : allYs l = allYs (l.take (k + 1)) ++ allYs (l.drop (k + 1)) := by
    unfold allYs
    rw [← List.flatMap_append, List.take_append_drop]
  rw [e, List.length_append]
  exact Nat.le_add_right _ _
set_option maxRecDepth 100000 in
theorem fields1_calls {w : World} {g bl n c : Nat} {A A2 : Option Addr} {xs : List UInt8} {l : List Fld} {t1 : TypeId} (hw : WrAt w g A xs) [hbl : HB w bl t1 #[.slice A2 n c]] (hr : Rd w A2 (fvs l)) (hn : l.length = n) (hA2 : Apart (Wf g A) A2 (fvs l))
    (hL : ∀ f ∈ l, Lays w f.T f.fv f.ys) (hT : ∀ f ∈ l, ∀ x, Wf g A x → ¬ f.T x) (hx : xs.length + (allYs l).length ≤ 1000000000) (hm : n ≤ 1000000000) :
    Calls Try.prog 160 #[.pointer (some ⟨g, 0, none⟩), .pointer (some ⟨bl, 0, none⟩)] w fun e w' => e = .returned (.tuple #[]) ∧ ∃ A', WrAt w' g A' (xs ++ allYs l) ∧ Chg (Wf g A) w w' ∧ Moved w A A' := by
  have HN := Lib.hid hn
  clear hn
  go_enter Try.func160, Try.ntmps160
  go_wp2_with (first | ((with_reducible apply wpl_loadrow); (exact rfl); infer_instance; infer_instance; (first | (with_reducible assumption) | (with_reducible exact H32.size _) | kernel_rfl)) | ((with_reducible apply wpl_loadcellN); (exact rfl); infer_instance; (exact rfl)))
  go_loopw [7] (fun iv wr => ∃ (k : Nat) (A1 : Option Addr), k ≤ n ∧ iv = .int .i64 (k : Int) ∧ WrAt wr g A1 (xs ++ allYs (l.take k)) ∧ Chg (Wf g A) w wr ∧ Moved w A A1) (fun iv _ => n - (intOf iv).toNat)
  case atStart => exact ⟨0, A, Nat.zero_le _, rfl, by simpa [allYs] using hw, Chg.refl _ _, Moved.refl _ _⟩
  case round =>
    obtain ⟨k, A1, hk, rfl, hW, hC, hM⟩ := hrel
    by_cases hlt : k < n
    · have hltI : (k : Int) < n := by omega
      have hkl : k < l.length := by have := HN.out; omega
      have hv := fvs_at hkl
      have hvl : 0 < (fvs l).length := by simp [fvs]; omega
      have hLk := hL _ (gf_mem l k hkl)
      have hTk := hT _ (gf_mem l k hkl)
      have hle := allYs_le l k hkl
      have htk := allYs_take l k hkl
      obtain ⟨⟨fv, T, ys⟩, hfl⟩ : ∃ x, gf l k = x := ⟨_, rfl⟩
      rw [hfl] at hv hLk hTk hle htk
      simp only at hv hLk hTk hle htk
      obtain ⟨f, caps, rfl, hent, hrun⟩ := hLk.run
      have hlow := hLk.low
      have hr1 : HR wr A2 (fvs l) := ⟨hr.chg hC hA2⟩
      have HV := Lib.hid hv
      have hcall := hrun wr g A1 (xs ++ allYs (l.take k)) (hC.mono (fun x _ hS hTx => hTk x hS hTx)) hW (fun x hx hTx => by
        rcases hM with rfl | ⟨ad, rfl, had⟩
        · exact hTk x hx hTx
        · rcases hx with rfl | ⟨ad', e, rfl⟩
          · exact hTk _ (.inl rfl) hTx
          · injection e with e
            subst e
            have := hlow _ hTx
            omega) (by rw [List.length_append]; omega)
      clear hle hv hfl hLk hlow
      go_wp2_with (first | ((with_reducible apply wpl_index1); (exact rfl); (exact rfl); infer_instance; (exact hr1); (exact hvl); (exact hlt)) | ((with_reducible apply wpl_load1); (exact rfl); (exact hr1); infer_instance; (exact HV.out)))
      refine hcall.mono ?_
      rintro e w5 ⟨rfl, A5, h5, hc5, hm5⟩
      have h6 := wf_trans hC hM hc5 hm5
      go_wp2_with fail
      refine ⟨⟨k + 1, A5, by omega, by simp, by rw [htk, ← List.append_assoc]; exact h5, h6.1, h6.2⟩, by simp [intOf]; omega⟩
    · obtain rfl : k = n := by omega
      have hltI : ¬ (k : Int) < k := by omega
      have hfin : l.take k = l := List.take_of_length_le (by have := HN.out; omega)
      rw [hfin] at hW
      go_wp2_with fail
      go_end0
      exact ⟨rfl, A1, hW, hC, hM⟩
end Go.Proofs.Ythcleccofccbdaa
end
section
open Go Go.RowKit
namespace Go.Proofs.Ythcleccofccbdaa
theorem HB.rdL {w : World} {z : Nat} {t : TypeId} {cs : Array Value} (h : HB w z t cs) : Rd w (some ⟨z, 0, none⟩) cs.toList := fun k u hk => by
  refine ⟨_, rfl, ?_⟩
  rw [add_row, h.out.cell k]
  simpa using hk
/-- a closure of one function -/
def fnV (f : FuncId) (caps : Array Value) : Value := .func (.func f) #[] caps
set_option maxRecDepth 100000 in
theorem fields_calls {A2 : Option Addr} {n c : Nat} {l : List Fld} {w : World} (hr : Rd w A2 (fvs l)) (hn : l.length = n) (hm : n ≤ 1000000000) (hL : ∀ f ∈ l, Lays w f.T f.fv f.ys) :
    Calls Try.prog 94 #[.slice A2 n c] w fun e w' => ∃ f caps T, e = .returned (.func (.func f) #[] caps) ∧ Step nowhere w w' ∧ Lays w' T (.func (.func f) #[] caps) (allYs l) ∧ ∀ x, T x → w.heap.size ≤ x ∨ (fvs l ≠ [] ∧ rowOf A2 x) ∨ ∃ f ∈ l, f.T x := by
  go_enter Try.func94, Try.ntmps94
  go_wp2_with (first | ((with_reducible apply (wpl_box_slice (dst := some 1))); (exact rfl); intro bl wbl _ _ _))
  go_ret
  have h1 : HB wbl bl 216 #[.slice A2 n c] := inferInstance
  have hst : Step nowhere w wbl := stepN
  have hbl : w.heap.size ≤ bl := Nat.le_of_eq (inferInstance : Born w bl).eq.symm
  have hr2 := hr.later hst.chg
  refine ⟨_, _, fun x => x = bl ∨ (fvs l ≠ [] ∧ rowOf A2 x) ∨ ∃ f ∈ l, f.T x, rfl, hst, ⟨fun x hx => ?_, _, _, rfl, run_enter Try.func160 (by kernel_rfl) rfl, fun w1 g A xs hc hw hT hlen => ?_⟩, fun x hx => ?_⟩
  · rcases hx with rfl | ⟨hne, ad, e, hk⟩ | ⟨f, hf, hx⟩
    · exact h1.out.lt
    · rw [← hk]
      exact rd_lt hr2 hne e
    · exact Nat.lt_of_lt_of_le ((hL f hf).low x hx) hst.chg.size
  · have k1 : HB w1 bl 216 #[.slice A2 n c] := ⟨h1.out.chg hc (fun hk => hk (.inl rfl))⟩
    exact fields1_calls hw (hr2.chg hc (fun hne ad e hk => hk (.inr (.inl ⟨hne, ad, e, rfl⟩)))) hn (fun hne ad e hk => hT _ hk (.inr (.inl ⟨hne, ad, e, rfl⟩)))
      (fun f hf => (((hL f hf).later hst.chg (fun _ _ h => h)).later hc (fun x hx hk => hk (.inr (.inr ⟨f, hf, hx⟩))))) (fun f hf x hx hk => hT x hx (.inr (.inr ⟨f, hf, hk⟩))) (by omega) hm
  · rcases hx with rfl | h | h
    · exact .inl hbl
    · exact .inr (.inl h)
    · exact .inr (.inr h)
set_option maxRecDepth 100000 in
theorem laidB1_calls {w : World} {g bl bv n c : Nat} {A A2 : Option Addr} {xs ys : List UInt8} {fx : FuncId} {t1 t2 : TypeId} (hf : fx = 212) (hw : WrAt w g A xs) [hbl : HB w bl t1 #[.func (.func fx) #[] #[]]] [hbv : HB w bv t2 #[.slice A2 n c]] (hr : Rd w A2 (bs ys)) (hn : ys.length = n) (hx : xs.length + ys.length ≤ 10000000000000) :
    Calls Try.prog 235 #[.pointer (some ⟨g, 0, none⟩), .pointer (some ⟨bl, 0, none⟩), .pointer (some ⟨bv, 0, none⟩)] w fun e w' => e = .returned (.tuple #[]) ∧ ∃ A', WrAt w' g A' (xs ++ ys) ∧ Chg (Wf g A) w w' ∧ Moved w A A' := by
  subst hf
  go_enter Try.func235, Try.ntmps235
  go_wp2_with (first | ((with_reducible apply wpl_loadrow); (exact rfl); infer_instance; infer_instance; (first | (with_reducible assumption) | (with_reducible exact H32.size _) | kernel_rfl)) | ((with_reducible apply wpl_loadcellN); (exact rfl); infer_instance; (exact rfl)))
  refine (wRaw_calls g A xs A2 n c ys w hw hr hn hx).mono ?_
  rintro e w5 ⟨rfl, A5, h5, h6, h7⟩
  go_wp2_with fail
  go_end0
  exact ⟨rfl, A5, h5.out, h6.out, h7.out⟩
set_option maxRecDepth 100000 in
theorem laidB_calls {A2 : Option Addr} {n c : Nat} {ys : List UInt8} {w : World} (hr : Rd w A2 (bs ys)) (hn : ys.length = n) :
    Calls Try.prog 211 #[.func (.func 212) #[] #[], .slice A2 n c] w fun e w' => ∃ f caps T, e = .returned (.func (.func f) #[] caps) ∧ Step nowhere w w' ∧ Lays w' T (.func (.func f) #[] caps) ys ∧ ∀ x, T x → w.heap.size ≤ x ∨ rowOf A2 x := by
  go_enter Try.func211, Try.ntmps211
  go_wp2_with (first | ((with_reducible apply (wpl_box (dst := some 2) (cs := #[.func (.func 212) #[] #[]]))); (exact rfl); (exact rfl); intro bl wbl _ _ _) | ((with_reducible apply (wpl_box_slice (dst := some 3))); (exact rfl); intro bv wbv _ _ _))
  go_ret
  have h1 : HB wbv bl 255 #[.func (.func 212) #[] #[]] := inferInstance
  have h2 : HB wbv bv 28 #[.slice A2 n c] := inferInstance
  have hst : Step nowhere w wbv := stepN
  have hbl : w.heap.size ≤ bl := Nat.le_of_eq (inferInstance : Born w bl).eq.symm
  have hbv : w.heap.size ≤ bv := by
    have e1 := (inferInstance : Born wbl bv).eq
    have e2 := (inferInstance : SzLe w wbl).out
    omega
  have hr2 := hr.later hst.chg
  refine ⟨_, _, fun x => x = bl ∨ x = bv ∨ (bs ys ≠ [] ∧ rowOf A2 x), rfl, hst, ⟨fun x hx => ?_, _, _, rfl, run_enter Try.func235 (by kernel_rfl) rfl, fun w1 g A xs hc hw hT hlen => ?_⟩, fun x hx => ?_⟩
  · rcases hx with rfl | rfl | ⟨hne, ad, e, hk⟩
    · exact h1.out.lt
    · exact h2.out.lt
    · rw [← hk]
      exact rd_lt hr2 hne e
  · have k1 : HB w1 bl 255 #[.func (.func 212) #[] #[]] := ⟨h1.out.chg hc (fun hk => hk (.inl rfl))⟩
    have k2 : HB w1 bv 28 #[.slice A2 n c] := ⟨h2.out.chg hc (fun hk => hk (.inr (.inl rfl)))⟩
    exact laidB1_calls rfl hw (hr2.chg hc (fun hne ad e hk => hk (.inr (.inr ⟨hne, ad, e, rfl⟩)))) hn (by omega)
  · rcases hx with rfl | rfl | ⟨hne, hk⟩
    · exact .inl hbl
    · exact .inl hbv
    · exact .inr hk
set_option maxRecDepth 100000 in
theorem fhash_calls (h : H32) (w : World) :
    Calls Try.prog 169 #[.agg (u8s h.l)] w fun e w' => ∃ f caps T, e = .returned (.func (.func f) #[] caps) ∧ Step nowhere w w' ∧ Lays w' T (.func (.func f) #[] caps) h.l ∧ ∀ x, T x → w.heap.size ≤ x := by
  go_enter Try.func169, Try.ntmps169
  go_wp2_with (first | ((with_reducible apply (wpl_box_agg (dst := some 1))); (exact rfl); intro zb wzb _ _ _) | ((with_reducible apply (wpl_box_int (dst := some 1))); (exact rfl); intro zb wzb _ _ _) | ((with_reducible apply (wpl_box_slice (dst := some 1))); (exact rfl); intro zb wzb _ _ _) | ((with_reducible apply (wpl_box_str (dst := some 1))); (exact rfl); intro zb wzb _ _ _) | ((with_reducible apply (wpl_box_bool (dst := some 1))); (exact rfl); intro zb wzb _ _ _) | ((with_reducible apply (wpl_box_ptr (dst := some 1))); (exact rfl); intro zb wzb _ _ _) | ((with_reducible apply wpl_box_agg); (exact rfl); intro z wz _ _ _) | ((with_reducible apply wpl_box_int); (exact rfl); intro z wz _ _ _) | ((with_reducible apply wpl_box_slice); (exact rfl); intro z wz _ _ _) | ((with_reducible apply wpl_box_str); (exact rfl); intro z wz _ _ _) | ((with_reducible apply wpl_box_bool); (exact rfl); intro z wz _ _ _) | ((with_reducible apply wpl_box_ptr); (exact rfl); intro z wz _ _ _))
  have hbz : HB wzb zb 78 (u8s h.l) := inferInstance
  have hz : zb = w.heap.size := (inferInstance : Born w zb).eq
  have hst : Step nowhere w wzb := stepN
  refine (laidB_calls (A2 := some ⟨zb, 0, none⟩) (n := 32) (c := 32) (ys := h.l) hbz.rdL h.len).mono ?_
  rintro e w5 ⟨f, caps, T, rfl, hs, hL, hT⟩
  go_wp2_with fail
  go_ret
  refine ⟨f, caps, T, rfl, ⟨hst.chg.trans hs.chg (fun _ _ h => h)⟩, hL, fun x hx => ?_⟩
  rcases hT x hx with h | ⟨ad, e, hk⟩
  · exact Nat.le_trans hst.chg.size h
  · injection e with e
    subst e
    have hk' : zb = x := hk
    omega
end Go.Proofs.Ythcleccofccbdaa
end
section
open Go Go.RowKit
namespace Go.Proofs.Ythcleccofccbdaa
def goodB (b : UInt8) : Bool := (decide (97 ≤ b.toNat) && decide (b.toNat ≤ 122)) || (decide (48 ≤ b.toNat) && decide (b.toNat ≤ 57)) || decide (b.toNat = 45)
def nameL (l : List UInt8) : Bool := decide (1 ≤ l.length) && decide (l.length ≤ 12) && l.all goodB
section
variable {P : Program} {ops : Array Oper} {rest : List Oper} {a : Act} {w : World} {Q : Exit → Act → World → Prop} {dst : Option Tmp} {ty : TypeId} {pos : String} {after : Array Edge}
end
end Go.Proofs.Ythcleccofccbdaa
end
