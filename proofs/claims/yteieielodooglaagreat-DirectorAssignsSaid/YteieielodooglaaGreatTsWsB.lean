/- Byte, WrA, WrB, WrC, WrD, WnA, WnB, WsA, WsB -/
import Derived.Test.YteieielodooglaaGreatTsBase
import Derived.Test.YteieielodooglaaGreatTsHasW
import Derived.Test.YteieielodooglaaGreatTsOcW
import Derived.Laws.IdiomStrings
section
open Go Go.RowKit
namespace Go.Proofs.YteieielodooglaaGreat
section
variable {P : Program} {ops : Array Oper} {rest : List Oper} {a : Act} {w : World} {Q : Exit → Act → World → Prop} {dst : Option Tmp} {ty : TypeId} {pos : String} {after : Array Edge} {gd : Option (Nat × Bool)}
/-- the address of a byte in a slice -/
theorem ev_indexB {t : TypeId} {x ix : Operand} {A : Option Addr} {n c k : Nat} (hx : a.eval x = .slice A n c) (hi : a.eval ix = .int .i64 (k : Int)) {e : TypeId} {bytes : Nat} {z : Value} (E : ElemT P t e 1 bytes z) {xs : List UInt8} (hr : HR w A (bs xs)) (hl : xs.length = n) (h1 : k < n) :
    (execOp a.eval ⟨dst, .indexAddr t x ix, ty, pos, after, gd⟩).run P w = .ok (.value (ptrOf A k)) w := by
  obtain ⟨ad, hA, _⟩ := hr.out.lt (by rw [bs_length, hl]; omega)
  obtain ⟨ti, hti, hz, hsz, hb⟩ := info_parts E.out.info
  show ((Instr.indexAt t (a.eval x) (a.eval ix)) >>= fun v => pure (Next.value v)).run P w = _
  rw [hx, hi, hA]
  simp [Instr.indexAt, asIntOf, run_underlying E.out.under, sizeOf, typeInfo, hti, hsz, h1, ptrOf, shift]
theorem ev_loadB {t : TypeId} {x : Operand} {A : Option Addr} {k : Nat} (hx : a.eval x = ptrOf A k) {xs : List UInt8} (hr : HR w A (bs xs)) (ht : CellT P t) (hk : k < xs.length) :
    (execOp a.eval ⟨dst, .load t x, ty, pos, after, gd⟩).run P w = .ok (.value (.int .u8 ((bget xs k).toNat : Int))) w := by
  obtain ⟨ad, b, hA, hb, hc⟩ := hr.out.byte hk
  have e : bget xs k = b := by simp [bget, List.getD_eq_getElem?_getD, hb]
  show ((Instr.loadAt t (a.eval x)) >>= fun v => pure (Next.value v)).run P w = _
  rw [hx, hA, e]
  simp [ptrOf, shift, Instr.loadAt, Instr.sureAddr, loadVar, ht.agg w, hc]
theorem wpl_indexB {t : TypeId} {x ix : Operand} {A : Option Addr} {n c k : Nat} (hx : a.eval x = .slice A n c) (hi : a.eval ix = .int .i64 (k : Int)) {e : TypeId} {bytes : Nat} {z : Value} (E : ElemT P t e 1 bytes z) {xs : List UInt8} (hr : HR w A (bs xs)) (hl : xs.length = n) (h1 : k < n)
    (h : wpList P ops Q rest (a.put dst (ptrOf A k)) w) : wpList P ops Q (⟨dst, .indexAddr t x ix, ty, pos, after, none⟩ :: rest) a w := wpl_of_run rfl (ev_indexB hx hi E hr hl h1) h
theorem wpl_loadB {t : TypeId} {x : Operand} {A : Option Addr} {k : Nat} (hx : a.eval x = ptrOf A k) {xs : List UInt8} (hr : HR w A (bs xs)) (ht : CellT P t) (hk : k < xs.length)
    (h : wpList P ops Q rest (a.put dst (.int .u8 ((bget xs k).toNat : Int))) w) : wpList P ops Q (⟨dst, .load t x, ty, pos, after, none⟩ :: rest) a w := wpl_of_run rfl (ev_loadB hx hr ht hk) h
end
theorem beqF {a b : Int} (h : ¬ a = b) : (a == b) = false := by simpa using h
theorem beqT {a b : Int} (h : a = b) : (a == b) = true := by simpa using h
end Go.Proofs.YteieielodooglaaGreat
end
section
open Go Go.RowKit
namespace Go.Proofs.YteieielodooglaaGreat
/-- fv is a closure that lays ys, whatever Writer it is handed, as long as the blocks T stand as in w -/
structure Lays (w : World) (T : Nat → Prop) (fv : Value) (ys : List UInt8) : Prop where
  low : ∀ x, T x → x < w.heap.size
  run : ∃ f caps, fv = .func (.func f) #[] caps ∧ (∀ args w2, (callFunc f args).run Tryz.prog w2 = .ok (.enter f args) w2) ∧ ∀ w1 g A xs, Chg (fun x => ¬ T x) w w1 → WrAt w1 g A xs → (∀ x, Wf g A x → ¬ T x) → xs.length + ys.length ≤ 1000000000 →
    Calls Tryz.prog f (#[.pointer (some ⟨g, 0, none⟩)] ++ caps) w1 fun e w' => e = .returned (.tuple #[]) ∧ ∃ A', WrAt w' g A' (xs ++ ys) ∧ Chg (Wf g A) w1 w' ∧ Moved w1 A A'
theorem run_enter {P : Program} {f : FuncId} {fn : Func} {c : Code} (hf : P.funcs[f]? = some fn) (hname : (fn.name == "runtime.NumGoroutine") = false) (hb : fn.body = some c) (args : Array Value) (w : World) :
    (callFunc f args).run P w = .ok (.enter f args) w := by
  have h1 : fn.name ≠ "runtime.NumGoroutine" := by simpa using hname
  simp [callFunc, hf, h1, hb]
theorem Lays.later {w w' : World} {T S : Nat → Prop} {fv : Value} {ys : List UInt8} (h : Lays w T fv ys) (hc : Chg S w w') (hS : ∀ x, T x → ¬ S x) : Lays w' T fv ys := by
  obtain ⟨f, caps, e, hent, hrun⟩ := h.run
  refine ⟨fun x hx => Nat.lt_of_lt_of_le (h.low x hx) hc.size, f, caps, e, hent, fun w1 g A xs h1 h2 h3 h4 => hrun w1 g A xs ?_ h2 h3 h4⟩
  exact (hc.mono (fun x _ hk hT => hS x hT hk)).trans h1 (fun _ _ hk => hk)
set_option maxRecDepth 100000 in
theorem laidI1_calls {w : World} {g bl bv n c : Nat} {A A2 : Option Addr} {xs : List UInt8} {vs : List Int} {fx : FuncId} {t1 t2 : TypeId} (hf : fx = 161) (hw : WrAt w g A xs) [hbl : HB w bl t1 #[.func (.func fx) #[] #[]]] [hbv : HB w bv t2 #[.slice A2 n c]] (hr : Rd w A2 (is64 vs)) (hn : vs.length = n) (hA2 : Apart (Wf g A) A2 (is64 vs)) (hx : xs.length + 9 * vs.length ≤ 1000000000000) :
    Calls Tryz.prog 193 #[.pointer (some ⟨g, 0, none⟩), .pointer (some ⟨bl, 0, none⟩), .pointer (some ⟨bv, 0, none⟩)] w fun e w' => e = .returned (.tuple #[]) ∧ ∃ A', WrAt w' g A' (xs ++ encAll vs) ∧ Chg (Wf g A) w w' ∧ Moved w A A' := by
  subst hf
  go_enter Tryz.func193, Tryz.ntmps193
  go_wp2_with (first | ((with_reducible apply wpl_loadrow); (exact rfl); infer_instance; infer_instance; (first | (with_reducible assumption) | (with_reducible exact H32.size _) | kernel_rfl)) | ((with_reducible apply wpl_loadcellN); (exact rfl); infer_instance; (exact rfl)))
  refine (Nums_calls g A xs A2 n c vs w hw hr hn hA2 hx).mono ?_
  rintro e w5 ⟨rfl, h5⟩
  go_wp2_with fail
  go_end0
  exact ⟨rfl, h5⟩
set_option maxRecDepth 100000 in
theorem laidI_calls {A2 : Option Addr} {n c : Nat} {vs : List Int} {w : World} (hr : Rd w A2 (is64 vs)) (hn : vs.length = n) (hlim : 9 * vs.length ≤ 1000000000) :
    Calls Tryz.prog 160 #[.func (.func 161) #[] #[], .slice A2 n c] w fun e w' => ∃ fv T, e = .returned fv ∧ Step nowhere w w' ∧ Lays w' T fv (encAll vs) ∧ ∀ x, T x → w.heap.size ≤ x ∨ rowOf A2 x := by
  go_enter Tryz.func160, Tryz.ntmps160
  go_wp2_with (first | ((with_reducible apply (wpl_box (dst := some 2) (cs := #[.func (.func 161) #[] #[]]))); (exact rfl); (exact rfl); intro bl wbl _ _ _) | ((with_reducible apply (wpl_box_slice (dst := some 3))); (exact rfl); intro bv wbv _ _ _))
  go_ret
  have h1 : HB wbv bl 246 #[.func (.func 161) #[] #[]] := inferInstance
  have h2 : HB wbv bv 244 #[.slice A2 n c] := inferInstance
  have hst : Step nowhere w wbv := stepN
  have hbl : w.heap.size ≤ bl := Nat.le_of_eq (inferInstance : Born w bl).eq.symm
  have hbv : w.heap.size ≤ bv := by
    have e1 := (inferInstance : Born wbl bv).eq
    have e2 := (inferInstance : SzLe w wbl).out
    omega
  have hr2 := hr.later hst.chg
  refine ⟨_, fun x => x = bl ∨ x = bv ∨ (is64 vs ≠ [] ∧ rowOf A2 x), rfl, hst, ⟨fun x hx => ?_, _, _, rfl, run_enter Tryz.func193 (by kernel_rfl) rfl, fun w1 g A xs hc hw hT hlen => ?_⟩, fun x hx => ?_⟩
  · rcases hx with rfl | rfl | ⟨hne, ad, e, hk⟩
    · exact h1.out.lt
    · exact h2.out.lt
    · rw [← hk]
      exact rd_lt hr2 hne e
  · have k1 : HB w1 bl 246 #[.func (.func 161) #[] #[]] := ⟨h1.out.chg hc (fun hk => hk (.inl rfl))⟩
    have k2 : HB w1 bv 244 #[.slice A2 n c] := ⟨h2.out.chg hc (fun hk => hk (.inr (.inl rfl)))⟩
    have hl := encAll_len vs
    exact laidI1_calls rfl hw (hr2.chg hc (fun hne ad e hk => hk (.inr (.inr ⟨hne, ad, e, rfl⟩)))) hn (fun hne ad e hk => hT _ hk (.inr (.inr ⟨hne, ad, e, rfl⟩))) (by omega)
  · rcases hx with rfl | rfl | ⟨hne, hk⟩
    · exact .inl hbl
    · exact .inl hbv
    · exact .inr hk
set_option maxRecDepth 100000 in
theorem nums_calls {A2 : Option Addr} {n c : Nat} {vs : List Int} {w : World} (hr : Rd w A2 (is64 vs)) (hn : vs.length = n) (hlim : 9 * vs.length ≤ 1000000000) :
    Calls Tryz.prog 106 #[.slice A2 n c] w fun e w' => ∃ fv T, e = .returned fv ∧ Step nowhere w w' ∧ Lays w' T fv (encAll vs) ∧ ∀ x, T x → w.heap.size ≤ x ∨ rowOf A2 x := by
  go_enter Tryz.func106, Tryz.ntmps106
  go_wp2_with fail
  refine (laidI_calls (A2 := A2) (c := c) hr hn hlim).mono ?_
  rintro e w5 ⟨fv, T, rfl, hs, hL, hT⟩
  go_wp2_with fail
  go_ret
  exact ⟨fv, T, rfl, hs, hL, hT⟩
end Go.Proofs.YteieielodooglaaGreat
end
section
open Go Go.RowKit
namespace Go.Proofs.YteieielodooglaaGreat
structure Fld where
  fv : Value
  T : Nat → Prop
  ys : List UInt8
def fvs (l : List Fld) : List Value := l.map (·.fv)
def allYs (l : List Fld) : List UInt8 := l.flatMap (·.ys)
def gf (l : List Fld) (k : Nat) : Fld := l.getD k ⟨.nilFunc, nowhere, []⟩
theorem gf_mem (l : List Fld) (k : Nat) (h : k < l.length) : gf l k ∈ l := by
  simp [gf, List.getD_eq_getElem?_getD, h]
theorem fvs_at {l : List Fld} {k : Nat} (h : k < l.length) : (fvs l)[k]? = some (gf l k).fv := by
  simp [fvs, gf, List.getD_eq_getElem?_getD, h]
theorem allYs_take (l : List Fld) (k : Nat) (h : k < l.length) : allYs (l.take (k + 1)) = allYs (l.take k) ++ (gf l k).ys := by
  rw [List.take_add_one, List.getElem?_eq_getElem h]
  unfold allYs
  rw [List.flatMap_append]
  simp [gf, List.getD_eq_getElem?_getD, h]
theorem allYs_le (l : List Fld) (k : Nat) (h : k < l.length) : (allYs (l.take k)).length + (gf l k).ys.length ≤ (allYs l).length := by
  rw [← List.length_append, ← allYs_take l k h]
  have e : allYs l = allYs (l.take (k + 1)) ++ allYs (l.drop (k + 1)) := by
    unfold allYs
    rw [← List.flatMap_append, List.take_append_drop]
  rw [e, List.length_append]
  exact Nat.le_add_right _ _
set_option maxRecDepth 100000 in
theorem fields1_calls {w : World} {g bl n c : Nat} {A A2 : Option Addr} {xs : List UInt8} {l : List Fld} {t1 : TypeId} (hw : WrAt w g A xs) [hbl : HB w bl t1 #[.slice A2 n c]] (hr : Rd w A2 (fvs l)) (hn : l.length = n) (hA2 : Apart (Wf g A) A2 (fvs l))
    (hL : ∀ f ∈ l, Lays w f.T f.fv f.ys) (hT : ∀ f ∈ l, ∀ x, Wf g A x → ¬ f.T x) (hx : xs.length + (allYs l).length ≤ 1000000000) (hm : n ≤ 1000000000) :
    Calls Tryz.prog 159 #[.pointer (some ⟨g, 0, none⟩), .pointer (some ⟨bl, 0, none⟩)] w fun e w' => e = .returned (.tuple #[]) ∧ ∃ A', WrAt w' g A' (xs ++ allYs l) ∧ Chg (Wf g A) w w' ∧ Moved w A A' := by
  have HN := Lib.hid hn
  clear hn
  go_enter Tryz.func159, Tryz.ntmps159
  go_wp2_with (first | ((with_reducible apply wpl_loadrow); (exact rfl); infer_instance; infer_instance; (first | (with_reducible assumption) | (with_reducible exact H32.size _) | kernel_rfl)) | ((with_reducible apply wpl_loadcellN); (exact rfl); infer_instance; (exact rfl)))
  go_loopw [7] (fun iv wr => ∃ (k : Nat) (A1 : Option Addr), k ≤ n ∧ iv = .int .i64 (k : Int) ∧ WrAt wr g A1 (xs ++ allYs (l.take k)) ∧ Chg (Wf g A) w wr ∧ Moved w A A1) (fun iv _ => n - (intOf iv).toNat)
  case atStart => exact ⟨0, A, Nat.zero_le _, rfl, by simpa [allYs] using hw, Chg.refl _ _, Moved.refl _ _⟩
  case round =>
    obtain ⟨k, A1, hk, rfl, hW, hC, hM⟩ := hrel
    by_cases hlt : k < n
    · have hltI : (k : Int) < n := by omega
      have hkl : k < l.length := by have := HN.out; omega
      have hv := fvs_at hkl
      have hvl : 0 < (fvs l).length := by simp [fvs]; omega
      have hLk := hL _ (gf_mem l k hkl)
      have hTk := hT _ (gf_mem l k hkl)
      have hle := allYs_le l k hkl
      have htk := allYs_take l k hkl
      obtain ⟨⟨fv, T, ys⟩, hfl⟩ : ∃ x, gf l k = x := ⟨_, rfl⟩
      rw [hfl] at hv hLk hTk hle htk
      simp only at hv hLk hTk hle htk
      obtain ⟨f, caps, rfl, hent, hrun⟩ := hLk.run
      have hlow := hLk.low
      have hr1 : HR wr A2 (fvs l) := ⟨hr.chg hC hA2⟩
      have HV := Lib.hid hv
      have hcall := hrun wr g A1 (xs ++ allYs (l.take k)) (hC.mono (fun x _ hS hTx => hTk x hS hTx)) hW (fun x hx hTx => by
        rcases hM with rfl | ⟨ad, rfl, had⟩
        · exact hTk x hx hTx
        · rcases hx with rfl | ⟨ad', e, rfl⟩
          · exact hTk _ (.inl rfl) hTx
          · injection e with e
            subst e
            have := hlow _ hTx
            omega) (by rw [List.length_append]; omega)
      clear hle hv hfl hLk hlow
      go_wp2_with (first | ((with_reducible apply wpl_index1); (exact rfl); (exact rfl); infer_instance; (exact hr1); (exact hvl); (exact hlt)) | ((with_reducible apply wpl_load1); (exact rfl); (exact hr1); infer_instance; (exact HV.out)))
      refine hcall.mono ?_
      rintro e w5 ⟨rfl, A5, h5, hc5, hm5⟩
      have h6 := wf_trans hC hM hc5 hm5
      go_wp2_with fail
      refine ⟨⟨k + 1, A5, by omega, by simp, by rw [htk, ← List.append_assoc]; exact h5, h6.1, h6.2⟩, by simp [intOf]; omega⟩
    · obtain rfl : k = n := by omega
      have hltI : ¬ (k : Int) < k := by omega
      have hfin : l.take k = l := List.take_of_length_le (by have := HN.out; omega)
      rw [hfin] at hW
      go_wp2_with fail
      go_end0
      exact ⟨rfl, A1, hW, hC, hM⟩
end Go.Proofs.YteieielodooglaaGreat
end
section
open Go Go.RowKit
namespace Go.Proofs.YteieielodooglaaGreat
theorem HB.rdL {w : World} {z : Nat} {t : TypeId} {cs : Array Value} (h : HB w z t cs) : Rd w (some ⟨z, 0, none⟩) cs.toList := fun k u hk => by
  refine ⟨_, rfl, ?_⟩
  rw [add_row, h.out.cell k]
  simpa using hk
/-- a closure of one function -/
def fnV (f : FuncId) (caps : Array Value) : Value := .func (.func f) #[] caps
set_option maxRecDepth 100000 in
theorem fields_calls {A2 : Option Addr} {n c : Nat} {l : List Fld} {w : World} (hr : Rd w A2 (fvs l)) (hn : l.length = n) (hm : n ≤ 1000000000) (hL : ∀ f ∈ l, Lays w f.T f.fv f.ys) :
    Calls Tryz.prog 105 #[.slice A2 n c] w fun e w' => ∃ f caps T, e = .returned (.func (.func f) #[] caps) ∧ Step nowhere w w' ∧ Lays w' T (.func (.func f) #[] caps) (allYs l) ∧ ∀ x, T x → w.heap.size ≤ x ∨ (fvs l ≠ [] ∧ rowOf A2 x) ∨ ∃ f ∈ l, f.T x := by
  go_enter Tryz.func105, Tryz.ntmps105
  go_wp2_with (first | ((with_reducible apply (wpl_box_slice (dst := some 1))); (exact rfl); intro bl wbl _ _ _))
  go_ret
  have h1 : HB wbl bl 243 #[.slice A2 n c] := inferInstance
  have hst : Step nowhere w wbl := stepN
  have hbl : w.heap.size ≤ bl := Nat.le_of_eq (inferInstance : Born w bl).eq.symm
  have hr2 := hr.later hst.chg
  refine ⟨_, _, fun x => x = bl ∨ (fvs l ≠ [] ∧ rowOf A2 x) ∨ ∃ f ∈ l, f.T x, rfl, hst, ⟨fun x hx => ?_, _, _, rfl, run_enter Tryz.func159 (by kernel_rfl) rfl, fun w1 g A xs hc hw hT hlen => ?_⟩, fun x hx => ?_⟩
  · rcases hx with rfl | ⟨hne, ad, e, hk⟩ | ⟨f, hf, hx⟩
    · exact h1.out.lt
    · rw [← hk]
      exact rd_lt hr2 hne e
    · exact Nat.lt_of_lt_of_le ((hL f hf).low x hx) hst.chg.size
  · have k1 : HB w1 bl 243 #[.slice A2 n c] := ⟨h1.out.chg hc (fun hk => hk (.inl rfl))⟩
    exact fields1_calls hw (hr2.chg hc (fun hne ad e hk => hk (.inr (.inl ⟨hne, ad, e, rfl⟩)))) hn (fun hne ad e hk => hT _ hk (.inr (.inl ⟨hne, ad, e, rfl⟩)))
      (fun f hf => (((hL f hf).later hst.chg (fun _ _ h => h)).later hc (fun x hx hk => hk (.inr (.inr ⟨f, hf, hx⟩))))) (fun f hf x hx hk => hT x hx (.inr (.inr ⟨f, hf, hk⟩))) (by omega) hm
  · rcases hx with rfl | h | h
    · exact .inl hbl
    · exact .inr (.inl h)
    · exact .inr (.inr h)
set_option maxRecDepth 100000 in
theorem laidB1_calls {w : World} {g bl bv n c : Nat} {A A2 : Option Addr} {xs ys : List UInt8} {fx : FuncId} {t1 t2 : TypeId} (hf : fx = 176) (hw : WrAt w g A xs) [hbl : HB w bl t1 #[.func (.func fx) #[] #[]]] [hbv : HB w bv t2 #[.slice A2 n c]] (hr : Rd w A2 (bs ys)) (hn : ys.length = n) (hx : xs.length + ys.length ≤ 10000000000000) :
    Calls Tryz.prog 204 #[.pointer (some ⟨g, 0, none⟩), .pointer (some ⟨bl, 0, none⟩), .pointer (some ⟨bv, 0, none⟩)] w fun e w' => e = .returned (.tuple #[]) ∧ ∃ A', WrAt w' g A' (xs ++ ys) ∧ Chg (Wf g A) w w' ∧ Moved w A A' := by
  subst hf
  go_enter Tryz.func204, Tryz.ntmps204
  go_wp2_with (first | ((with_reducible apply wpl_loadrow); (exact rfl); infer_instance; infer_instance; (first | (with_reducible assumption) | (with_reducible exact H32.size _) | kernel_rfl)) | ((with_reducible apply wpl_loadcellN); (exact rfl); infer_instance; (exact rfl)))
  refine (wRaw_calls g A xs A2 n c ys w hw hr hn hx).mono ?_
  rintro e w5 ⟨rfl, A5, h5, h6, h7⟩
  go_wp2_with fail
  go_end0
  exact ⟨rfl, A5, h5.out, h6.out, h7.out⟩
set_option maxRecDepth 100000 in
theorem laidB_calls {A2 : Option Addr} {n c : Nat} {ys : List UInt8} {w : World} (hr : Rd w A2 (bs ys)) (hn : ys.length = n) :
    Calls Tryz.prog 175 #[.func (.func 176) #[] #[], .slice A2 n c] w fun e w' => ∃ f caps T, e = .returned (.func (.func f) #[] caps) ∧ Step nowhere w w' ∧ Lays w' T (.func (.func f) #[] caps) ys ∧ ∀ x, T x → w.heap.size ≤ x ∨ rowOf A2 x := by
  go_enter Tryz.func175, Tryz.ntmps175
  go_wp2_with (first | ((with_reducible apply (wpl_box (dst := some 2) (cs := #[.func (.func 176) #[] #[]]))); (exact rfl); (exact rfl); intro bl wbl _ _ _) | ((with_reducible apply (wpl_box_slice (dst := some 3))); (exact rfl); intro bv wbv _ _ _))
  go_ret
  have h1 : HB wbv bl 252 #[.func (.func 176) #[] #[]] := inferInstance
  have h2 : HB wbv bv 29 #[.slice A2 n c] := inferInstance
  have hst : Step nowhere w wbv := stepN
  have hbl : w.heap.size ≤ bl := Nat.le_of_eq (inferInstance : Born w bl).eq.symm
  have hbv : w.heap.size ≤ bv := by
    have e1 := (inferInstance : Born wbl bv).eq
    have e2 := (inferInstance : SzLe w wbl).out
    omega
  have hr2 := hr.later hst.chg
  refine ⟨_, _, fun x => x = bl ∨ x = bv ∨ (bs ys ≠ [] ∧ rowOf A2 x), rfl, hst, ⟨fun x hx => ?_, _, _, rfl, run_enter Tryz.func204 (by kernel_rfl) rfl, fun w1 g A xs hc hw hT hlen => ?_⟩, fun x hx => ?_⟩
  · rcases hx with rfl | rfl | ⟨hne, ad, e, hk⟩
    · exact h1.out.lt
    · exact h2.out.lt
    · rw [← hk]
      exact rd_lt hr2 hne e
  · have k1 : HB w1 bl 252 #[.func (.func 176) #[] #[]] := ⟨h1.out.chg hc (fun hk => hk (.inl rfl))⟩
    have k2 : HB w1 bv 29 #[.slice A2 n c] := ⟨h2.out.chg hc (fun hk => hk (.inr (.inl rfl)))⟩
    exact laidB1_calls rfl hw (hr2.chg hc (fun hne ad e hk => hk (.inr (.inr ⟨hne, ad, e, rfl⟩)))) hn (by omega)
  · rcases hx with rfl | rfl | ⟨hne, hk⟩
    · exact .inl hbl
    · exact .inl hbv
    · exact .inr hk
set_option maxRecDepth 100000 in
theorem fhash_calls (h : H32) (w : World) :
    Calls Tryz.prog 129 #[.agg (u8s h.l)] w fun e w' => ∃ f caps T, e = .returned (.func (.func f) #[] caps) ∧ Step nowhere w w' ∧ Lays w' T (.func (.func f) #[] caps) h.l ∧ ∀ x, T x → w.heap.size ≤ x := by
  go_enter Tryz.func129, Tryz.ntmps129
  go_wp2_with (first | ((with_reducible apply (wpl_box_agg (dst := some 1))); (exact rfl); intro zb wzb _ _ _) | ((with_reducible apply (wpl_box_int (dst := some 1))); (exact rfl); intro zb wzb _ _ _) | ((with_reducible apply (wpl_box_slice (dst := some 1))); (exact rfl); intro zb wzb _ _ _) | ((with_reducible apply (wpl_box_str (dst := some 1))); (exact rfl); intro zb wzb _ _ _) | ((with_reducible apply (wpl_box_bool (dst := some 1))); (exact rfl); intro zb wzb _ _ _) | ((with_reducible apply (wpl_box_ptr (dst := some 1))); (exact rfl); intro zb wzb _ _ _) | ((with_reducible apply wpl_box_agg); (exact rfl); intro z wz _ _ _) | ((with_reducible apply wpl_box_int); (exact rfl); intro z wz _ _ _) | ((with_reducible apply wpl_box_slice); (exact rfl); intro z wz _ _ _) | ((with_reducible apply wpl_box_str); (exact rfl); intro z wz _ _ _) | ((with_reducible apply wpl_box_bool); (exact rfl); intro z wz _ _ _) | ((with_reducible apply wpl_box_ptr); (exact rfl); intro z wz _ _ _))
  have hbz : HB wzb zb 23 (u8s h.l) := inferInstance
  have hz : zb = w.heap.size := (inferInstance : Born w zb).eq
  have hst : Step nowhere w wzb := stepN
  refine (laidB_calls (A2 := some ⟨zb, 0, none⟩) (n := 32) (c := 32) (ys := h.l) hbz.rdL h.len).mono ?_
  rintro e w5 ⟨f, caps, T, rfl, hs, hL, hT⟩
  go_wp2_with fail
  go_ret
  refine ⟨f, caps, T, rfl, ⟨hst.chg.trans hs.chg (fun _ _ h => h)⟩, hL, fun x hx => ?_⟩
  rcases hT x hx with h | ⟨ad, e, hk⟩
  · exact Nat.le_trans hst.chg.size h
  · injection e with e
    subst e
    have hk' : zb = x := hk
    omega
end Go.Proofs.YteieielodooglaaGreat
end
section
open Go Go.RowKit
namespace Go.Proofs.YteieielodooglaaGreat
theorem bs32 (h : H32) : (bs h.l).length = 32 := by rw [bs_length, H32.len]
section
variable {P : Program} {ops : Array Oper} {a : Act} {w : World} {dst : Option Tmp} {ty : TypeId} {pos : String} {after : Array Edge} {gd : Option (Nat × Bool)}
/-- a part of a struct, an array or a struct itself -/
theorem ev_loadMid {t : TypeId} {x : Operand} {g k n : Nat} (hx : a.eval x = .pointer (some ⟨g, k, none⟩)) {tb : TypeId} {cs : Array Value} (hb : HB w g tb cs) (ht : RowT P t n) {part : List Value} (hc : (cs.toList.drop k).take n = part) (hn : part.length = n) (hp : 0 < n) :
    (execOp a.eval ⟨dst, .load t x, ty, pos, after, gd⟩).run P w = .ok (.value (.agg part.toArray)) w := by
  have hr := hb.rdL
  have e : (Value.pointer (some (⟨g, k, none⟩ : Addr))) = ptrOf (some ⟨g, 0, none⟩) k := by rw [ptrOf, shift_some, add_row]
  show ((Instr.loadAt t (a.eval x)) >>= fun v => pure (Next.value v)).run P w = _
  rw [hx, e, Sem.run_bind, run_loadshift (k := k) (cs := part) hr ht hn hc hp]
  rfl
end
def timL (v e s : Int) (h : H32) : List Value := .int .i64 v :: .int .i64 e :: .int .i64 s :: bs h.l
theorem run_int1 (a : Int) (w : World) : (Instr.buildSlice 244 1 #[(0, .int .i64 a)]).run Tryz.prog w = .ok (.slice (some ⟨w.heap.size, 0, none⟩) 1 1) (w.alloc (.cells #[.int .i64 a] 3)) := by kernel_rfl
theorem run_fld2 (f1 f2 : FuncId) (c1 c2 : Array Value) (w : World) : (Instr.buildSlice 243 2 #[(0, .func (.func f1) #[] c1), (1, .func (.func f2) #[] c2)]).run Tryz.prog w = .ok (.slice (some ⟨w.heap.size, 0, none⟩) 2 2) (w.alloc (.cells #[.func (.func f1) #[] c1, .func (.func f2) #[] c2] 191)) := by kernel_rfl
theorem numsC {z n c : Nat} {vs : List Int} {w : World} {t : TypeId} {cs : Array Value} [h : HB w z t cs] (hcs : cs = (is64 vs).toArray) (hn : vs.length = n) (hlim : 9 * vs.length ≤ 1000000000) :
    Calls Tryz.prog 106 #[.slice (some ⟨z, 0, none⟩) n c] w fun e w' => ∃ f caps T, e = .returned (.func (.func f) #[] caps) ∧ Step nowhere w w' ∧ Lays w' T (.func (.func f) #[] caps) (encAll vs) ∧ ∀ x, T x → w.heap.size ≤ x ∨ x = z := by
  have hr := h.rdL
  rw [hcs] at hr
  refine (nums_calls (A2 := some ⟨z, 0, none⟩) (c := c) (by simpa using hr) hn hlim).mono ?_
  rintro e w' ⟨fv, T, rfl, hs, hL, hT⟩
  obtain ⟨f, caps, rfl, _, _⟩ := hL.run
  refine ⟨f, caps, T, rfl, hs, hL, fun x hx => ?_⟩
  rcases hT x hx with h | ⟨ad, e, hk⟩
  · exact .inl h
  · injection e with e
    subst e
    exact .inr hk.symm
/-- two fields, one behind the other -/
theorem fields2 {z c : Nat} {f1 f2 : FuncId} {c1 c2 : Array Value} {T1 T2 : Nat → Prop} {y1 y2 : List UInt8} {w : World} {t : TypeId} [h : HB w z t #[.func (.func f1) #[] c1, .func (.func f2) #[] c2]] (h1 : Lays w T1 (.func (.func f1) #[] c1) y1) (h2 : Lays w T2 (.func (.func f2) #[] c2) y2) :
    Calls Tryz.prog 105 #[.slice (some ⟨z, 0, none⟩) 2 c] w fun e w' => ∃ f caps T, e = .returned (.func (.func f) #[] caps) ∧ Step nowhere w w' ∧ Lays w' T (.func (.func f) #[] caps) (y1 ++ y2) ∧ ∀ x, T x → w.heap.size ≤ x ∨ x = z ∨ T1 x ∨ T2 x := by
  have hr := h.rdL
  refine (fields_calls (A2 := some ⟨z, 0, none⟩) (c := c) (l := [⟨_, T1, y1⟩, ⟨_, T2, y2⟩]) hr rfl (show 2 ≤ 1000000000 by decide) ?_).mono ?_
  · intro f hf
    simp only [List.mem_cons, List.not_mem_nil, or_false] at hf
    rcases hf with rfl | rfl
    · exact h1
    · exact h2
  · rintro e w' ⟨f, caps, T, rfl, hs, hL, hT⟩
    refine ⟨f, caps, T, rfl, hs, ?_, fun x hx => ?_⟩
    · have e2 : allYs [⟨Value.func (.func f1) #[] c1, T1, y1⟩, ⟨Value.func (.func f2) #[] c2, T2, y2⟩] = y1 ++ y2 := by simp [allYs]
      rwa [e2] at hL
    · rcases hT x hx with h | ⟨_, ad, e, hk⟩ | ⟨f, hf, hk⟩
      · exact .inl h
      · injection e with e
        subst e
        exact .inr (.inl hk.symm)
      · simp only [List.mem_cons, List.not_mem_nil, or_false] at hf
        rcases hf with rfl | rfl
        · exact .inr (.inr (.inl hk))
        · exact .inr (.inr (.inr hk))
def numB (n : Int) : Bool := decide (0 ≤ n) && decide (n ≤ 1073741824)
def verB (n : Int) : Bool := decide (1 ≤ n) && decide (n ≤ 1073741824)
theorem number_calls (n : Int) (w : World) : Calls Tryz.prog 109 #[.int .i64 n] w fun e w' => e = .returned (.bool (numB n)) ∧ Step nowhere w w' := by
  by_cases h1 : 0 ≤ n
  · by_cases h2 : n ≤ 1073741824
    · have e : numB n = true := by simp [numB, h1, h2]
      rw [e]
      clear e
      go_enter Tryz.func109, Tryz.ntmps109
      go_wp2_with fail
      go_ret
      exact ⟨rfl, stepN⟩
    · have e : numB n = false := by simp [numB, h2]
      rw [e]
      clear e
      go_enter Tryz.func109, Tryz.ntmps109
      go_wp2_with fail
      go_ret
      exact ⟨rfl, stepN⟩
  · have e : numB n = false := by simp [numB, h1]
    rw [e]
    clear e
    go_enter Tryz.func109, Tryz.ntmps109
    go_wp2_with fail
    go_ret
    exact ⟨rfl, stepN⟩
theorem version_calls (n : Int) (w : World) : Calls Tryz.prog 108 #[.int .i64 n] w fun e w' => e = .returned (.bool (verB n)) ∧ Step nowhere w w' := by
  by_cases h1 : 1 ≤ n
  · by_cases h2 : n ≤ 1073741824
    · have e : verB n = true := by simp [verB, h1, h2]
      rw [e]
      clear e
      go_enter Tryz.func108, Tryz.ntmps108
      go_wp2_with fail
      go_ret
      exact ⟨rfl, stepN⟩
    · have e : verB n = false := by simp [verB, h2]
      rw [e]
      clear e
      go_enter Tryz.func108, Tryz.ntmps108
      go_wp2_with fail
      go_ret
      exact ⟨rfl, stepN⟩
  · have e : verB n = false := by simp [verB, h1]
    rw [e]
    clear e
    go_enter Tryz.func108, Tryz.ntmps108
    go_wp2_with fail
    go_ret
    exact ⟨rfl, stepN⟩
def timB (v e s : Int) : Bool := verB v && numB e && verB s
/-- what encode answers -/
def EncPost (ok : Bool) (bytes : List UInt8) (w : World) : Ending → World → Prop := fun e w' => Step nowhere w w' ∧
  if ok then ∃ A n c, e = .returned (.tuple #[.slice A n c, .int .i64 0]) ∧ n = bytes.length ∧ HO w' 5 1 A n c (bs bytes) ∧ NewA w A
  else e = .returned (.tuple #[.slice none 0 0, .int .i64 1])
end Go.Proofs.YteieielodooglaaGreat
end
section
open Go Go.RowKit
namespace Go.Proofs.YteieielodooglaaGreat
def goodB (b : UInt8) : Bool := (decide (97 ≤ b.toNat) && decide (b.toNat ≤ 122)) || (decide (48 ≤ b.toNat) && decide (b.toNat ≤ 57)) || decide (b.toNat = 45)
def nameL (l : List UInt8) : Bool := decide (1 ≤ l.length) && decide (l.length ≤ 12) && l.all goodB
section
variable {P : Program} {ops : Array Oper} {rest : List Oper} {a : Act} {w : World} {Q : Exit → Act → World → Prop} {dst : Option Tmp} {ty : TypeId} {pos : String} {after : Array Edge}
/-- a text's bytes, in memory of their own -/
theorem wpl_strB {src td e : TypeId} {x : Operand} {s : ByteArray} {l : List UInt8} (hx : a.eval x = .string s) (hl : s.data.toList = l) (hs : P.underlying src = some .string) (hd : P.underlying td = some (.slice e)) (he : P.underlying e = some (.int .u8))
    (h : ∀ A c w', Step nowhere w w' → HR w' A (bs l) → wpList P ops Q rest (a.put dst (.slice A l.length c)) w') : wpList P ops Q (⟨dst, .convert src td x, ty, pos, after, none⟩ :: rest) a w := by
  subst hl
  have hsz : s.size = s.data.toList.length := (Array.length_toList (xs := s.data)).symm
  refine wpl_of_run rfl ?_ (h (some ⟨w.heap.size, 0, none⟩) (grownCap w s.size 0 e) (w.drew.alloc (.cells (bytesRow s (grownCap w s.size 0 e)) e ((bytesRow s (grownCap w s.size 0 e)).size, (bytesRow s (grownCap w s.size 0 e)).size + 1))) ⟨(Chg.refl _ _).drew.alloc _⟩ ⟨?_⟩)
  · show ((convert src td (a.eval x)) >>= fun v => pure (Next.value v)).run P w = _
    rw [hx, Sem.run_bind, run_bytes_of_string w src td e s hs hd he, ← hsz]
    rfl
  · have h1 := Rd.lit w.drew (bytesRow s (grownCap w s.size 0 e)).toList e (f := ((bytesRow s (grownCap w s.size 0 e)).size, (bytesRow s (grownCap w s.size 0 e)).size + 1))
    rw [Array.toArray_toList] at h1
    intro k u hk
    refine h1 k u ?_
    have h2 : (bytesRow s (grownCap w s.size 0 e)).toList = bs s.data.toList ++ List.replicate (grownCap w s.size 0 e - s.size) (.int .u8 0) := by
      unfold bytesRow bs u8v
      rw [Array.toList_append, Array.toList_map, Array.toList_replicate]
    rw [h2, List.getElem?_append_left (List.getElem?_eq_some_iff.1 hk).1]
    exact hk
theorem wpl_loadBv {t : TypeId} {x : Operand} {A : Option Addr} {k v : Nat} {xs : List UInt8} (hv : (bget xs k).toNat = v) (hx : a.eval x = ptrOf A k) (hr : HR w A (bs xs)) (ht : CellT P t) (hk : k < xs.length)
    (h : wpList P ops Q rest (a.put dst (.int .u8 (v : Int))) w) : wpList P ops Q (⟨dst, .load t x, ty, pos, after, none⟩ :: rest) a w := by
  subst hv
  exact wpl_loadB hx hr ht hk h
end
theorem all_take (l : List UInt8) (k : Nat) (h : k < l.length) : (l.take (k + 1)).all goodB = ((l.take k).all goodB && goodB (bget l k)) := by
  rw [List.take_add_one, List.getElem?_eq_getElem h, List.all_append]
  simp [bget, List.getD_eq_getElem?_getD, h]
theorem all_no (l : List UInt8) (k : Nat) (h : k < l.length) (hb : goodB (bget l k) = false) : l.all goodB = false := by
  rw [List.all_eq_false]
  refine ⟨l[k], List.getElem_mem _, ?_⟩
  have : bget l k = l[k] := by simp [bget, List.getD_eq_getElem?_getD, h]
  rw [← this, hb]
  decide
set_option maxRecDepth 100000 in
set_option maxHeartbeats 1600000 in
theorem wname_calls (s : ByteArray) (l : List UInt8) (hs : s.data.toList = l) (w : World) :
    Calls Tryz.prog 49 #[.string s] w fun e w' => e = .returned (.bool (nameL l)) ∧ Step nowhere w w' := by
  have hsz : s.size = l.length := by rw [← hs]; exact (Array.length_toList (xs := s.data)).symm
  obtain ⟨n, hn⟩ : ∃ n, l.length = n := ⟨_, rfl⟩
  rw [hn] at hsz
  by_cases c1 : n = 0 ∨ 12 < n
  · have hb : nameL l = false := by
      unfold nameL
      rw [hn]
      rcases c1 with rfl | h
      · rfl
      · rw [decide_eq_false (by omega : ¬ n ≤ 12), Bool.and_false, Bool.false_and]
    rw [hb]
    have q : ((s.size : Int) == 0) = true ∨ (((s.size : Int) == 0) = false ∧ 12 < (s.size : Int)) := by
      rcases c1 with h | h
      · exact .inl (beqT (by omega))
      · exact .inr ⟨beqF (by omega), by omega⟩
    clear c1 hb hn hsz
    go_enter Tryz.func49, Tryz.ntmps49
    rcases q with q1 | ⟨q1, q2⟩
    all_goals
      go_wp2_with fail
      go_ret
      exact ⟨rfl, stepN⟩
  · have q1 : ((s.size : Int) == 0) = false := beqF (by omega)
    have q2 : ¬ 12 < (s.size : Int) := by omega
    have n1 : 1 ≤ n := by omega
    have n2 : n ≤ 12 := by omega
    have HN := Lib.hid hn
    have HSZ := Lib.hid hsz
    clear c1 hn hsz
    go_enter Tryz.func49, Tryz.ntmps49
    go_wp2_with (first | ((with_reducible apply (wpl_strB (l := l))); (exact rfl); (exact hs); (exact Tryz.underlying9); (exact Tryz.underlying29); (exact Tryz.underlying5); intro B cB wB _ _))
    have hln : l.length = n := HN.out
    rw [hln]
    go_loopw [16] (fun iv wr => ∃ k : Nat, k ≤ n ∧ iv = .int .i64 (k : Int) ∧ Step nowhere w wr ∧ HR wr B (bs l) ∧ Hid ((l.take k).all goodB = true)) (fun iv _ => n - (intOf iv).toNat)
    case atStart => exact ⟨0, Nat.zero_le _, rfl, stepN, inferInstance, Lib.hid rfl⟩
    case round =>
      obtain ⟨k, hk, rfl, _, _, HA⟩ := hrel
      by_cases hlt : k < n
      · have hltI : (k : Int) < n := by omega
        have hkl : k < l.length := by omega
        obtain ⟨v, hv⟩ : ∃ v, (bget l k).toNat = v := ⟨_, rfl⟩
        have hg : goodB (bget l k) = ((decide (97 ≤ v) && decide (v ≤ 122)) || (decide (48 ≤ v) && decide (v ≤ 57)) || decide (v = 45)) := by unfold goodB; rw [hv]
        have HV := Lib.hid hv
        have hcase : (goodB (bget l k) = true ∧ ((97 ≤ (v : Int) ∧ (v : Int) ≤ 122) ∨ (¬ 97 ≤ (v : Int) ∧ 48 ≤ (v : Int) ∧ (v : Int) ≤ 57) ∨ (¬ 97 ≤ (v : Int) ∧ ¬ 48 ≤ (v : Int) ∧ ((v : Int) == 45) = true))) ∨ (goodB (bget l k) = false ∧ ((97 ≤ (v : Int) ∧ ¬ (v : Int) ≤ 122 ∧ 48 ≤ (v : Int) ∧ ¬ (v : Int) ≤ 57 ∧ ((v : Int) == 45) = false) ∨ (¬ 97 ≤ (v : Int) ∧ 48 ≤ (v : Int) ∧ ¬ (v : Int) ≤ 57 ∧ ((v : Int) == 45) = false) ∨ (¬ 97 ≤ (v : Int) ∧ ¬ 48 ≤ (v : Int) ∧ ((v : Int) == 45) = false))) := by
          rw [hg]
          by_cases a1 : 97 ≤ v
          · by_cases a2 : v ≤ 122
            · exact .inl ⟨by simp [a1, a2], .inl ⟨by omega, by omega⟩⟩
            · exact .inr ⟨by simp [a1, a2]; omega, .inl ⟨by omega, by omega, by omega, by omega, beqF (by omega)⟩⟩
          · by_cases a3 : 48 ≤ v
            · by_cases a4 : v ≤ 57
              · exact .inl ⟨by simp [a3, a4], .inr (.inl ⟨by omega, by omega, by omega⟩)⟩
              · exact .inr ⟨by simp [a1, a4]; omega, .inr (.inl ⟨by omega, by omega, by omega, beqF (by omega)⟩)⟩
            · by_cases a5 : v = 45
              · exact .inl ⟨by simp [a5], .inr (.inr ⟨by omega, by omega, beqT (by omega)⟩)⟩
              · exact .inr ⟨by simp [a1, a3, a5], .inr (.inr ⟨by omega, by omega, beqF (by omega)⟩)⟩
        clear hg hv
        rcases hcase with ⟨hg, hc⟩ | ⟨hb, hc⟩
        · have HA2 := Lib.hid (show (l.take (k + 1)).all goodB = true by rw [all_take l k hkl, HA.out, hg]; rfl)
          clear hg
          rcases hc with ⟨a1, a2⟩ | ⟨a1, a2, a3⟩ | ⟨a1, a2, a3⟩
          all_goals
            go_wp2_with (first | go_skip | ((with_reducible apply wpl_indexB); (exact rfl); (exact rfl); infer_instance; infer_instance; (exact hln); (exact hlt)) | ((with_reducible apply (wpl_loadBv (t := 5) HV.out)); (exact rfl); infer_instance; infer_instance; (exact hkl)))
            refine ⟨⟨k + 1, by omega, by simp, stepN, inferInstance, HA2⟩, by simp [intOf]; omega⟩
        · have hres : nameL l = false := by
            unfold nameL
            rw [all_no l k hkl hb, Bool.and_false]
          have HR1 := Lib.hid hres
          clear hb hres
          rcases hc with ⟨a1, a2, a3, a4, a5⟩ | ⟨a1, a2, a3, a5⟩ | ⟨a1, a2, a5⟩
          all_goals
            go_wp2_with (first | go_skip | ((with_reducible apply wpl_indexB); (exact rfl); (exact rfl); infer_instance; infer_instance; (exact hln); (exact hlt)) | ((with_reducible apply (wpl_loadBv (t := 5) HV.out)); (exact rfl); infer_instance; infer_instance; (exact hkl)))
            go_ret
            exact ⟨congrArg (fun b => Ending.returned (.bool b)) HR1.out.symm, stepN⟩
      · obtain rfl : k = n := by omega
        have hltI : ¬ (k : Int) < k := by omega
        have hres : nameL l = true := by
          unfold nameL
          have h1 := HA.out
          rw [List.take_of_length_le (by omega)] at h1
          rw [HN.out, h1, decide_eq_true n1, decide_eq_true n2]
          rfl
        have HR1 := Lib.hid hres
        clear hres
        go_wp2_with fail
        go_ret
        exact ⟨congrArg (fun b => Ending.returned (.bool b)) HR1.out.symm, stepN⟩
end Go.Proofs.YteieielodooglaaGreat
end
section
open Go Go.RowKit
namespace Go.Proofs.YteieielodooglaaGreat
section
variable {P : Program} {ops : Array Oper} {rest : List Oper} {a : Act} {w : World} {Q : Exit → Act → World → Prop} {dst : Option Tmp} {ty : TypeId} {pos : String} {after : Array Edge}
end
end Go.Proofs.YteieielodooglaaGreat
end
section
open Go Go.RowKit
namespace Go.Proofs.YteieielodooglaaGreat
instance iWsA_1 : CellT Tryz.prog 88 := ⟨fun _ => by kernel_rfl, fun _ => by kernel_rfl⟩
instance iWsA_2 : RowT Tryz.prog 90 3 := ⟨by kernel_rfl, _, Tryz.underlying90, rfl⟩
def snapV (v e : Int) : Array Value := #[.int .i64 v, .int .i64 e, .slice none 0 0]
def snapB (v e : Int) : Bool := verB v && numB e
end Go.Proofs.YteieielodooglaaGreat
end
section
open Go Go.RowKit
namespace Go.Proofs.YteieielodooglaaGreat
theorem run_int2 (a b : Int) (w : World) : (Instr.buildSlice 244 2 #[(0, .int .i64 a), (1, .int .i64 b)]).run Tryz.prog w = .ok (.slice (some ⟨w.heap.size, 0, none⟩) 2 2) (w.alloc (.cells #[.int .i64 a, .int .i64 b] 3)) := by kernel_rfl
end Go.Proofs.YteieielodooglaaGreat
end
