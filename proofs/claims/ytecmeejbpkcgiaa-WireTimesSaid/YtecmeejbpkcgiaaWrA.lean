/- Fields of a record: closures that lay bytes. -/
import Derived.Test.YtecmeejbpkcgiaaTyW
import Derived.Test.YtecmeejbpkcgiaaByte
import Derived.Test.YtecmeejbpkcgiaaOcW
open Go Go.RowKit
namespace Go.Proofs.Ytecmeejbpkcgiaa
/-- fv is a closure that lays ys, whatever Writer it is handed, as long as the blocks T stand as in w -/
structure Lays (w : World) (T : Nat → Prop) (fv : Value) (ys : List UInt8) : Prop where
  low : ∀ x, T x → x < w.heap.size
  run : ∃ f caps, fv = .func (.func f) #[] caps ∧ (∀ args w2, (callFunc f args).run Try.prog w2 = .ok (.enter f args) w2) ∧ ∀ w1 g A xs, Chg (fun x => ¬ T x) w w1 → WrAt w1 g A xs → (∀ x, Wf g A x → ¬ T x) → xs.length + ys.length ≤ 1000000000 →
    Calls Try.prog f (#[.pointer (some ⟨g, 0, none⟩)] ++ caps) w1 fun e w' => e = .returned (.tuple #[]) ∧ ∃ A', WrAt w' g A' (xs ++ ys) ∧ Chg (Wf g A) w1 w' ∧ Moved w1 A A'
theorem run_enter {P : Program} {f : FuncId} {fn : Func} {c : Code} (hf : P.funcs[f]? = some fn) (hname : (fn.name == "runtime.NumGoroutine") = false) (hb : fn.body = some c) (args : Array Value) (w : World) :
    (callFunc f args).run P w = .ok (.enter f args) w := by
  have h1 : fn.name ≠ "runtime.NumGoroutine" := by simpa using hname
  simp [callFunc, hf, h1, hb]
theorem Lays.later {w w' : World} {T S : Nat → Prop} {fv : Value} {ys : List UInt8} (h : Lays w T fv ys) (hc : Chg S w w') (hS : ∀ x, T x → ¬ S x) : Lays w' T fv ys := by
  obtain ⟨f, caps, e, hent, hrun⟩ := h.run
  refine ⟨fun x hx => Nat.lt_of_lt_of_le (h.low x hx) hc.size, f, caps, e, hent, fun w1 g A xs h1 h2 h3 h4 => hrun w1 g A xs ?_ h2 h3 h4⟩
  exact (hc.mono (fun x _ hk hT => hS x hT hk)).trans h1 (fun _ _ hk => hk)
set_option maxRecDepth 100000 in
theorem laidI1_calls {w : World} {g bl bv n c : Nat} {A A2 : Option Addr} {xs : List UInt8} {vs : List Int} {fx : FuncId} {t1 t2 : TypeId} (hf : fx = 159) (hw : WrAt w g A xs) [hbl : HB w bl t1 #[.func (.func fx) #[] #[]]] [hbv : HB w bv t2 #[.slice A2 n c]] (hr : Rd w A2 (is64 vs)) (hn : vs.length = n) (hA2 : Apart (Wf g A) A2 (is64 vs)) (hx : xs.length + 9 * vs.length ≤ 1000000000000) :
    Calls Try.prog 193 #[.pointer (some ⟨g, 0, none⟩), .pointer (some ⟨bl, 0, none⟩), .pointer (some ⟨bv, 0, none⟩)] w fun e w' => e = .returned (.tuple #[]) ∧ ∃ A', WrAt w' g A' (xs ++ encAll vs) ∧ Chg (Wf g A) w w' ∧ Moved w A A' := by
  subst hf
  go_enter Try.func193, Try.ntmps193
  go_wp2_with (first | ((with_reducible apply wpl_loadrow); (exact rfl); (exact inferInstance); (exact inferInstance); (first | (with_reducible assumption) | (with_reducible exact H32.size _) | kernel_rfl)) | ((with_reducible apply wpl_loadcellN); (exact rfl); (exact inferInstance); (exact rfl)))
  refine (Nums_calls g A xs A2 n c vs w hw hr hn hA2 hx).mono ?_
  rintro e w5 ⟨rfl, h5⟩
  go_wp2_with fail
  go_end0
  exact ⟨rfl, h5⟩
set_option maxRecDepth 100000 in
theorem laidI_calls {A2 : Option Addr} {n c : Nat} {vs : List Int} {w : World} (hr : Rd w A2 (is64 vs)) (hn : vs.length = n) (hlim : 9 * vs.length ≤ 1000000000) :
    Calls Try.prog 158 #[.func (.func 159) #[] #[], .slice A2 n c] w fun e w' => ∃ fv T, e = .returned fv ∧ Step nowhere w w' ∧ Lays w' T fv (encAll vs) ∧ ∀ x, T x → w.heap.size ≤ x ∨ rowOf A2 x := by
  go_enter Try.func158, Try.ntmps158
  go_wp2_with (first | ((with_reducible apply (wpl_box (dst := some 2) (cs := #[.func (.func 159) #[] #[]]))); (exact rfl); (exact rfl); intro bl wbl _ _ _) | ((with_reducible apply (wpl_box_slice (dst := some 3))); (exact rfl); intro bv wbv _ _ _))
  go_ret
  have h1 : HB wbv bl 218 #[.func (.func 159) #[] #[]] := inferInstance
  have h2 : HB wbv bv 171 #[.slice A2 n c] := inferInstance
  have hst : Step nowhere w wbv := stepN
  have hbl : w.heap.size ≤ bl := Nat.le_of_eq (inferInstance : Born w bl).eq.symm
  have hbv : w.heap.size ≤ bv := by
    have e1 := (inferInstance : Born wbl bv).eq
    have e2 := (inferInstance : SzLe w wbl).out
    omega
  have hr2 := hr.later hst.chg
  refine ⟨_, fun x => x = bl ∨ x = bv ∨ (is64 vs ≠ [] ∧ rowOf A2 x), rfl, hst, ⟨fun x hx => ?_, _, _, rfl, run_enter Try.func193 (by kernel_rfl) rfl, fun w1 g A xs hc hw hT hlen => ?_⟩, fun x hx => ?_⟩
  · rcases hx with rfl | rfl | ⟨hne, ad, e, hk⟩
    · exact h1.out.lt
    · exact h2.out.lt
    · rw [← hk]
      exact rd_lt hr2 hne e
  · have k1 : HB w1 bl 218 #[.func (.func 159) #[] #[]] := ⟨h1.out.chg hc (fun hk => hk (.inl rfl))⟩
    have k2 : HB w1 bv 171 #[.slice A2 n c] := ⟨h2.out.chg hc (fun hk => hk (.inr (.inl rfl)))⟩
    have hl := encAll_len vs
    exact laidI1_calls rfl hw (hr2.chg hc (fun hne ad e hk => hk (.inr (.inr ⟨hne, ad, e, rfl⟩)))) hn (fun hne ad e hk => hT _ hk (.inr (.inr ⟨hne, ad, e, rfl⟩))) (by omega)
  · rcases hx with rfl | rfl | ⟨hne, hk⟩
    · exact .inl hbl
    · exact .inl hbv
    · exact .inr hk
set_option maxRecDepth 100000 in
theorem nums_calls {A2 : Option Addr} {n c : Nat} {vs : List Int} {w : World} (hr : Rd w A2 (is64 vs)) (hn : vs.length = n) (hlim : 9 * vs.length ≤ 1000000000) :
    Calls Try.prog 101 #[.slice A2 n c] w fun e w' => ∃ fv T, e = .returned fv ∧ Step nowhere w w' ∧ Lays w' T fv (encAll vs) ∧ ∀ x, T x → w.heap.size ≤ x ∨ rowOf A2 x := by
  go_enter Try.func101, Try.ntmps101
  go_wp2_with fail
  refine (laidI_calls (A2 := A2) (c := c) hr hn hlim).mono ?_
  rintro e w5 ⟨fv, T, rfl, hs, hL, hT⟩
  go_wp2_with fail
  go_ret
  exact ⟨fv, T, rfl, hs, hL, hT⟩
end Go.Proofs.Ytecmeejbpkcgiaa
