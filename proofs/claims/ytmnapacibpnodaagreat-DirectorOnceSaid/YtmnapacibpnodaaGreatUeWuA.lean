/- WuA -/
import Derived.Test.YtmnapacibpnodaaGreatUeOcRfC
import Derived.Test.YtmnapacibpnodaaGreatUeWnA
open Go Go.RowKit
namespace Go.Proofs.YtmnapacibpnodaaGreat
instance cellWuF : CellT Tryz.prog 234 := ⟨fun _ => by kernel_rfl, fun _ => by kernel_rfl⟩
instance cellWuR : CellT Tryz.prog 152 := ⟨fun _ => by kernel_rfl, fun _ => by kernel_rfl⟩
section
variable {P : Program} {ops : Array Oper} {rest : List Oper} {a : Act} {w : World} {Q : Exit → Act → World → Prop} {dst : Option Tmp} {ty : TypeId} {pos : String} {after : Array Edge}
/-- a text's bytes, in memory of their own -/
theorem wpl_strN {src td e : TypeId} {x : Operand} {s : ByteArray} {l : List UInt8} (hx : a.eval x = .string s) (hl : s.data.toList = l) (hs : P.underlying src = some .string) (hd : P.underlying td = some (.slice e)) (he : P.underlying e = some (.int .u8))
    (h : ∀ c w', Step nowhere w w' → HR w' (some ⟨w.heap.size, 0, none⟩) (bs l) → wpList P ops Q rest (a.put dst (.slice (some ⟨w.heap.size, 0, none⟩) l.length c)) w') : wpList P ops Q (⟨dst, .convert src td x, ty, pos, after, none⟩ :: rest) a w := by
  subst hl
  have hsz : s.size = s.data.toList.length := (Array.length_toList (xs := s.data)).symm
  refine wpl_of_run rfl ?_ (h (grownCap w s.size 0 e) (w.drew.alloc (.cells (bytesRow s (grownCap w s.size 0 e)) e ((bytesRow s (grownCap w s.size 0 e)).size, (bytesRow s (grownCap w s.size 0 e)).size + 1))) ⟨(Chg.refl _ _).drew.alloc _⟩ ⟨?_⟩)
  · show ((convert src td (a.eval x)) >>= fun v => pure (Next.value v)).run P w = _
    rw [hx, Sem.run_bind, run_bytes_of_string w src td e s hs hd he, ← hsz]
    rfl
  · have h1 := Rd.lit w.drew (bytesRow s (grownCap w s.size 0 e)).toList e (f := ((bytesRow s (grownCap w s.size 0 e)).size, (bytesRow s (grownCap w s.size 0 e)).size + 1))
    rw [Array.toArray_toList] at h1
    intro k u hk
    refine h1 k u ?_
    have h2 : (bytesRow s (grownCap w s.size 0 e)).toList = bs s.data.toList ++ List.replicate (grownCap w s.size 0 e - s.size) (.int .u8 0) := by
      unfold bytesRow bs u8v
      rw [Array.toList_append, Array.toList_map, Array.toList_replicate]
    rw [h2, List.getElem?_append_left (List.getElem?_eq_some_iff.1 hk).1]
    exact hk
end
theorem run_rowN (B : Option Addr) (n c : Nat) (w : World) : (Instr.buildSlice 152 1 #[(0, .slice B n c)]).run Tryz.prog w = .ok (.slice (some ⟨w.heap.size, 0, none⟩) 1 1) (w.alloc (.cells #[.slice B n c] 34)) := by kernel_rfl
set_option maxRecDepth 100000 in
theorem laidR1_calls {w : World} {g bl bv zr n c : Nat} {A B : Option Addr} {xs ys : List UInt8} {fx : FuncId} {t1 t2 t3 : TypeId} (hf : fx = 172) (hw : WrAt w g A xs) [hbl : HB w bl t1 #[.func (.func fx) #[] #[]]] [hbv : HB w bv t2 #[.slice (some ⟨zr, 0, none⟩) 1 1]] [hbz : HB w zr t3 #[.slice B n c]] (hr : Rd w B (bs ys)) (hn : ys.length = n) (hz : ¬ Wf g A zr) (hB : Apart (Wf g A) B (bs ys)) (hx : xs.length + ys.length ≤ 10000000000) :
    Calls Tryz.prog 179 #[.pointer (some ⟨g, 0, none⟩), .pointer (some ⟨bl, 0, none⟩), .pointer (some ⟨bv, 0, none⟩)] w fun e w' => e = .returned (.tuple #[]) ∧ ∃ A', WrAt w' g A' (xs ++ encRow ys) ∧ Chg (Wf g A) w w' ∧ Moved w A A' := by
  subst hf
  subst hn
  go_enter Tryz.func179, Tryz.ntmps179
  go_wp2_with (first | ((with_reducible apply wpl_loadcellN); (exact rfl); infer_instance; (exact rfl)))
  refine (wBytes_calls g A xs (some ⟨zr, 0, none⟩) 1 1 [⟨B, c, ys⟩] w hw hbz.rdL rfl ?_ ?_ ?_).mono ?_
  · rintro _ ad e hk
    injection e with e
    subst e
    exact hz hk
  · intro r hm
    rw [List.mem_singleton.1 hm]
    exact ⟨hr, hB⟩
  · simp only [rowsSize]
    omega
  rintro e w5 ⟨rfl, A5, h5, h6, h7⟩
  go_wp2_with fail
  go_end0
  refine ⟨rfl, A5, ?_, h6.out, h7.out⟩
  have h8 := h5.out
  rwa [show encRows [(⟨B, c, ys⟩ : Row)] = encRow ys by simp [encRows]] at h8
set_option maxRecDepth 100000 in
theorem laidR_calls {zr n c : Nat} {B : Option Addr} {ys : List UInt8} {w : World} {t3 : TypeId} [hbz : HB w zr t3 #[.slice B n c]] (hr : Rd w B (bs ys)) (hn : ys.length = n) :
    Calls Tryz.prog 171 #[.func (.func 172) #[] #[], .slice (some ⟨zr, 0, none⟩) 1 1] w fun e w' => ∃ f caps T, e = .returned (.func (.func f) #[] caps) ∧ Step nowhere w w' ∧ Lays w' T (.func (.func f) #[] caps) (encRow ys) ∧ ∀ x, T x → w.heap.size ≤ x ∨ x = zr ∨ rowOf B x := by
  go_enter Tryz.func171, Tryz.ntmps171
  go_wp2_with (first | ((with_reducible apply (wpl_box (dst := some 2) (cs := #[.func (.func 172) #[] #[]]))); (exact rfl); (exact rfl); intro bl wbl _ _ _) | ((with_reducible apply (wpl_box_slice (dst := some 3))); (exact rfl); intro bv wbv _ _ _))
  go_ret
  have h1 : HB wbv bl 234 #[.func (.func 172) #[] #[]] := inferInstance
  have h2 : HB wbv bv 152 #[.slice (some ⟨zr, 0, none⟩) 1 1] := inferInstance
  have h3 : HB wbv zr t3 #[.slice B n c] := inferInstance
  have hst : Step nowhere w wbv := stepN
  have hbl : w.heap.size ≤ bl := Nat.le_of_eq (inferInstance : Born w bl).eq.symm
  have hbv : w.heap.size ≤ bv := by
    have e1 := (inferInstance : Born wbl bv).eq
    have e2 := (inferInstance : SzLe w wbl).out
    omega
  have hr2 := hr.later hst.chg
  refine ⟨_, _, fun x => x = bl ∨ x = bv ∨ x = zr ∨ (bs ys ≠ [] ∧ rowOf B x), rfl, hst, ⟨fun x hx => ?_, _, _, rfl, run_enter Tryz.func179 (by kernel_rfl) rfl, fun w1 g A xs hc hw hT hlen => ?_⟩, fun x hx => ?_⟩
  · rcases hx with rfl | rfl | rfl | ⟨hne, ad, e, hk⟩
    · exact h1.out.lt
    · exact h2.out.lt
    · exact h3.out.lt
    · rw [← hk]
      exact rd_lt hr2 hne e
  · have k1 : HB w1 bl 234 #[.func (.func 172) #[] #[]] := ⟨h1.out.chg hc (fun hk => hk (.inl rfl))⟩
    have k2 : HB w1 bv 152 #[.slice (some ⟨zr, 0, none⟩) 1 1] := ⟨h2.out.chg hc (fun hk => hk (.inr (.inl rfl)))⟩
    have k3 : HB w1 zr t3 #[.slice B n c] := ⟨h3.out.chg hc (fun hk => hk (.inr (.inr (.inl rfl))))⟩
    have hle : ys.length ≤ (encRow ys).length := by
      unfold encRow
      rw [List.length_append]
      omega
    exact laidR1_calls rfl hw (hr2.chg hc (fun hne ad e hk => hk (.inr (.inr (.inr ⟨hne, ad, e, rfl⟩))))) hn (fun h => hT zr h (.inr (.inr (.inl rfl)))) (fun hne ad e hk => hT _ hk (.inr (.inr (.inr ⟨hne, ad, e, rfl⟩)))) (by omega)
  · rcases hx with rfl | rfl | rfl | ⟨hne, hk⟩
    · exact .inl hbl
    · exact .inl hbv
    · exact .inr (.inl rfl)
    · exact .inr (.inr hk)
set_option maxRecDepth 100000 in
theorem row_calls {n c : Nat} {B : Option Addr} {ys : List UInt8} {w : World} (hr : Rd w B (bs ys)) (hn : ys.length = n) :
    Calls Tryz.prog 155 #[.slice B n c] w fun e w' => ∃ f caps T, e = .returned (.func (.func f) #[] caps) ∧ Step nowhere w w' ∧ Lays w' T (.func (.func f) #[] caps) (encRow ys) ∧ ∀ x, T x → w.heap.size ≤ x ∨ rowOf B x := by
  have kb := run_rowN B n c
  go_enter Tryz.func155, Tryz.ntmps155
  go_wp2_with (first | ((with_reducible apply (stop_dst (dst := some 4))); (try simp only [Act.put, sA, sB, sC]); ((with_reducible apply (wpl_bslice (dst := some 4))); (exact kb _); intro zr wb _ _ _)))
  have hzr : w.heap.size ≤ zr := Nat.le_trans (inferInstance : SzLe w _).out (Nat.le_of_eq (inferInstance : Born _ zr).eq.symm)
  refine (laidR_calls (zr := zr) (hr.later (stepN (w0 := w)).chg) hn).mono ?_
  rintro e w5 ⟨f, caps, T, rfl, hs, hL, hT⟩
  go_wp2_with fail
  go_ret
  refine ⟨f, caps, T, rfl, stepN, hL, fun x hx => ?_⟩
  rcases hT x hx with h | rfl | h
  · exact .inl (Nat.le_trans (stepN (w0 := w)).chg.size h)
  · exact .inl hzr
  · exact .inr h
set_option maxRecDepth 100000 in
theorem text_calls (s : ByteArray) (l : List UInt8) (hs : s.data.toList = l) (w : World) :
    Calls Tryz.prog 132 #[.string s] w fun e w' => ∃ f caps T, e = .returned (.func (.func f) #[] caps) ∧ Step nowhere w w' ∧ Lays w' T (.func (.func f) #[] caps) (encRow l) ∧ ∀ x, T x → w.heap.size ≤ x := by
  go_enter Tryz.func132, Tryz.ntmps132
  go_wp2_with (first | ((with_reducible apply (wpl_strN (l := l))); (exact rfl); (exact hs); (exact Tryz.underlying9); (exact Tryz.underlying34); (exact Tryz.underlying5); intro cB wB _ hB))
  refine (row_calls hB.out rfl).mono ?_
  rintro e w5 ⟨f, caps, T, rfl, hs5, hL, hT⟩
  go_wp2_with fail
  go_ret
  refine ⟨f, caps, T, rfl, stepN, hL, fun x hx => ?_⟩
  rcases hT x hx with h | ⟨ad, e, hk⟩
  · exact Nat.le_trans (inferInstance : SzLe w wB).out h
  · injection e with e
    subst e
    exact Nat.le_of_eq hk
end Go.Proofs.YtmnapacibpnodaaGreat
