/- TgD, TgE -/
import Derived.Test.YtmnapacibpnodaaGreatUeTgN
import Derived.Test.YtmnapacibpnodaaGreatUeWuC
section
open Go Go.RowKit
namespace Go.Proofs.YtmnapacibpnodaaGreat
/-- whose word is taken, too -/
structure DeleR where
  l : List UInt8
  k : KR
  pre : List UInt8
  last : Bool
instance rowCDl : RowC DeleR := ⟨5, fun d => [.string (strL d.l), .slice d.k.A d.k.n d.k.c, .int .i64 d.k.need, .string (strL d.pre), .bool d.last], fun _ => rfl, fun d u hu => by
  simp only [List.mem_cons, List.not_mem_nil, or_false] at hu
  rcases hu with rfl | rfl | rfl | rfl | rfl <;> rfl, ⟨[], ⟨none, 0, 0, [], 0⟩, [], false⟩⟩
def zeroDl : Array Value := #[.string ⟨#[]⟩, .slice none 0 0, .int .i64 0, .string ⟨#[]⟩, .bool false]
instance elemDl : ElemT Tryz.prog 140 197 5 72 (.agg zeroDl) := ⟨⟨Tryz.underlying140, by kernel_rfl, rfl, by decide⟩⟩
instance rowTDl : RowT Tryz.prog 197 5 := ⟨by kernel_rfl, _, Tryz.underlying197, rfl⟩
instance zeroTDl : ZeroT Tryz.prog 197 zeroDl := ⟨.agg zeroDl, fun _ => by kernel_rfl, rfl⟩
instance cellFDlB : CellT Tryz.prog 198 := ⟨fun _ => by kernel_rfl, fun _ => by kernel_rfl⟩
instance cellFDl : CellT Tryz.prog 206 := ⟨fun _ => by kernel_rfl, fun _ => by kernel_rfl⟩
set_option maxRecDepth 100000 in
set_option maxHeartbeats 1600000 in
theorem each1T_calls {w : World} {g zl zf n c : Nat} {A B : Option Addr} {xs : List UInt8} {l : List TargetR} {t1 t2 : TypeId} {fx : FuncId} (hf : fx = 134) (ys : TargetR → List UInt8) (U : Nat → Prop) (hw : WrAt w g A xs) [h1 : HB w zl t1 #[.slice B n c]] [h2 : HB w zf t2 #[.func (.func fx) #[] #[]]] (hr : Rd w B (cellsOf l)) (hl : l.length = n) (hm : n ≤ 1000000000)
    (hU : ∀ x, U x → ¬ Wf g A x) (hUl : ∀ x, U x → x < w.heap.size) (hzl : ¬ Wf g A zl) (hzf : ¬ Wf g A zf) (hB : Apart (Wf g A) B (cellsOf l)) (hlay : ∀ x ∈ l, ∀ w1, Chg (fun x => ¬ U x) w w1 → Calls Tryz.prog 134 #[.agg (RowC.enc x).toArray] w1 (FldPost w1 (ys x) U)) (hx : xs.length + (l.flatMap ys).length ≤ 1000000000) :
    Calls Tryz.prog 173 #[.pointer (some ⟨g, 0, none⟩), .pointer (some ⟨zl, 0, none⟩), .pointer (some ⟨zf, 0, none⟩)] w fun e w' => e = .returned (.tuple #[]) ∧ ∃ A', WrAt w' g A' (xs ++ l.flatMap ys) ∧ Chg (Wf g A) w w' ∧ Moved w A A' := by
  subst hf
  have HL := Lib.hid hl
  have HLAY := Lib.hid hlay
  have HX := Lib.hid hx
  clear hlay hx
  go_enter Tryz.func173, Tryz.ntmps173
  go_wp2_with (first | ((with_reducible apply wpl_loadcellN); (exact rfl); infer_instance; (exact rfl)))
  go_loopw [8] (fun iv wr => ∃ (k : Nat) (A1 : Option Addr), k ≤ n ∧ iv = .int .i64 (k : Int) ∧ WrAt wr g A1 (xs ++ (l.take k).flatMap ys) ∧ Chg (Wf g A) w wr ∧ Moved w A A1) (fun iv _ => n - (intOf iv).toNat)
  case atStart => exact ⟨0, A, Nat.zero_le _, rfl, by simpa using hw, Chg.refl _ _, Moved.refl _ _⟩
  case round =>
    obtain ⟨k, A1, hk, rfl, hW, hC, hM⟩ := hrel
    have HW := Lib.hid hW
    have HM := Lib.hid hM
    clear hW hM
    by_cases hlt : k < n
    · have hltI : (k : Int) < n := by omega
      have hkl : k < l.length := by omega
      have hr1 : HR wr B (cellsOf l) := ⟨hr.chg hC hB⟩
      have k2 : HB wr zf t2 #[.func (.func 134) #[] #[]] := ⟨h2.out.chg hC hzf⟩
      have hmem : gt l k ∈ l := gt_mem l k hkl
      have HTK : Hid ((l.take (k + 1)).flatMap ys = (l.take k).flatMap ys ++ ys (gt l k)) := Lib.hid (by
        rw [← List.take_append_getElem hkl, List.flatMap_append]
        simp [gt, List.getD_eq_getElem?_getD, hkl])
      have HLE : Hid (((l.take k).flatMap ys).length + (ys (gt l k)).length ≤ (l.flatMap ys).length) := Lib.hid (by
        have e : l.flatMap ys = (l.take (k + 1)).flatMap ys ++ (l.drop (k + 1)).flatMap ys := by rw [← List.flatMap_append, List.take_append_drop]
        rw [e, HTK.out, List.length_append, List.length_append]
        omega)
      go_wp2_with (first | ((with_reducible apply (wpl_alloc (dst := some 5))); intro zv wzv _ _ _) | ((with_reducible apply wpl_loadrow); (exact rfl); infer_instance; infer_instance; (first | (with_reducible assumption) | (with_reducible exact H32.size _) | (with_reducible exact enc_sz _ rfl) | kernel_rfl)) | ((with_reducible apply wpl_loadcellN); (exact rfl); infer_instance; (exact rfl)) | ((with_reducible apply wpl_storerow); (exact rfl); (exact rfl); infer_instance; infer_instance; (first | (with_reducible assumption) | (with_reducible exact H32.size _) | (with_reducible exact enc_sz _ rfl) | kernel_rfl); (first | (with_reducible assumption) | (with_reducible exact H32.size _) | (with_reducible exact enc_sz _ rfl) | kernel_rfl); (first | (with_reducible exact u8s_one _) | (with_reducible assumption) | (with_reducible exact enc_one _) | kernel_rfl); intro ws _ _) | ((with_reducible apply (wpl_indexE (α := TargetR) (t := 79))); (exact rfl); (exact rfl); infer_instance; infer_instance; (first | (with_reducible assumption) | omega | (focus (simp; done)) | (focus (simp; omega; done)) | decide); (exact rfl); (decide); (first | (with_reducible assumption) | omega | (focus (simp; done)) | (focus (simp; omega; done)) | decide)) | ((with_reducible apply (wpl_loadE (α := TargetR) (t := 76))); infer_instance; (exact rfl); infer_instance; (exact rfl); (decide); (first | (with_reducible assumption) | omega | (focus (simp; done)) | (focus (simp; omega; done)) | decide)))
      refine (HLAY.out (gt l k) hmem _ ((hC.mono (fun x _ h h' => hU x h' h)).trans (stepN (w0 := wr)).chg (fun _ _ h => h.elim))).mono ?_
      rintro e w5 ⟨f, caps, T, rfl, hs5, hL5, hT5⟩
      have n5 : Nw wr w5 := inferInstance
      have hsz := n5.out.size
      obtain ⟨f9, caps9, he9, hent, hrun⟩ := hL5.run
      injection he9 with e1 _ e2
      injection e1 with e1
      subst e1 e2
      have hTT : ∀ x, Wf g A1 x → ¬ T x := by
        intro x hx hTx
        have hxl := HW.out.old x hx
        rcases hT5 x hTx with h | h
        · have := Nat.le_trans (stepN (w0 := wr)).chg.size h
          omega
        · rcases hx with rfl | ⟨ad, e, rfl⟩
          · exact hU _ h (.inl rfl)
          · rcases HM.out with rfl | ⟨ad', e', h'⟩
            · exact hU _ h (.inr ⟨ad, e, rfl⟩)
            · rw [e] at e'
              injection e' with e'
              subst e'
              have := hUl _ h
              omega
      have HRUN := Lib.hid (hrun w5 g A1 (xs ++ (l.take k).flatMap ys) (Chg.refl _ _) (HW.out.chg n5.out (fun _ _ h => h)) hTT (by
        have h1 := HLE.out
        have h2 := HX.out
        rw [List.length_append]
        omega))
      clear hrun hL5 hT5
      go_wp2_with fail
      refine HRUN.out.mono ?_
      rintro e w6 ⟨rfl, A6, hW6, hC6, hM6⟩
      have h7 := wf_trans (hC.trans n5.out (fun _ _ h => h.elim)) HM.out hC6 hM6
      have HW6 := Lib.hid hW6
      clear hW6 hC6 hM6
      go_wp2_with fail
      refine ⟨⟨k + 1, A6, by omega, by go_num, ?_, h7.1, h7.2⟩, by simp [intOf]; omega⟩
      rw [HTK.out, ← List.append_assoc]
      exact HW6.out
    · have hltI : ¬ (k : Int) < n := by omega
      have hfin : l.take k = l := List.take_of_length_le (by have := HL.out; omega)
      rw [hfin] at HW
      go_wp2_with fail
      go_end0
      exact ⟨rfl, A1, HW.out, hC, HM.out⟩
set_option maxRecDepth 100000 in
set_option maxHeartbeats 1600000 in
theorem eachT_calls {w : World} {n c : Nat} {B : Option Addr} {l : List TargetR} (ys : TargetR → List UInt8) (U : Nat → Prop) (hr : Rd w B (cellsOf l)) (hl : l.length = n) (hm : n ≤ 1000000000) (hUl : ∀ x, U x → x < w.heap.size)
    (hlay : ∀ x ∈ l, ∀ w1, Chg (fun x => ¬ U x) w w1 → Calls Tryz.prog 134 #[.agg (RowC.enc x).toArray] w1 (FldPost w1 (ys x) U)) :
    Calls Tryz.prog 156 #[.slice B n c, .func (.func 134) #[] #[]] w (FldPost w (l.flatMap ys) (fun x => (cellsOf l ≠ [] ∧ rowOf B x) ∨ U x)) := by
  have HLAY := Lib.hid hlay
  clear hlay
  unfold FldPost
  go_enter Tryz.func156, Tryz.ntmps156
  go_wp2_with (first | ((with_reducible apply (wpl_box_slice (dst := some 2))); (exact rfl); intro bl wbl _ _ _) | ((with_reducible apply (wpl_box (dst := some 3) (cs := #[.func (.func 134) #[] #[]]))); (exact rfl); (exact rfl); intro bv wbv _ _ _))
  go_ret
  have h1 : HB wbv bl 79 #[.slice B n c] := inferInstance
  have h2 : HB wbv bv 204 #[.func (.func 134) #[] #[]] := inferInstance
  have hst : Step nowhere w wbv := stepN
  have hbl : w.heap.size ≤ bl := Nat.le_of_eq (inferInstance : Born w bl).eq.symm
  have hbv : w.heap.size ≤ bv := by
    have e1 := (inferInstance : Born wbl bv).eq
    have e2 := (inferInstance : SzLe w wbl).out
    omega
  have hr2 := hr.later hst.chg
  refine ⟨_, _, fun x => x = bl ∨ x = bv ∨ (cellsOf l ≠ [] ∧ rowOf B x) ∨ U x, rfl, hst, ⟨fun x hx => ?_, _, _, rfl, run_enter Tryz.func173 (by kernel_rfl) rfl, fun w1 g A xs hc hw hT hlen => ?_⟩, fun x hx => ?_⟩
  · rcases hx with rfl | rfl | ⟨hne, ad, e, hk⟩ | h
    · exact h1.out.lt
    · exact h2.out.lt
    · rw [← hk]
      exact rd_lt hr2 hne e
    · exact Nat.lt_of_lt_of_le (hUl x h) hst.chg.size
  · have k1 : HB w1 bl 79 #[.slice B n c] := ⟨h1.out.chg hc (fun hk => hk (.inl rfl))⟩
    have k2 : HB w1 bv 204 #[.func (.func 134) #[] #[]] := ⟨h2.out.chg hc (fun hk => hk (.inr (.inl rfl)))⟩
    exact each1T_calls (zl := bl) (zf := bv) rfl ys U hw (hr2.chg hc (fun hne ad e hk => hk (.inr (.inr (.inl ⟨hne, ad, e, rfl⟩))))) hl hm
      (fun x hx h => hT x h (.inr (.inr (.inr hx)))) (fun x hx => Nat.lt_of_lt_of_le (Nat.lt_of_lt_of_le (hUl x hx) hst.chg.size) hc.size) (fun h => hT _ h (.inl rfl)) (fun h => hT _ h (.inr (.inl rfl))) (fun hne ad e hk => hT _ hk (.inr (.inr (.inl ⟨hne, ad, e, rfl⟩))))
      (fun x hx w2 h => HLAY.out x hx w2 (((hst.chg.mono (T := fun x => ¬ U x) (fun _ _ h => h.elim)).trans (hc.mono (fun x _ h h' => h (.inr (.inr (.inr h'))))) (fun _ _ h => h)).trans h (fun _ _ h => h))) (by omega)
  · rcases hx with rfl | rfl | h | h
    · exact .inl hbl
    · exact .inl hbv
    · exact .inr (.inl h)
    · exact .inr (.inr h)
set_option maxRecDepth 100000 in
set_option maxHeartbeats 1600000 in
theorem listT_calls {w : World} {n c : Nat} {B : Option Addr} {l : List TargetR} (ys : TargetR → List UInt8) (U : Nat → Prop) (hr : Rd w B (cellsOf l)) (hl : l.length = n) (hm : n ≤ 1000000000) (hUl : ∀ x, U x → x < w.heap.size)
    (hlay : ∀ x ∈ l, ∀ w1, Chg (fun x => ¬ U x) w w1 → Calls Tryz.prog 134 #[.agg (RowC.enc x).toArray] w1 (FldPost w1 (ys x) U)) :
    Calls Tryz.prog 133 #[.slice B n c, .func (.func 134) #[] #[]] w (FldPost w (encAll [(n : Int)] ++ l.flatMap ys) (fun x => (cellsOf l ≠ [] ∧ rowOf B x) ∨ U x)) := by
  have kb0 := run_int1 (n : Int)
  have HLAY := Lib.hid hlay
  have HL := Lib.hid hl
  clear hlay hl
  unfold FldPost
  go_enter Tryz.func133, Tryz.ntmps133
  go_wp2_with (first | ((with_reducible apply (stop_dst (dst := some 7))); (try simp only [Act.put, sA, sB, sC]); ((with_reducible apply (wpl_bslice (dst := some 7))); (exact kb0 _); intro zb wb _ _ _)))
  refine (numsC (z := zb) (vs := [(n : Int)]) rfl rfl (show 9 * 1 ≤ 1000000000 by decide)).mono ?_
  rintro e w5 ⟨f5, caps5, T5, rfl, _, hL5, hT5⟩
  have hzb : w.heap.size ≤ zb := (NewA.monoS (w0 := w) (NewA.of_born (z := zb) 0)).out ⟨zb, 0, none⟩ rfl
  go_wp2_with fail
  refine (eachT_calls (l := l) ys U (hr.later (stepN (w0 := w)).chg) HL.out hm (fun x h => Nat.lt_of_lt_of_le (hUl x h) (stepN (w0 := w)).chg.size) (fun x hx w1 h => HLAY.out x hx w1 (((stepN (w0 := w)).chg.mono (fun _ _ h => h.elim)).trans h (fun _ _ h => h)))).mono ?_
  rintro e w6 ⟨f6, caps6, T6, rfl, _, hL6, hT6⟩
  have kb2 := run_fld2 f5 f6 caps5 caps6
  go_wp2_with (first | ((with_reducible apply (stop_dst (dst := some 12))); (try simp only [Act.put, sA, sB, sC]); ((with_reducible apply (wpl_bslice (dst := some 12))); (exact kb2 _); intro zc wb _ _ _)))
  refine (fields2 (z := zc) (hL5.later (stepN (w0 := w5)).chg (fun _ _ h => h)) (hL6.later (stepN (w0 := w6)).chg (fun _ _ h => h))).mono ?_
  rintro e w7 ⟨f7, caps7, T7, rfl, _, hL7, hT7⟩
  have hzc : w.heap.size ≤ zc := (NewA.monoS (w0 := w) (NewA.of_born (z := zc) 0)).out ⟨zc, 0, none⟩ rfl
  go_wp2_with fail
  go_ret
  refine ⟨f7, caps7, T7, rfl, stepN, hL7, fun x hx => ?_⟩
  rcases hT7 x hx with h | rfl | h | h
  · exact .inl (Nat.le_trans (stepN (w0 := w)).chg.size h)
  · exact .inl hzc
  · rcases hT5 x h with h | rfl
    · exact .inl (Nat.le_trans (stepN (w0 := w)).chg.size h)
    · exact .inl hzb
  · rcases hT6 x h with h | h
    · exact .inl (Nat.le_trans (stepN (w0 := w)).chg.size h)
    · exact .inr h
set_option maxRecDepth 100000 in
set_option maxHeartbeats 1600000 in
theorem each1D_calls {w : World} {g zl zf n c : Nat} {A B : Option Addr} {xs : List UInt8} {l : List DeleR} {t1 t2 : TypeId} {fx : FuncId} (hf : fx = 136) (ys : DeleR → List UInt8) (U : Nat → Prop) (hw : WrAt w g A xs) [h1 : HB w zl t1 #[.slice B n c]] [h2 : HB w zf t2 #[.func (.func fx) #[] #[]]] (hr : Rd w B (cellsOf l)) (hl : l.length = n) (hm : n ≤ 1000000000)
    (hU : ∀ x, U x → ¬ Wf g A x) (hUl : ∀ x, U x → x < w.heap.size) (hzl : ¬ Wf g A zl) (hzf : ¬ Wf g A zf) (hB : Apart (Wf g A) B (cellsOf l)) (hlay : ∀ x ∈ l, ∀ w1, Chg (fun x => ¬ U x) w w1 → Calls Tryz.prog 136 #[.agg (RowC.enc x).toArray] w1 (FldPost w1 (ys x) U)) (hx : xs.length + (l.flatMap ys).length ≤ 1000000000) :
    Calls Tryz.prog 176 #[.pointer (some ⟨g, 0, none⟩), .pointer (some ⟨zl, 0, none⟩), .pointer (some ⟨zf, 0, none⟩)] w fun e w' => e = .returned (.tuple #[]) ∧ ∃ A', WrAt w' g A' (xs ++ l.flatMap ys) ∧ Chg (Wf g A) w w' ∧ Moved w A A' := by
  subst hf
  have HL := Lib.hid hl
  have HLAY := Lib.hid hlay
  have HX := Lib.hid hx
  clear hlay hx
  go_enter Tryz.func176, Tryz.ntmps176
  go_wp2_with (first | ((with_reducible apply wpl_loadcellN); (exact rfl); infer_instance; (exact rfl)))
  go_loopw [8] (fun iv wr => ∃ (k : Nat) (A1 : Option Addr), k ≤ n ∧ iv = .int .i64 (k : Int) ∧ WrAt wr g A1 (xs ++ (l.take k).flatMap ys) ∧ Chg (Wf g A) w wr ∧ Moved w A A1) (fun iv _ => n - (intOf iv).toNat)
  case atStart => exact ⟨0, A, Nat.zero_le _, rfl, by simpa using hw, Chg.refl _ _, Moved.refl _ _⟩
  case round =>
    obtain ⟨k, A1, hk, rfl, hW, hC, hM⟩ := hrel
    have HW := Lib.hid hW
    have HM := Lib.hid hM
    clear hW hM
    by_cases hlt : k < n
    · have hltI : (k : Int) < n := by omega
      have hkl : k < l.length := by omega
      have hr1 : HR wr B (cellsOf l) := ⟨hr.chg hC hB⟩
      have k2 : HB wr zf t2 #[.func (.func 136) #[] #[]] := ⟨h2.out.chg hC hzf⟩
      have hmem : gt l k ∈ l := gt_mem l k hkl
      have HTK : Hid ((l.take (k + 1)).flatMap ys = (l.take k).flatMap ys ++ ys (gt l k)) := Lib.hid (by
        rw [← List.take_append_getElem hkl, List.flatMap_append]
        simp [gt, List.getD_eq_getElem?_getD, hkl])
      have HLE : Hid (((l.take k).flatMap ys).length + (ys (gt l k)).length ≤ (l.flatMap ys).length) := Lib.hid (by
        have e : l.flatMap ys = (l.take (k + 1)).flatMap ys ++ (l.drop (k + 1)).flatMap ys := by rw [← List.flatMap_append, List.take_append_drop]
        rw [e, HTK.out, List.length_append, List.length_append]
        omega)
      go_wp2_with (first | ((with_reducible apply (wpl_alloc (dst := some 5))); intro zv wzv _ _ _) | ((with_reducible apply wpl_loadrow); (exact rfl); infer_instance; infer_instance; (first | (with_reducible assumption) | (with_reducible exact H32.size _) | (with_reducible exact enc_sz _ rfl) | kernel_rfl)) | ((with_reducible apply wpl_loadcellN); (exact rfl); infer_instance; (exact rfl)) | ((with_reducible apply wpl_storerow); (exact rfl); (exact rfl); infer_instance; infer_instance; (first | (with_reducible assumption) | (with_reducible exact H32.size _) | (with_reducible exact enc_sz _ rfl) | kernel_rfl); (first | (with_reducible assumption) | (with_reducible exact H32.size _) | (with_reducible exact enc_sz _ rfl) | kernel_rfl); (first | (with_reducible exact u8s_one _) | (with_reducible assumption) | (with_reducible exact enc_one _) | kernel_rfl); intro ws _ _) | ((with_reducible apply (wpl_indexE (α := DeleR) (t := 140))); (exact rfl); (exact rfl); infer_instance; infer_instance; (first | (with_reducible assumption) | omega | (focus (simp; done)) | (focus (simp; omega; done)) | decide); (exact rfl); (decide); (first | (with_reducible assumption) | omega | (focus (simp; done)) | (focus (simp; omega; done)) | decide)) | ((with_reducible apply (wpl_loadE (α := DeleR) (t := 197))); infer_instance; (exact rfl); infer_instance; (exact rfl); (decide); (first | (with_reducible assumption) | omega | (focus (simp; done)) | (focus (simp; omega; done)) | decide)))
      refine (HLAY.out (gt l k) hmem _ ((hC.mono (fun x _ h h' => hU x h' h)).trans (stepN (w0 := wr)).chg (fun _ _ h => h.elim))).mono ?_
      rintro e w5 ⟨f, caps, T, rfl, hs5, hL5, hT5⟩
      have n5 : Nw wr w5 := inferInstance
      have hsz := n5.out.size
      obtain ⟨f9, caps9, he9, hent, hrun⟩ := hL5.run
      injection he9 with e1 _ e2
      injection e1 with e1
      subst e1 e2
      have hTT : ∀ x, Wf g A1 x → ¬ T x := by
        intro x hx hTx
        have hxl := HW.out.old x hx
        rcases hT5 x hTx with h | h
        · have := Nat.le_trans (stepN (w0 := wr)).chg.size h
          omega
        · rcases hx with rfl | ⟨ad, e, rfl⟩
          · exact hU _ h (.inl rfl)
          · rcases HM.out with rfl | ⟨ad', e', h'⟩
            · exact hU _ h (.inr ⟨ad, e, rfl⟩)
            · rw [e] at e'
              injection e' with e'
              subst e'
              have := hUl _ h
              omega
      have HRUN := Lib.hid (hrun w5 g A1 (xs ++ (l.take k).flatMap ys) (Chg.refl _ _) (HW.out.chg n5.out (fun _ _ h => h)) hTT (by
        have h1 := HLE.out
        have h2 := HX.out
        rw [List.length_append]
        omega))
      clear hrun hL5 hT5
      go_wp2_with fail
      refine HRUN.out.mono ?_
      rintro e w6 ⟨rfl, A6, hW6, hC6, hM6⟩
      have h7 := wf_trans (hC.trans n5.out (fun _ _ h => h.elim)) HM.out hC6 hM6
      have HW6 := Lib.hid hW6
      clear hW6 hC6 hM6
      go_wp2_with fail
      refine ⟨⟨k + 1, A6, by omega, by go_num, ?_, h7.1, h7.2⟩, by simp [intOf]; omega⟩
      rw [HTK.out, ← List.append_assoc]
      exact HW6.out
    · have hltI : ¬ (k : Int) < n := by omega
      have hfin : l.take k = l := List.take_of_length_le (by have := HL.out; omega)
      rw [hfin] at HW
      go_wp2_with fail
      go_end0
      exact ⟨rfl, A1, HW.out, hC, HM.out⟩
set_option maxRecDepth 100000 in
set_option maxHeartbeats 1600000 in
theorem eachD_calls {w : World} {n c : Nat} {B : Option Addr} {l : List DeleR} (ys : DeleR → List UInt8) (U : Nat → Prop) (hr : Rd w B (cellsOf l)) (hl : l.length = n) (hm : n ≤ 1000000000) (hUl : ∀ x, U x → x < w.heap.size)
    (hlay : ∀ x ∈ l, ∀ w1, Chg (fun x => ¬ U x) w w1 → Calls Tryz.prog 136 #[.agg (RowC.enc x).toArray] w1 (FldPost w1 (ys x) U)) :
    Calls Tryz.prog 158 #[.slice B n c, .func (.func 136) #[] #[]] w (FldPost w (l.flatMap ys) (fun x => (cellsOf l ≠ [] ∧ rowOf B x) ∨ U x)) := by
  have HLAY := Lib.hid hlay
  clear hlay
  unfold FldPost
  go_enter Tryz.func158, Tryz.ntmps158
  go_wp2_with (first | ((with_reducible apply (wpl_box_slice (dst := some 2))); (exact rfl); intro bl wbl _ _ _) | ((with_reducible apply (wpl_box (dst := some 3) (cs := #[.func (.func 136) #[] #[]]))); (exact rfl); (exact rfl); intro bv wbv _ _ _))
  go_ret
  have h1 : HB wbv bl 140 #[.slice B n c] := inferInstance
  have h2 : HB wbv bv 206 #[.func (.func 136) #[] #[]] := inferInstance
  have hst : Step nowhere w wbv := stepN
  have hbl : w.heap.size ≤ bl := Nat.le_of_eq (inferInstance : Born w bl).eq.symm
  have hbv : w.heap.size ≤ bv := by
    have e1 := (inferInstance : Born wbl bv).eq
    have e2 := (inferInstance : SzLe w wbl).out
    omega
  have hr2 := hr.later hst.chg
  refine ⟨_, _, fun x => x = bl ∨ x = bv ∨ (cellsOf l ≠ [] ∧ rowOf B x) ∨ U x, rfl, hst, ⟨fun x hx => ?_, _, _, rfl, run_enter Tryz.func176 (by kernel_rfl) rfl, fun w1 g A xs hc hw hT hlen => ?_⟩, fun x hx => ?_⟩
  · rcases hx with rfl | rfl | ⟨hne, ad, e, hk⟩ | h
    · exact h1.out.lt
    · exact h2.out.lt
    · rw [← hk]
      exact rd_lt hr2 hne e
    · exact Nat.lt_of_lt_of_le (hUl x h) hst.chg.size
  · have k1 : HB w1 bl 140 #[.slice B n c] := ⟨h1.out.chg hc (fun hk => hk (.inl rfl))⟩
    have k2 : HB w1 bv 206 #[.func (.func 136) #[] #[]] := ⟨h2.out.chg hc (fun hk => hk (.inr (.inl rfl)))⟩
    exact each1D_calls (zl := bl) (zf := bv) rfl ys U hw (hr2.chg hc (fun hne ad e hk => hk (.inr (.inr (.inl ⟨hne, ad, e, rfl⟩))))) hl hm
      (fun x hx h => hT x h (.inr (.inr (.inr hx)))) (fun x hx => Nat.lt_of_lt_of_le (Nat.lt_of_lt_of_le (hUl x hx) hst.chg.size) hc.size) (fun h => hT _ h (.inl rfl)) (fun h => hT _ h (.inr (.inl rfl))) (fun hne ad e hk => hT _ hk (.inr (.inr (.inl ⟨hne, ad, e, rfl⟩))))
      (fun x hx w2 h => HLAY.out x hx w2 (((hst.chg.mono (T := fun x => ¬ U x) (fun _ _ h => h.elim)).trans (hc.mono (fun x _ h h' => h (.inr (.inr (.inr h'))))) (fun _ _ h => h)).trans h (fun _ _ h => h))) (by omega)
  · rcases hx with rfl | rfl | h | h
    · exact .inl hbl
    · exact .inl hbv
    · exact .inr (.inl h)
    · exact .inr (.inr h)
set_option maxRecDepth 100000 in
set_option maxHeartbeats 1600000 in
theorem listD_calls {w : World} {n c : Nat} {B : Option Addr} {l : List DeleR} (ys : DeleR → List UInt8) (U : Nat → Prop) (hr : Rd w B (cellsOf l)) (hl : l.length = n) (hm : n ≤ 1000000000) (hUl : ∀ x, U x → x < w.heap.size)
    (hlay : ∀ x ∈ l, ∀ w1, Chg (fun x => ¬ U x) w w1 → Calls Tryz.prog 136 #[.agg (RowC.enc x).toArray] w1 (FldPost w1 (ys x) U)) :
    Calls Tryz.prog 135 #[.slice B n c, .func (.func 136) #[] #[]] w (FldPost w (encAll [(n : Int)] ++ l.flatMap ys) (fun x => (cellsOf l ≠ [] ∧ rowOf B x) ∨ U x)) := by
  have kb0 := run_int1 (n : Int)
  have HLAY := Lib.hid hlay
  have HL := Lib.hid hl
  clear hlay hl
  unfold FldPost
  go_enter Tryz.func135, Tryz.ntmps135
  go_wp2_with (first | ((with_reducible apply (stop_dst (dst := some 7))); (try simp only [Act.put, sA, sB, sC]); ((with_reducible apply (wpl_bslice (dst := some 7))); (exact kb0 _); intro zb wb _ _ _)))
  refine (numsC (z := zb) (vs := [(n : Int)]) rfl rfl (show 9 * 1 ≤ 1000000000 by decide)).mono ?_
  rintro e w5 ⟨f5, caps5, T5, rfl, _, hL5, hT5⟩
  have hzb : w.heap.size ≤ zb := (NewA.monoS (w0 := w) (NewA.of_born (z := zb) 0)).out ⟨zb, 0, none⟩ rfl
  go_wp2_with fail
  refine (eachD_calls (l := l) ys U (hr.later (stepN (w0 := w)).chg) HL.out hm (fun x h => Nat.lt_of_lt_of_le (hUl x h) (stepN (w0 := w)).chg.size) (fun x hx w1 h => HLAY.out x hx w1 (((stepN (w0 := w)).chg.mono (fun _ _ h => h.elim)).trans h (fun _ _ h => h)))).mono ?_
  rintro e w6 ⟨f6, caps6, T6, rfl, _, hL6, hT6⟩
  have kb2 := run_fld2 f5 f6 caps5 caps6
  go_wp2_with (first | ((with_reducible apply (stop_dst (dst := some 12))); (try simp only [Act.put, sA, sB, sC]); ((with_reducible apply (wpl_bslice (dst := some 12))); (exact kb2 _); intro zc wb _ _ _)))
  refine (fields2 (z := zc) (hL5.later (stepN (w0 := w5)).chg (fun _ _ h => h)) (hL6.later (stepN (w0 := w6)).chg (fun _ _ h => h))).mono ?_
  rintro e w7 ⟨f7, caps7, T7, rfl, _, hL7, hT7⟩
  have hzc : w.heap.size ≤ zc := (NewA.monoS (w0 := w) (NewA.of_born (z := zc) 0)).out ⟨zc, 0, none⟩ rfl
  go_wp2_with fail
  go_ret
  refine ⟨f7, caps7, T7, rfl, stepN, hL7, fun x hx => ?_⟩
  rcases hT7 x hx with h | rfl | h | h
  · exact .inl (Nat.le_trans (stepN (w0 := w)).chg.size h)
  · exact .inl hzc
  · rcases hT5 x h with h | rfl
    · exact .inl (Nat.le_trans (stepN (w0 := w)).chg.size h)
    · exact .inl hzb
  · rcases hT6 x h with h | h
    · exact .inl (Nat.le_trans (stepN (w0 := w)).chg.size h)
    · exact .inr h
end Go.Proofs.YtmnapacibpnodaaGreat
end
section
open Go Go.RowKit
namespace Go.Proofs.YtmnapacibpnodaaGreat
instance rowTTgs : RowT Tryz.prog 142 5 := ⟨by kernel_rfl, _, Tryz.underlying142, rfl⟩
instance zeroTTgs : ZeroT Tryz.prog 142 #[.string ⟨#[]⟩, .int .i64 0, .int .i64 0, .slice none 0 0, .slice none 0 0] := ⟨.agg #[.string ⟨#[]⟩, .int .i64 0, .int .i64 0, .slice none 0 0, .slice none 0 0], fun _ => by kernel_rfl, rfl⟩
/-- what of targets must hold ahead of their order -/
structure TgsIn (nm : List UInt8) (v e0 : Int) (P : List TargetR) : Prop where
  nm : nameL nm = true
  v : verB v = true
  e : numB e0 = true
  n : P.length ≤ 16
  a : P.all tgOk = true
/-- the blocks that targets lie in -/
def inTgs (A : Option Addr) (P : List TargetR) : Nat → Prop := fun x => cellsOf P ≠ [] ∧ rowOf A x
def tgsE (P : List TargetR) : List UInt8 := P.flatMap tgE
def tgs0E (nm : List UInt8) (v e0 : Int) (n : Nat) (P : List TargetR) : List UInt8 := encRow nm ++ (encAll [v, e0] ++ ((encAll [(n : Int)] ++ tgsE P) ++ encAll [0]))
theorem tgsE_len (P : List TargetR) (h : P.all tgOk = true) : (tgsE P).length ≤ 140 * P.length := by
  induction P with
  | nil => exact Nat.zero_le _
  | cons p P ih =>
    have e : tgsE (p :: P) = tgE p ++ tgsE P := rfl
    rw [List.all_cons, Bool.and_eq_true] at h
    have h1 := ih h.2
    have h2 := h.1
    unfold tgOk at h2
    simp only [Bool.and_eq_true, decide_eq_true_eq] at h2
    have a1 := encRow_len p.l (by have := nameL_le h2.1.1.1.1.1; omega)
    have a2 := encRow_len p.hw (by have := nameL_le h2.1.1.2; omega)
    have a3 := encRow_len p.ecu (by have := nameE_le h2.2; omega)
    have b1 := nameL_le h2.1.1.1.1.1
    have b2 := nameL_le h2.1.1.2
    have b3 := nameE_le h2.2
    have c1 := encAll_len [p.size]
    have c2 := encAll_len [p.ctr]
    have c3 := p.sum.len
    rw [e, List.length_append, List.length_cons, tgE]
    simp only [List.length_append, List.length_cons, List.length_nil] at *
    omega
end Go.Proofs.YtmnapacibpnodaaGreat
end
