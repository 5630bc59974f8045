/- EnB -/
import Derived.Test.YthcleccofccbdaaTrEnA
import Derived.Test.YthcleccofccbdaaTrWuA
import Derived.Test.YthcleccofccbdaaTrWsB
open Go Go.RowKit
namespace Go.Proofs.Ythcleccofccbdaa
/-- the blocks that a mark's rows lie in -/
def inMk (r : MarkR) : Nat → Prop := fun x => inRow r.A r.l x ∨ inRow r.B r.p x
def inMks (L : List MarkR) : Nat → Prop := fun x => ∃ r ∈ L, inMk r x
theorem MarkIn.chg {S : Nat → Prop} {w0 w : World} {r : MarkR} (h : MarkIn w0 r) (hc : Chg S w0 w) (hS : ∀ x, inMk r x → ¬ S x) : MarkIn w r := ⟨h.1.chg hc (fun hne ad e hk => hS _ (.inl ⟨hne, ad, e, rfl⟩) hk), h.2.chg hc (fun hne ad e hk => hS _ (.inr ⟨hne, ad, e, rfl⟩) hk)⟩
theorem MarkIn.low {w : World} {r : MarkR} (h : MarkIn w r) (x : Nat) (hx : inMk r x) : x < w.heap.size := by
  rcases hx with ⟨hne, ad, e, rfl⟩ | ⟨hne, ad, e, rfl⟩
  · exact rd_lt h.1 hne e
  · exact rd_lt h.2 hne e
theorem mkME_len (r : MarkR) (h : mkOk r = true) : (mkME r.m).length ≤ 1400 := by
  have h2 : isS r.leaf r.l.length r.p.length = true := h
  unfold isS at h2
  simp only [Bool.and_eq_true, decide_eq_true_eq] at h2
  obtain ⟨⟨⟨_, _⟩, h3⟩, h4⟩ := h2
  have a1 := encAll_len [r.leaf]
  have a2 := kflatH_len r.l
  have a3 := kflatH_len r.p
  have a4 : (sigB r.leaf r.l r.p).length ≤ 1300 := by
    unfold sigB
    rw [List.length_append, List.length_append]
    simp only [List.length_cons, List.length_nil] at a1
    omega
  have a5 := encRow_len (sigB r.leaf r.l r.p) (by omega)
  show (r.key.l ++ encRow (sigB r.leaf r.l r.p)).length ≤ 1400
  rw [List.length_append, H32.len]
  omega
theorem marksE_len (L : List MarkR) (h : L.all mkOk = true) : (marksE (L.map MarkR.m)).length ≤ 1400 * L.length := by
  induction L with
  | nil => exact Nat.zero_le _
  | cons r L ih =>
    rw [List.all_cons, Bool.and_eq_true] at h
    have h1 := ih h.2
    have h2 := mkME_len r h.1
    have e : marksE ((r :: L).map MarkR.m) = mkME r.m ++ marksE (L.map MarkR.m) := rfl
    rw [e, List.length_append, List.length_cons]
    omega
set_option maxRecDepth 100000 in
theorem laidS_calls {zr n c : Nat} {B : Option Addr} {ys : List UInt8} {w : World} {t3 : TypeId} [hbz : HB w zr t3 #[.slice B n c]] (hr : Rd w B (bs ys)) (hn : ys.length = n) :
    Calls Try.prog 180 #[.func (.func 181) #[] #[], .slice (some ⟨zr, 0, none⟩) 1 1] w fun e w' => ∃ f caps T, e = .returned (.func (.func f) #[] caps) ∧ Step nowhere w w' ∧ Lays w' T (.func (.func f) #[] caps) (encRow ys) ∧ ∀ x, T x → w.heap.size ≤ x ∨ x = zr ∨ (bs ys ≠ [] ∧ rowOf B x) := by
  go_enter Try.func180, Try.ntmps180
  go_wp2_with (first | ((with_reducible apply (wpl_box (dst := some 2) (cs := #[.func (.func 181) #[] #[]]))); (exact rfl); (exact rfl); intro bl wbl _ _ _) | ((with_reducible apply (wpl_box_slice (dst := some 3))); (exact rfl); intro bv wbv _ _ _))
  go_ret
  have h1 : HB wbv bl 230 #[.func (.func 181) #[] #[]] := inferInstance
  have h2 : HB wbv bv 259 #[.slice (some ⟨zr, 0, none⟩) 1 1] := inferInstance
  have h3 : HB wbv zr t3 #[.slice B n c] := inferInstance
  have hst : Step nowhere w wbv := stepN
  have hbl : w.heap.size ≤ bl := Nat.le_of_eq (inferInstance : Born w bl).eq.symm
  have hbv : w.heap.size ≤ bv := by
    have e1 := (inferInstance : Born wbl bv).eq
    have e2 := (inferInstance : SzLe w wbl).out
    omega
  have hr2 := hr.later hst.chg
  refine ⟨_, _, fun x => x = bl ∨ x = bv ∨ x = zr ∨ (bs ys ≠ [] ∧ rowOf B x), rfl, hst, ⟨fun x hx => ?_, _, _, rfl, run_enter Try.func217 (by kernel_rfl) rfl, fun w1 g A xs hc hw hT hlen => ?_⟩, fun x hx => ?_⟩
  · rcases hx with rfl | rfl | rfl | ⟨hne, ad, e, hk⟩
    · exact h1.out.lt
    · exact h2.out.lt
    · exact h3.out.lt
    · rw [← hk]
      exact rd_lt hr2 hne e
  · have k1 : HB w1 bl 230 #[.func (.func 181) #[] #[]] := ⟨h1.out.chg hc (fun hk => hk (.inl rfl))⟩
    have k2 : HB w1 bv 259 #[.slice (some ⟨zr, 0, none⟩) 1 1] := ⟨h2.out.chg hc (fun hk => hk (.inr (.inl rfl)))⟩
    have k3 : HB w1 zr t3 #[.slice B n c] := ⟨h3.out.chg hc (fun hk => hk (.inr (.inr (.inl rfl))))⟩
    have hle : ys.length ≤ (encRow ys).length := by
      unfold encRow
      rw [List.length_append]
      omega
    exact laidR1_calls rfl hw (hr2.chg hc (fun hne ad e hk => hk (.inr (.inr (.inr ⟨hne, ad, e, rfl⟩))))) hn (fun h => hT zr h (.inr (.inr (.inl rfl)))) (fun hne ad e hk => hT _ hk (.inr (.inr (.inr ⟨hne, ad, e, rfl⟩)))) (by omega)
  · rcases hx with rfl | rfl | rfl | ⟨hne, hk⟩
    · exact .inl hbl
    · exact .inl hbv
    · exact .inr (.inl rfl)
    · exact .inr (.inr ⟨hne, hk⟩)
set_option maxRecDepth 100000 in
/-- a row of bytes as a field: what it hangs on, told exactly -/
theorem rowS_calls {n c : Nat} {B : Option Addr} {ys : List UInt8} {w : World} (hr : Rd w B (bs ys)) (hn : ys.length = n) :
    Calls Try.prog 126 #[.slice B n c] w (FldPost w (encRow ys) (fun x => bs ys ≠ [] ∧ rowOf B x)) := by
  have kb := run_rowN B n c
  unfold FldPost
  go_enter Try.func126, Try.ntmps126
  go_wp2_with (first | ((with_reducible apply (stop_dst (dst := some 4))); (try simp only [Act.put, sA, sB, sC]); ((with_reducible apply (wpl_bslice (dst := some 4))); (exact kb _); intro zr wb _ _ _)))
  have hzr : w.heap.size ≤ zr := Nat.le_trans (inferInstance : SzLe w _).out (Nat.le_of_eq (inferInstance : Born _ zr).eq.symm)
  refine (laidS_calls (zr := zr) (hr.later (stepN (w0 := w)).chg) hn).mono ?_
  rintro e w5 ⟨f, caps, T, rfl, hs, hL, hT⟩
  go_wp2_with fail
  go_ret
  refine ⟨f, caps, T, rfl, stepN, hL, fun x hx => ?_⟩
  rcases hT x hx with h | rfl | h
  · exact .inl (Nat.le_trans (stepN (w0 := w)).chg.size h)
  · exact .inl hzr
  · exact .inr h
set_option maxRecDepth 100000 in
set_option maxHeartbeats 1600000 in
theorem each1Mk_calls {w : World} {g zl zf n c : Nat} {A B : Option Addr} {xs : List UInt8} {l : List MarkR} {t1 t2 : TypeId} {fx : FuncId} (hf : fx = 128) (ys : MarkR → List UInt8) (U : Nat → Prop) (hw : WrAt w g A xs) [h1 : HB w zl t1 #[.slice B n c]] [h2 : HB w zf t2 #[.func (.func fx) #[] #[]]] (hr : Rd w B (cellsOf l)) (hl : l.length = n) (hm : n ≤ 1000000000)
    (hU : ∀ x, U x → ¬ Wf g A x) (hUl : ∀ x, U x → x < w.heap.size) (hzl : ¬ Wf g A zl) (hzf : ¬ Wf g A zf) (hB : Apart (Wf g A) B (cellsOf l)) (hlay : ∀ x ∈ l, ∀ w1, Chg (fun x => ¬ U x) w w1 → Calls Try.prog 128 #[.agg (RowC.enc x).toArray] w1 (FldPost w1 (ys x) U)) (hx : xs.length + (l.flatMap ys).length ≤ 1000000000) :
    Calls Try.prog 218 #[.pointer (some ⟨g, 0, none⟩), .pointer (some ⟨zl, 0, none⟩), .pointer (some ⟨zf, 0, none⟩)] w fun e w' => e = .returned (.tuple #[]) ∧ ∃ A', WrAt w' g A' (xs ++ l.flatMap ys) ∧ Chg (Wf g A) w w' ∧ Moved w A A' := by
  subst hf
  have HL := Lib.hid hl
  have HLAY := Lib.hid hlay
  have HX := Lib.hid hx
  clear hlay hx
  go_enter Try.func218, Try.ntmps218
  go_wp2_with (first | ((with_reducible apply wpl_alloc); intro z wz _ _ _) | ((with_reducible apply wpl_loadrow); (exact rfl); infer_instance; infer_instance; (first | (with_reducible assumption) | (with_reducible exact H32.size _) | (with_reducible exact enc_sz _ rfl) | kernel_rfl)) | ((with_reducible apply wpl_loadcellN); (exact rfl); infer_instance; (exact rfl)) | ((with_reducible apply wpl_storerow); (exact rfl); (exact rfl); infer_instance; infer_instance; (first | (with_reducible assumption) | (with_reducible exact H32.size _) | (with_reducible exact enc_sz _ rfl) | kernel_rfl); (first | (with_reducible assumption) | (with_reducible exact H32.size _) | (with_reducible exact enc_sz _ rfl) | kernel_rfl); (first | (with_reducible exact u8s_one _) | (with_reducible assumption) | (with_reducible exact enc_one _) | kernel_rfl); intro ws _ _) | ((with_reducible apply wpl_storecell); (exact rfl); (exact rfl); infer_instance; (exact rfl); (first | (with_reducible assumption) | omega | (focus (simp; done)) | (focus (simp; omega; done)) | decide); intro ws _ _))
  go_loopw [8] (fun iv wr => ∃ (k : Nat) (A1 : Option Addr), k ≤ n ∧ iv = .int .i64 (k : Int) ∧ WrAt wr g A1 (xs ++ (l.take k).flatMap ys) ∧ Chg (Wf g A) w wr ∧ Moved w A A1) (fun iv _ => n - (intOf iv).toNat)
  case atStart => exact ⟨0, A, Nat.zero_le _, rfl, by simpa using hw, Chg.refl _ _, Moved.refl _ _⟩
  case round =>
    obtain ⟨k, A1, hk, rfl, hW, hC, hM⟩ := hrel
    have HW := Lib.hid hW
    have HM := Lib.hid hM
    clear hW hM
    by_cases hlt : k < n
    · have hltI : (k : Int) < n := by omega
      have hkl : k < l.length := by omega
      have hr1 : HR wr B (cellsOf l) := ⟨hr.chg hC hB⟩
      have k2 : HB wr zf t2 #[.func (.func 128) #[] #[]] := ⟨h2.out.chg hC hzf⟩
      have hmem : gt l k ∈ l := gt_mem l k hkl
      have HTK : Hid ((l.take (k + 1)).flatMap ys = (l.take k).flatMap ys ++ ys (gt l k)) := Lib.hid (by
        rw [← List.take_append_getElem hkl, List.flatMap_append]
        simp [gt, List.getD_eq_getElem?_getD, hkl])
      have HLE : Hid (((l.take k).flatMap ys).length + (ys (gt l k)).length ≤ (l.flatMap ys).length) := Lib.hid (by
        have e : l.flatMap ys = (l.take (k + 1)).flatMap ys ++ (l.drop (k + 1)).flatMap ys := by rw [← List.flatMap_append, List.take_append_drop]
        rw [e, HTK.out, List.length_append, List.length_append]
        omega)
      go_wp2_with (first | ((with_reducible apply (wpl_alloc (dst := some 5))); intro zv wzv _ _ _) | ((with_reducible apply wpl_alloc); intro z wz _ _ _) | ((with_reducible apply wpl_loadrow); (exact rfl); infer_instance; infer_instance; (first | (with_reducible assumption) | (with_reducible exact H32.size _) | (with_reducible exact enc_sz _ rfl) | kernel_rfl)) | ((with_reducible apply wpl_loadcellN); (exact rfl); infer_instance; (exact rfl)) | ((with_reducible apply wpl_storerow); (exact rfl); (exact rfl); infer_instance; infer_instance; (first | (with_reducible assumption) | (with_reducible exact H32.size _) | (with_reducible exact enc_sz _ rfl) | kernel_rfl); (first | (with_reducible assumption) | (with_reducible exact H32.size _) | (with_reducible exact enc_sz _ rfl) | kernel_rfl); (first | (with_reducible exact u8s_one _) | (with_reducible assumption) | (with_reducible exact enc_one _) | kernel_rfl); intro ws _ _) | ((with_reducible apply wpl_storecell); (exact rfl); (exact rfl); infer_instance; (exact rfl); (first | (with_reducible assumption) | omega | (focus (simp; done)) | (focus (simp; omega; done)) | decide); intro ws _ _) | ((with_reducible apply wpl_indexH); (exact rfl); (exact rfl); infer_instance; infer_instance; (first | (with_reducible assumption) | omega); (first | (with_reducible assumption) | omega); (first | (with_reducible assumption) | omega)) | ((with_reducible apply wpl_indexH'); (exact rfl); (exact rfl); infer_instance; infer_instance; (first | (with_reducible assumption) | omega); (first | (with_reducible assumption) | omega); (first | (with_reducible assumption) | omega)) | ((with_reducible apply (wpl_loadhash (t := 78))); (exact rfl); infer_instance; infer_instance; (first | (with_reducible assumption) | omega)) | ((with_reducible apply (wpl_storehash (t := 78))); (exact rfl); (exact rfl); infer_instance; infer_instance; (first | (with_reducible assumption) | omega | (focus (simp; done)) | (focus (simp; omega; done)) | decide); intro ws _ _) | ((with_reducible apply (wpl_loadbyteH (t := 5))); (exact rfl); infer_instance; (first | (with_reducible assumption) | omega); (first | (with_reducible assumption) | omega)) | ((with_reducible apply (wpl_storebyteH (t := 5))); (exact rfl); (exact rfl); infer_instance; (first | (with_reducible assumption) | omega); (first | (with_reducible assumption) | omega); (first | (constructor <;> omega) | exact xor_u8_in _ _); intro ws _ _) | ((with_reducible apply (wpl_indexE (α := MarkR) (t := 56))); (exact rfl); (exact rfl); infer_instance; infer_instance; (first | (with_reducible assumption) | omega | (focus (simp; done)) | (focus (simp; omega; done)) | decide); (exact rfl); (decide); (first | (with_reducible assumption) | omega | (focus (simp; done)) | (focus (simp; omega; done)) | decide)) | ((with_reducible apply (wpl_indexE0 (α := MarkR) (t := 56))); (exact rfl); infer_instance; infer_instance; (first | (with_reducible assumption) | omega | (focus (simp; done)) | (focus (simp; omega; done)) | decide); (exact rfl); (decide); (first | (with_reducible assumption) | omega | (focus (simp; done)) | (focus (simp; omega; done)) | decide)) | ((with_reducible apply (wpl_loadE (α := MarkR) (t := 125))); infer_instance; (exact rfl); infer_instance; (exact rfl); (decide); (first | (with_reducible assumption) | omega | (focus (simp; done)) | (focus (simp; omega; done)) | decide)) | ((with_reducible apply (wpl_loadF (α := MarkR))); infer_instance; (exact rfl); infer_instance; (exact rfl); (first | (with_reducible assumption) | omega | (focus (simp; done)) | (focus (simp; omega; done)) | decide); (exact rfl)) | ((with_reducible apply (wpl_loadint (t := 3))); (exact rfl); infer_instance; infer_instance; (first | (with_reducible assumption) | omega)) | ((with_reducible apply (wpl_loadbyte (t := 5))); (exact rfl); infer_instance; infer_instance; (first | (with_reducible assumption) | omega)) | ((with_reducible apply (wpl_storeint (t := 3))); (exact rfl); (exact rfl); infer_instance; (first | (with_reducible assumption) | omega); intro ws _ _) | ((with_reducible apply (wpl_storebyte (t := 5))); (exact rfl); (exact rfl); infer_instance; (first | (with_reducible assumption) | omega | (focus (simp; done)) | (focus (simp; omega; done)) | decide); (constructor <;> omega); intro ws _ _))
      refine (HLAY.out (gt l k) hmem _ ((hC.mono (fun x _ h h' => hU x h' h)).trans (stepN (w0 := wr)).chg (fun _ _ h => h.elim))).mono ?_
      rintro e w5 ⟨f, caps, T, rfl, hs5, hL5, hT5⟩
      have n5 : Nw wr w5 := inferInstance
      have hsz := n5.out.size
      obtain ⟨f9, caps9, he9, hent, hrun⟩ := hL5.run
      injection he9 with e1 _ e2
      injection e1 with e1
      subst e1 e2
      have hTT : ∀ x, Wf g A1 x → ¬ T x := by
        intro x hx hTx
        have hxl := HW.out.old x hx
        rcases hT5 x hTx with h | h
        · have := Nat.le_trans (stepN (w0 := wr)).chg.size h
          omega
        · rcases hx with rfl | ⟨ad, e, rfl⟩
          · exact hU _ h (.inl rfl)
          · rcases HM.out with rfl | ⟨ad', e', h'⟩
            · exact hU _ h (.inr ⟨ad, e, rfl⟩)
            · rw [e] at e'
              injection e' with e'
              subst e'
              have := hUl _ h
              omega
      have HRUN := Lib.hid (hrun w5 g A1 (xs ++ (l.take k).flatMap ys) (Chg.refl _ _) (HW.out.chg n5.out (fun _ _ h => h)) hTT (by
        have h1 := HLE.out
        have h2 := HX.out
        rw [List.length_append]
        omega))
      clear hrun hL5 hT5
      go_wp2_with fail
      refine HRUN.out.mono ?_
      rintro e w6 ⟨rfl, A6, hW6, hC6, hM6⟩
      have h7 := wf_trans (hC.trans n5.out (fun _ _ h => h.elim)) HM.out hC6 hM6
      have HW6 := Lib.hid hW6
      clear hW6 hC6 hM6
      go_wp2_with fail
      refine ⟨⟨k + 1, A6, by omega, by go_num, ?_, h7.1, h7.2⟩, by simp [intOf]; omega⟩
      rw [HTK.out, ← List.append_assoc]
      exact HW6.out
    · have hltI : ¬ (k : Int) < n := by omega
      have hfin : l.take k = l := List.take_of_length_le (by have := HL.out; omega)
      rw [hfin] at HW
      go_wp2_with fail
      go_end0
      exact ⟨rfl, A1, HW.out, hC, HM.out⟩
set_option maxRecDepth 100000 in
set_option maxHeartbeats 1600000 in
theorem eachMk_calls {w : World} {n c : Nat} {B : Option Addr} {l : List MarkR} (ys : MarkR → List UInt8) (U : Nat → Prop) (hr : Rd w B (cellsOf l)) (hl : l.length = n) (hm : n ≤ 1000000000) (hUl : ∀ x, U x → x < w.heap.size)
    (hlay : ∀ x ∈ l, ∀ w1, Chg (fun x => ¬ U x) w w1 → Calls Try.prog 128 #[.agg (RowC.enc x).toArray] w1 (FldPost w1 (ys x) U)) :
    Calls Try.prog 182 #[.slice B n c, .func (.func 128) #[] #[]] w (FldPost w (l.flatMap ys) (fun x => (cellsOf l ≠ [] ∧ rowOf B x) ∨ U x)) := by
  have HLAY := Lib.hid hlay
  clear hlay
  unfold FldPost
  go_enter Try.func182, Try.ntmps182
  go_wp2_with (first | ((with_reducible apply (wpl_box_slice (dst := some 2))); (exact rfl); intro bl wbl _ _ _) | ((with_reducible apply (wpl_box (dst := some 3) (cs := #[.func (.func 128) #[] #[]]))); (exact rfl); (exact rfl); intro bv wbv _ _ _))
  go_ret
  have h1 : HB wbv bl 56 #[.slice B n c] := inferInstance
  have h2 : HB wbv bv 187 #[.func (.func 128) #[] #[]] := inferInstance
  have hst : Step nowhere w wbv := stepN
  have hbl : w.heap.size ≤ bl := Nat.le_of_eq (inferInstance : Born w bl).eq.symm
  have hbv : w.heap.size ≤ bv := by
    have e1 := (inferInstance : Born wbl bv).eq
    have e2 := (inferInstance : SzLe w wbl).out
    omega
  have hr2 := hr.later hst.chg
  refine ⟨_, _, fun x => x = bl ∨ x = bv ∨ (cellsOf l ≠ [] ∧ rowOf B x) ∨ U x, rfl, hst, ⟨fun x hx => ?_, _, _, rfl, run_enter Try.func218 (by kernel_rfl) rfl, fun w1 g A xs hc hw hT hlen => ?_⟩, fun x hx => ?_⟩
  · rcases hx with rfl | rfl | ⟨hne, ad, e, hk⟩ | h
    · exact h1.out.lt
    · exact h2.out.lt
    · rw [← hk]
      exact rd_lt hr2 hne e
    · exact Nat.lt_of_lt_of_le (hUl x h) hst.chg.size
  · have k1 : HB w1 bl 56 #[.slice B n c] := ⟨h1.out.chg hc (fun hk => hk (.inl rfl))⟩
    have k2 : HB w1 bv 187 #[.func (.func 128) #[] #[]] := ⟨h2.out.chg hc (fun hk => hk (.inr (.inl rfl)))⟩
    exact each1Mk_calls (zl := bl) (zf := bv) rfl ys U hw (hr2.chg hc (fun hne ad e hk => hk (.inr (.inr (.inl ⟨hne, ad, e, rfl⟩))))) hl hm
      (fun x hx h => hT x h (.inr (.inr (.inr hx)))) (fun x hx => Nat.lt_of_lt_of_le (Nat.lt_of_lt_of_le (hUl x hx) hst.chg.size) hc.size) (fun h => hT _ h (.inl rfl)) (fun h => hT _ h (.inr (.inl rfl))) (fun hne ad e hk => hT _ hk (.inr (.inr (.inl ⟨hne, ad, e, rfl⟩))))
      (fun x hx w2 h => HLAY.out x hx w2 (((hst.chg.mono (T := fun x => ¬ U x) (fun _ _ h => h.elim)).trans (hc.mono (fun x _ h h' => h (.inr (.inr (.inr h'))))) (fun _ _ h => h)).trans h (fun _ _ h => h))) (by omega)
  · rcases hx with rfl | rfl | h | h
    · exact .inl hbl
    · exact .inl hbv
    · exact .inr (.inl h)
    · exact .inr (.inr h)
set_option maxRecDepth 100000 in
set_option maxHeartbeats 1600000 in
theorem listMk_calls {w : World} {n c : Nat} {B : Option Addr} {l : List MarkR} (ys : MarkR → List UInt8) (U : Nat → Prop) (hr : Rd w B (cellsOf l)) (hl : l.length = n) (hm : n ≤ 1000000000) (hUl : ∀ x, U x → x < w.heap.size)
    (hlay : ∀ x ∈ l, ∀ w1, Chg (fun x => ¬ U x) w w1 → Calls Try.prog 128 #[.agg (RowC.enc x).toArray] w1 (FldPost w1 (ys x) U)) :
    Calls Try.prog 127 #[.slice B n c, .func (.func 128) #[] #[]] w (FldPost w (encAll [(n : Int)] ++ l.flatMap ys) (fun x => (cellsOf l ≠ [] ∧ rowOf B x) ∨ U x)) := by
  have kb0 := run_int1 (n : Int)
  have HLAY := Lib.hid hlay
  have HL := Lib.hid hl
  clear hlay hl
  unfold FldPost
  go_enter Try.func127, Try.ntmps127
  go_wp2_with (first | ((with_reducible apply (stop_dst (dst := some 7))); (try simp only [Act.put, sA, sB, sC]); ((with_reducible apply (wpl_bslice (dst := some 7))); (exact kb0 _); intro zb wb _ _ _)))
  refine (numsC (z := zb) (vs := [(n : Int)]) rfl rfl (show 9 * 1 ≤ 1000000000 by decide)).mono ?_
  rintro e w5 ⟨f5, caps5, T5, rfl, _, hL5, hT5⟩
  have hzb : w.heap.size ≤ zb := (NewA.monoS (w0 := w) (NewA.of_born (z := zb) 0)).out ⟨zb, 0, none⟩ rfl
  go_wp2_with (first | fail)
  refine (eachMk_calls (l := l) ys U (hr.later (stepN (w0 := w)).chg) HL.out hm (fun x h => Nat.lt_of_lt_of_le (hUl x h) (stepN (w0 := w)).chg.size) (fun x hx w1 h => HLAY.out x hx w1 (((stepN (w0 := w)).chg.mono (fun _ _ h => h.elim)).trans h (fun _ _ h => h)))).mono ?_
  rintro e w6 ⟨f6, caps6, T6, rfl, _, hL6, hT6⟩
  have kb2 := run_fld2 f5 f6 caps5 caps6
  go_wp2_with (first | ((with_reducible apply (stop_dst (dst := some 12))); (try simp only [Act.put, sA, sB, sC]); ((with_reducible apply (wpl_bslice (dst := some 12))); (exact kb2 _); intro zc wb _ _ _)))
  refine (fields2 (z := zc) (hL5.later (stepN (w0 := w5)).chg (fun _ _ h => h)) (hL6.later (stepN (w0 := w6)).chg (fun _ _ h => h))).mono ?_
  rintro e w7 ⟨f7, caps7, T7, rfl, _, hL7, hT7⟩
  have hzc : w.heap.size ≤ zc := (NewA.monoS (w0 := w) (NewA.of_born (z := zc) 0)).out ⟨zc, 0, none⟩ rfl
  go_wp2_with fail
  go_ret
  refine ⟨f7, caps7, T7, rfl, stepN, hL7, fun x hx => ?_⟩
  rcases hT7 x hx with h | rfl | h | h
  · exact .inl (Nat.le_trans (stepN (w0 := w)).chg.size h)
  · exact .inl hzc
  · rcases hT5 x h with h | rfl
    · exact .inl (Nat.le_trans (stepN (w0 := w)).chg.size h)
    · exact .inl hzb
  · rcases hT6 x h with h | h
    · exact .inl (Nat.le_trans (stepN (w0 := w)).chg.size h)
    · exact .inr h
set_option maxRecDepth 100000 in
set_option maxHeartbeats 1600000 in
theorem layMark_calls (k : MarkR) {w : World} (hk : MarkIn w k) (ho : mkOk k = true) :
    Calls Try.prog 128 #[.agg (RowC.enc k).toArray] w (FldPost w (mkME k.m) nowhere) := by
  have hsz := enc_sz k (n := RowC.size MarkR) rfl
  have hon := enc_one k
  have hpt := mark_part k
  have hph := mark_hash k
  have ho2 : isS k.leaf k.l.length k.p.length = true := ho
  have HO2 := Lib.hid ho2
  have hrA : HR w k.A (cellsOf k.l) := ⟨hk.1⟩
  have hrB : HR w k.B (cellsOf k.p) := ⟨hk.2⟩
  clear ho ho2
  unfold FldPost
  go_enter Try.func128, Try.ntmps128
  go_wp2_with (first | ((with_reducible apply (wpl_loadpart (k := 32) (n := 3))); (exact rfl); (exact ‹HB _ zk _ _›); infer_instance; (decide); (exact hpt); (exact rfl)) | ((with_reducible apply (wpl_box_agg (dst := some 1))); (exact rfl); intro zk wzk _ _ _) | ((with_reducible apply (wpl_box_int (dst := some 1))); (exact rfl); intro zk wzk _ _ _) | ((with_reducible apply (wpl_box_slice (dst := some 1))); (exact rfl); intro zk wzk _ _ _) | ((with_reducible apply (wpl_box_str (dst := some 1))); (exact rfl); intro zk wzk _ _ _) | ((with_reducible apply (wpl_box_bool (dst := some 1))); (exact rfl); intro zk wzk _ _ _) | ((with_reducible apply (wpl_box_ptr (dst := some 1))); (exact rfl); intro zk wzk _ _ _) | ((with_reducible apply wpl_box_agg); (exact rfl); intro z wz _ _ _) | ((with_reducible apply wpl_box_int); (exact rfl); intro z wz _ _ _) | ((with_reducible apply wpl_box_slice); (exact rfl); intro z wz _ _ _) | ((with_reducible apply wpl_box_str); (exact rfl); intro z wz _ _ _) | ((with_reducible apply wpl_box_bool); (exact rfl); intro z wz _ _ _) | ((with_reducible apply wpl_box_ptr); (exact rfl); intro z wz _ _ _) | ((with_reducible apply wpl_loadrow); (exact rfl); infer_instance; infer_instance; (first | (with_reducible assumption) | (with_reducible exact H32.size _) | (with_reducible exact enc_sz _ rfl) | kernel_rfl)) | ((with_reducible apply wpl_loadcellN); (exact rfl); infer_instance; (exact rfl)))
  refine (kencode_calls (l := k.l) (p := k.p) rfl rfl).mono ?_
  rw [HO2.out]
  unfold KEncPost
  rintro e w5 ⟨st5, A5, n5, c5, rfl, hn5, hO5, hA5⟩
  have HN5 := Lib.hid hn5
  have HO5 := Lib.hid hO5.out.rd
  have hzk5 : HB w5 zk 125 (RowC.enc k).toArray := inferInstance
  clear hn5 hO5
  go_wp2_with (first | ((with_reducible apply (wpl_loadpartH (k := 0))); (exact rfl); (exact hzk5); infer_instance; (exact hph)) | ((with_reducible apply wpl_box_agg); (exact rfl); intro z wz _ _ _) | ((with_reducible apply wpl_box_int); (exact rfl); intro z wz _ _ _) | ((with_reducible apply wpl_box_slice); (exact rfl); intro z wz _ _ _) | ((with_reducible apply wpl_box_str); (exact rfl); intro z wz _ _ _) | ((with_reducible apply wpl_box_bool); (exact rfl); intro z wz _ _ _) | ((with_reducible apply wpl_box_ptr); (exact rfl); intro z wz _ _ _) | ((with_reducible apply wpl_loadrow); (exact rfl); infer_instance; infer_instance; (first | (with_reducible assumption) | (with_reducible exact H32.size _) | (with_reducible exact enc_sz _ rfl) | kernel_rfl)) | ((with_reducible apply wpl_loadcellN); (exact rfl); infer_instance; (exact rfl)))
  refine (fhash_calls k.key _).mono ?_
  rintro e w6 ⟨f6, caps6, T6, rfl, _, hL6, hT6⟩
  go_wp2_with (first | ((with_reducible apply wpl_box_agg); (exact rfl); intro z wz _ _ _) | ((with_reducible apply wpl_box_int); (exact rfl); intro z wz _ _ _) | ((with_reducible apply wpl_box_slice); (exact rfl); intro z wz _ _ _) | ((with_reducible apply wpl_box_str); (exact rfl); intro z wz _ _ _) | ((with_reducible apply wpl_box_bool); (exact rfl); intro z wz _ _ _) | ((with_reducible apply wpl_box_ptr); (exact rfl); intro z wz _ _ _) | ((with_reducible apply wpl_loadrow); (exact rfl); infer_instance; infer_instance; (first | (with_reducible assumption) | (with_reducible exact H32.size _) | (with_reducible exact enc_sz _ rfl) | kernel_rfl)) | ((with_reducible apply wpl_loadcellN); (exact rfl); infer_instance; (exact rfl)))
  refine (rowS_calls (ys := sigB k.leaf k.l k.p) (HO5.out.later (stepN (w0 := w5)).chg) HN5.out.symm).mono ?_
  rintro e w7 ⟨f7, caps7, T7, rfl, _, hL7, hT7⟩
  have kb2 := run_fld2 f6 f7 caps6 caps7
  go_wp2_with (first | ((with_reducible apply (stop_dst (dst := some 16))); (try simp only [Act.put, sA, sB, sC]); ((with_reducible apply (wpl_bslice (dst := some 16))); (exact kb2 _); intro zc wb _ _ _)) | ((with_reducible apply wpl_box_agg); (exact rfl); intro z wz _ _ _) | ((with_reducible apply wpl_box_int); (exact rfl); intro z wz _ _ _) | ((with_reducible apply wpl_box_slice); (exact rfl); intro z wz _ _ _) | ((with_reducible apply wpl_box_str); (exact rfl); intro z wz _ _ _) | ((with_reducible apply wpl_box_bool); (exact rfl); intro z wz _ _ _) | ((with_reducible apply wpl_box_ptr); (exact rfl); intro z wz _ _ _) | ((with_reducible apply wpl_loadrow); (exact rfl); infer_instance; infer_instance; (first | (with_reducible assumption) | (with_reducible exact H32.size _) | (with_reducible exact enc_sz _ rfl) | kernel_rfl)) | ((with_reducible apply wpl_loadcellN); (exact rfl); infer_instance; (exact rfl)))
  refine (fields2 (z := zc) (hL6.later (stepN (w0 := w6)).chg (fun _ _ h => h)) (hL7.later (stepN (w0 := w7)).chg (fun _ _ h => h))).mono ?_
  rintro e w8 ⟨f8, caps8, T8, rfl, _, hL8, hT8⟩
  have hzc : w.heap.size ≤ zc := (NewA.monoS (w0 := w) (NewA.of_born (z := zc) 0)).out ⟨zc, 0, none⟩ rfl
  go_wp2_with fail
  go_ret
  refine ⟨f8, caps8, T8, rfl, stepN, hL8, fun x hx => .inl ?_⟩
  rcases hT8 x hx with h | rfl | h | h
  · exact Nat.le_trans (stepN (w0 := w)).chg.size h
  · exact hzc
  · exact Nat.le_trans (stepN (w0 := w)).chg.size (hT6 x h)
  · rcases hT7 x h with h | ⟨_, ad, e, h⟩
    · exact Nat.le_trans (stepN (w0 := w)).chg.size h
    · rw [← h]
      exact Nat.le_trans (stepN (w0 := w)).chg.size (hA5.out ad e)
/-- the blocks that an envelope lies in -/
def inEnv (M : Option Addr) (m : List UInt8) (A : Option Addr) (L : List MarkR) : Nat → Prop := fun x => (bs m ≠ [] ∧ rowOf M x) ∨ (cellsOf L ≠ [] ∧ rowOf A x) ∨ inMks L x
set_option maxRecDepth 100000 in
set_option maxHeartbeats 1600000 in
theorem layEnv_calls {M A : Option Addr} {nb cb n c : Nat} {m : List UInt8} {L : List MarkR} {w : World} [hM : HR w M (bs m)] [hr : HR w A (cellsOf L)] (hK : ∀ x ∈ L, MarkIn w x) (hG : ∀ x ∈ L, mkOk x = true) (hm : m.length = nb) (hl : L.length = n) (hmx : n ≤ 1000000000) :
    Calls Try.prog 69 #[.agg #[.slice M nb cb, .slice A n c]] w (FldPost w (encRow m ++ (encAll [(n : Int)] ++ marksE (L.map MarkR.m))) (inEnv M m A L)) := by
  have HRR := Lib.hid hr.out
  have HMM := Lib.hid hM.out
  have HL := Lib.hid hl
  have HNB := Lib.hid hm
  have HK := Lib.hid hK
  have HG := Lib.hid hG
  have hE : L.flatMap (fun x => mkME x.m) = marksE (L.map MarkR.m) := by rw [marksE, List.flatMap_map]
  have HE := Lib.hid hE
  clear hl hm hK hG hE
  unfold FldPost
  go_enter Try.func69, Try.ntmps69
  go_wp2_with (first | ((with_reducible apply (wpl_box_agg (dst := some 1))); (exact rfl); intro zt wzt _ _ _) | ((with_reducible apply (wpl_box_int (dst := some 1))); (exact rfl); intro zt wzt _ _ _) | ((with_reducible apply (wpl_box_slice (dst := some 1))); (exact rfl); intro zt wzt _ _ _) | ((with_reducible apply (wpl_box_str (dst := some 1))); (exact rfl); intro zt wzt _ _ _) | ((with_reducible apply (wpl_box_bool (dst := some 1))); (exact rfl); intro zt wzt _ _ _) | ((with_reducible apply (wpl_box_ptr (dst := some 1))); (exact rfl); intro zt wzt _ _ _) | ((with_reducible apply wpl_box_agg); (exact rfl); intro z wz _ _ _) | ((with_reducible apply wpl_box_int); (exact rfl); intro z wz _ _ _) | ((with_reducible apply wpl_box_slice); (exact rfl); intro z wz _ _ _) | ((with_reducible apply wpl_box_str); (exact rfl); intro z wz _ _ _) | ((with_reducible apply wpl_box_bool); (exact rfl); intro z wz _ _ _) | ((with_reducible apply wpl_box_ptr); (exact rfl); intro z wz _ _ _) | ((with_reducible apply wpl_loadrow); (exact rfl); infer_instance; infer_instance; (first | (with_reducible assumption) | (with_reducible exact H32.size _) | (with_reducible exact enc_sz _ rfl) | kernel_rfl)) | ((with_reducible apply wpl_loadcellN); (exact rfl); infer_instance; (exact rfl)))
  have hwz := (stepN (w0 := w) (w := wzt)).chg.size
  refine wp_region_N (nowhere) (by kernel_rfl) (fun wd _ _ => ?_)
  refine' takeH (i := 0) (v := _) rfl (by kernel_rfl) (by kernel_rfl) (by kernel_rfl) (fun _ _ _ h => h) (yields_of (by rfl) (fun w' _ => ?_)) inferInstance ?_
  rotate_left
  · (first | ((with_reducible apply (ev_fieldE (t := 125))); (exact Try.underlying125); (exact rfl); (kernel_rfl); (exact rfl); infer_instance; (exact cells_pos (by decide) (by omega))) | (go_simp; try with_reducible rfl))
  try simp only [Act.put, sA]; try simp only [sB, sC]
  refine' takeH (i := 1) (v := _) rfl (by kernel_rfl) (by kernel_rfl) (by kernel_rfl) (fun _ _ _ h => h) (yields_of (by rfl) (fun w' _ => ?_)) inferInstance ?_
  rotate_left
  · (first | ((with_reducible apply ev_loadrow); (exact rfl); infer_instance; infer_instance; (first | (with_reducible assumption) | (with_reducible exact H32.size _) | (with_reducible exact enc_sz _ rfl) | kernel_rfl)) | ((with_reducible apply (ev_loadhash (t := 78))); (exact rfl); infer_instance; infer_instance; (first | (with_reducible assumption) | omega)) | ((with_reducible apply ev_loadcellN); (exact rfl); infer_instance; infer_instance; (exact rfl)) | ((with_reducible apply (ev_loadE (α := MarkR) (t := 125))); infer_instance; (exact rfl); infer_instance; (exact rfl); (decide); (first | (with_reducible assumption) | omega | (focus (simp; done)) | (focus (simp; omega; done)) | decide)) | ((with_reducible apply (ev_loadF (α := MarkR))); infer_instance; (exact rfl); infer_instance; (exact rfl); (first | (with_reducible assumption) | omega | (focus (simp; done)) | (focus (simp; omega; done)) | decide); (exact rfl)) | ((with_reducible apply (ev_loadint (t := 3))); (exact rfl); infer_instance; infer_instance; (first | (with_reducible assumption) | omega)) | ((with_reducible apply (ev_loadbyte (t := 5))); (exact rfl); infer_instance; infer_instance; (first | (with_reducible assumption) | omega)) | (go_simp; try with_reducible rfl))
  try simp only [Act.put, sA]; try simp only [sB, sC]
  refine' takeH (i := 3) (v := _) rfl (by kernel_rfl) (by kernel_rfl) (by kernel_rfl) (fun _ _ _ h => h) (yields_of (by rfl) (fun w' _ => ?_)) inferInstance ?_
  rotate_left
  · (first | ((with_reducible apply (ev_fieldE (t := 125))); (exact Try.underlying125); (exact rfl); (kernel_rfl); (exact rfl); infer_instance; (exact cells_pos (by decide) (by omega))) | (go_simp; try with_reducible rfl))
  try simp only [Act.put, sA]; try simp only [sB, sC]
  refine' takeH (i := 4) (v := _) rfl (by kernel_rfl) (by kernel_rfl) (by kernel_rfl) (fun _ _ _ h => h) (yields_of (by rfl) (fun w' _ => ?_)) inferInstance ?_
  rotate_left
  · (first | ((with_reducible apply ev_loadrow); (exact rfl); infer_instance; infer_instance; (first | (with_reducible assumption) | (with_reducible exact H32.size _) | (with_reducible exact enc_sz _ rfl) | kernel_rfl)) | ((with_reducible apply (ev_loadhash (t := 78))); (exact rfl); infer_instance; infer_instance; (first | (with_reducible assumption) | omega)) | ((with_reducible apply ev_loadcellN); (exact rfl); infer_instance; infer_instance; (exact rfl)) | ((with_reducible apply (ev_loadE (α := MarkR) (t := 125))); infer_instance; (exact rfl); infer_instance; (exact rfl); (decide); (first | (with_reducible assumption) | omega | (focus (simp; done)) | (focus (simp; omega; done)) | decide)) | ((with_reducible apply (ev_loadF (α := MarkR))); infer_instance; (exact rfl); infer_instance; (exact rfl); (first | (with_reducible assumption) | omega | (focus (simp; done)) | (focus (simp; omega; done)) | decide); (exact rfl)) | ((with_reducible apply (ev_loadint (t := 3))); (exact rfl); infer_instance; infer_instance; (first | (with_reducible assumption) | omega)) | ((with_reducible apply (ev_loadbyte (t := 5))); (exact rfl); infer_instance; infer_instance; (first | (with_reducible assumption) | omega)) | (go_simp; try with_reducible rfl))
  try simp only [Act.put, sA]; try simp only [sB, sC]
  refine goH (i := 2) (by kernel_rfl) rfl (fun K_ hK_ => ?_)
  go_simp
  refine (rowS_calls (ys := m) (HMM.out.later (stepN (w0 := w)).chg) HNB.out).mono ?_
  rintro e w5 ⟨f5, caps5, T5, rfl, _, hL5, hT5⟩
  refine hK_.out _ _ inferInstance (fun _ => ?_)
  clear hK_ K_
  try simp only [Act.put, sA]; try simp only [sB, sC]
  refine goH (i := 5) (by kernel_rfl) rfl (fun K_ hK_ => ?_)
  go_simp
  refine (listMk_calls (l := L) (fun x => mkME x.m) (inMks L) (HRR.out.later (stepN (w0 := w)).chg) HL.out hmx (fun x ⟨r, hr, hx⟩ => Nat.lt_of_lt_of_le ((HK.out r hr).low x hx) (stepN (w0 := w)).chg.size) (fun x hx w1 hc => ?_)).mono ?_
  case _ =>
    refine (layMark_calls x ((HK.out x hx).chg (((stepN (w0 := w)).chg.mono (fun _ _ h => h.elim)).trans hc (fun _ _ h => h)) (fun y hy h => h ⟨x, hx, hy⟩)) (HG.out x hx)).mono ?_
    rintro e w2 ⟨f2, caps2, T2, rfl, s2, hL2, hT2⟩
    exact ⟨f2, caps2, T2, rfl, s2, hL2, fun x hx => by
      rcases hT2 x hx with h | h
      · exact .inl h
      · exact h.elim⟩
  rw [HE.out]
  rintro e w6 ⟨f6, caps6, T6, rfl, _, hL6, hT6⟩
  refine hK_.out _ _ inferInstance (fun _ => ?_)
  clear hK_ K_
  try simp only [Act.put, sA]; try simp only [sB, sC]
  refine goH (i := 6) (by kernel_rfl) rfl (fun K_ hK_ => ?_)
  rw [if_pos (by kernel_rfl)]
  refine wpr_of_list ?_
  (first | ((with_reducible apply (stop_dst (dst := some 9))); (try simp only [Act.put, sA, sB, sC]); ((with_reducible apply (wpl_bslice (dst := some 9))); (exact run_fld2 _ _ _ _ _); intro zc wb _ _ _)))
  refine wpList_nil ?_
  unfold onlyN
  refine hK_.out _ _ inferInstance (fun _ => ?_)
  clear hK_ K_
  try simp only [Act.put, sA]; try simp only [sB, sC]
  refine goH (i := 7) (by kernel_rfl) rfl (fun K_ hK_ => ?_)
  go_simp
  refine (fields2 (z := zc) (hL5.later (stepN (w0 := w5)).chg (fun _ _ h => h)) (hL6.later (stepN (w0 := w6)).chg (fun _ _ h => h))).mono ?_
  rintro e w7 ⟨f7, caps7, T7, rfl, _, hL7, hT7⟩
  have hzc : w.heap.size ≤ zc := (NewA.monoS (w0 := w) (NewA.of_born (z := zc) 0)).out ⟨zc, 0, none⟩ rfl
  refine hK_.out _ _ inferInstance (fun _ => ?_)
  clear hK_ K_
  try simp only [Act.put, sA]; try simp only [sB, sC]
  refine' takeH (i := 8) (v := _) rfl (by kernel_rfl) (by kernel_rfl) (by kernel_rfl) (fun _ _ _ h => h) (yields_of (by rfl) (fun w' _ => ?_)) inferInstance ?_
  rotate_left
  · (go_simp; try with_reducible rfl)
  try simp only [Act.put, sA]; try simp only [sB, sC]
  refine wpAnyH_done (by kernel_rfl) ?_ _
  all_goals
    go_wp2_with fail
    go_ret
    refine ⟨f7, caps7, rfl, stepN, T7, hL7, fun x hx => ?_⟩
    rcases hT7 x hx with h | rfl | h | h
    · exact .inl (Nat.le_trans (stepN (w0 := w)).chg.size h)
    · exact .inl hzc
    · rcases hT5 x h with h | h
      · exact .inl (Nat.le_trans (stepN (w0 := w)).chg.size h)
      · exact .inr (.inl h)
    · rcases hT6 x h with h | h | h
      · exact .inl (Nat.le_trans (stepN (w0 := w)).chg.size h)
      · exact .inr (.inr (.inl h))
      · exact .inr (.inr (.inr h))
end Go.Proofs.Ythcleccofccbdaa
