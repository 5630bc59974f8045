/- KyM -/
import Derived.Test.YthcleccofccbdaaTrRoH
import Derived.Test.YthcleccofccbdaaTrOcW
import Derived.Test.YthcleccofccbdaaTrOcRfC
open Go Go.RowKit
namespace Go.Proofs.Ythcleccofccbdaa
def kflatH (l : List H32) : List UInt8 := l.flatMap (·.l)
theorem kflatH_len (l : List H32) : (kflatH l).length = 32 * l.length := by
  induction l with
  | nil => rfl
  | cons h l ih => show (h.l ++ kflatH l).length = _; rw [List.length_append, h.len, ih, List.length_cons]; omega
theorem kflatH_app (a b : List H32) : kflatH (a ++ b) = kflatH a ++ kflatH b := by simp [kflatH]
theorem kflatH_take (l : List H32) (k : Nat) (h : k < l.length) : kflatH (l.take (k + 1)) = kflatH (l.take k) ++ (hget l k).l := by
  have e : l.take (k + 1) = l.take k ++ [hget l k] := by
    rw [List.take_add_one, List.getElem?_eq_getElem h]
    simp [hget, List.getD_eq_getElem?_getD, h]
  rw [e, kflatH_app]
  simp [kflatH]
theorem kflatH_take_le (l : List H32) (k : Nat) : (kflatH (l.take k)).length ≤ 32 * l.length := by
  rw [kflatH_len, List.length_take]
  omega
/-- a Writer that has been handed on through worlds in which nothing of old changed -/
theorem wf_calm {w a b c : World} {g : Nat} {A A1 A2 : Option Addr} (h1 : Chg (Wf g A) w a) (m1 : Moved w A A1) (n : Chg nowhere a b) (h2 : Chg (Wf g A1) b c) (m2 : Moved b A1 A2) : Chg (Wf g A) w c ∧ Moved w A A2 := by
  have h3 : Chg (Wf g A1) a c := (n.mono (fun _ _ h => h.elim)).trans h2 (fun _ _ h => h)
  have m3 : Moved a A1 A2 := by
    rcases m2 with e | ⟨ad, e, h⟩
    · exact .inl e
    · exact .inr ⟨ad, e, Nat.le_trans n.size h⟩
  exact wf_trans h1 m1 h3 m3
set_option maxRecDepth 100000 in
set_option maxHeartbeats 800000 in
theorem klay_calls {g n c : Nat} {Aw A : Option Addr} {xs : List UInt8} {l : List H32} {fx : FuncId} {w : World} (hf : fx = 212) (hw : WrAt w g Aw xs) [hr : HR w A (cellsOf l)] (hl : l.length = n) (hn : n ≤ 1000) (hA : Apart (Wf g Aw) A (cellsOf l)) (hx : xs.length ≤ 1000000000) :
    Calls Try.prog 219 #[.func (.func fx) #[.pointer (some ⟨g, 0, none⟩)] #[], .slice A n c] w fun e w' => e = .returned (.tuple #[]) ∧ ∃ A', WrAt w' g A' (xs ++ kflatH l) ∧ Chg (Wf g Aw) w w' ∧ Moved w Aw A' := by
  subst hf
  have HLL := Lib.hid hl
  have HRR := Lib.hid hr.out
  have HAP := Lib.hid hA
  go_enter Try.func219, Try.ntmps219
  go_wp2_with fail
  go_loopw [8] (fun iv wr => ∃ (k : Nat) (A1 : Option Addr), k ≤ n ∧ iv = .int .i64 (k : Int) ∧ Hid (WrAt wr g A1 (xs ++ kflatH (l.take k))) ∧ Hid (Chg (Wf g Aw) w wr) ∧ Hid (Moved w Aw A1)) (fun iv _ => n - (intOf iv).toNat)
  case atStart => exact ⟨0, Aw, Nat.zero_le _, rfl, Lib.hid (by simpa [kflatH] using hw), Lib.hid (Chg.refl _ _), Lib.hid (Moved.refl _ _)⟩
  case round =>
    obtain ⟨k, A1, hk, rfl, HW, HC, HM⟩ := hrel
    by_cases hlt : k < n
    · have hltI : (k : Int) < n := by omega
      have hkl : k < l.length := by have := HLL.out; omega
      have hrr : HR wr A (cellsOf l) := ⟨HRR.out.chg HC.out HAP.out⟩
      have hln : l.length = n := HLL.out
      have htk := kflatH_take l k hkl
      have hle := kflatH_take_le l k
      have HTK := Lib.hid htk
      clear htk
      go_wp2_with (first | ((with_reducible apply wpl_indexH); (exact rfl); (exact rfl); infer_instance; (exact hrr); (exact hln); (exact hlt); (exact hkl)) | ((with_reducible apply (wpl_loadhash (t := 78))); (exact rfl); (exact hrr); infer_instance; (exact hkl)) | ((with_reducible apply (wpl_alloc (dst := some 5))); intro zh wzh _ _ _) | ((with_reducible apply wpl_alloc); intro z wz _ _ _) | ((with_reducible apply wpl_loadrow); (exact rfl); infer_instance; infer_instance; (first | (with_reducible assumption) | (with_reducible exact H32.size _) | kernel_rfl)) | ((with_reducible apply wpl_loadcellN); (exact rfl); infer_instance; (exact rfl)) | ((with_reducible apply wpl_storerow); (exact rfl); (exact rfl); infer_instance; infer_instance; (first | (with_reducible assumption) | (with_reducible exact H32.size _) | kernel_rfl); (first | (with_reducible assumption) | (with_reducible exact H32.size _) | kernel_rfl); (first | (with_reducible exact u8s_one _) | (with_reducible assumption) | kernel_rfl); intro ws _ _) | ((with_reducible apply wpl_storecell); (exact rfl); (exact rfl); infer_instance; (exact rfl); (first | (with_reducible assumption) | omega | (focus (simp; done)) | (focus (simp; omega; done)) | decide); intro ws _ _))
      have hzb : HB ws zh 78 (u8s (hget l k).l) := inferInstance
      have hst : Step nowhere wr ws := stepN
      refine (wRaw_calls g A1 _ (some ⟨zh, 0, none⟩) 32 32 (hget l k).l ws (HW.out.chg hst.chg (fun _ _ h => h)) (HR.ofBlk ws zh 78 (hget l k).l).out (hget l k).len (by rw [List.length_append, H32.len]; omega)).mono ?_
      rintro e w5 ⟨rfl, A5, h5, c5, m5⟩
      obtain ⟨h6, h7⟩ := wf_calm HC.out HM.out hst.chg c5.out m5.out
      go_wp2_with fail
      exact ⟨⟨k + 1, A5, by omega, by go_num, Lib.hid (by rw [HTK.out, ← List.append_assoc]; exact h5.out), Lib.hid h6, Lib.hid h7⟩, by simp [intOf]; omega⟩
    · obtain rfl : k = n := by omega
      have hltI : (k : Int) ≤ k := by omega
      have hfin := HW.out
      rw [List.take_of_length_le (by have := HLL.out; omega)] at hfin
      have HF := Lib.hid hfin
      clear hfin
      go_wp2_with fail
      go_end0
      exact ⟨rfl, A1, HF.out, HC.out, HM.out⟩
def sigB (leaf : Int) (l p : List H32) : List UInt8 := encAll [leaf] ++ kflatH l ++ kflatH p
/-- what Encode answers -/
def KEncPost (ok : Bool) (bytes : List UInt8) (w : World) : Ending → World → Prop := fun e w' => Step nowhere w w' ∧
  if ok then ∃ A n c, e = .returned (.tuple #[.slice A n c, .int .i64 0]) ∧ n = bytes.length ∧ HO w' 5 1 A n c (bs bytes) ∧ NewA w A
  else e = .returned (.tuple #[.slice none 0 0, .int .i64 1])
instance iKyM_1 : ZeroT Try.prog 155 #[.slice none 0 0] := ⟨.agg #[.slice none 0 0], fun _ => by kernel_rfl, rfl⟩
theorem krun_int1 (a : Int) (w : World) : (Instr.buildSlice 89 1 #[(0, .int .i64 a)]).run Try.prog w = .ok (.slice (some ⟨w.heap.size, 0, none⟩) 1 1) (w.alloc (.cells #[.int .i64 a] 3)) := by kernel_rfl
theorem HB.krdL {w : World} {z : Nat} {t : TypeId} {cs : Array Value} (h : HB w z t cs) : Rd w (some ⟨z, 0, none⟩) cs.toList := fun k u hk => by
  refine ⟨_, rfl, ?_⟩
  rw [add_row, h.out.cell k]
  simpa using hk
set_option maxRecDepth 100000 in
set_option maxHeartbeats 800000 in
theorem kencode_calls {leaf : Int} {A B : Option Addr} {n c m d : Nat} {l p : List H32} {w : World} [hr : HR w A (cellsOf l)] [hp : HR w B (cellsOf p)] (hl : l.length = n) (hm : p.length = m) :
    Calls Try.prog 183 #[.agg #[.int .i64 leaf, .slice A n c, .slice B m d]] w (KEncPost (isS leaf n m) (sigB leaf l p) w) := by
  unfold KEncPost
  rcases hb : isS leaf n m with _ | _
  · go_enter Try.func183, Try.ntmps183
    go_wp2_with (first | ((with_reducible apply (wpl_alloc (dst := some 1))); intro zs wzs _ _ _) | ((with_reducible apply (wpl_box_agg (dst := some 1))); (exact rfl); intro zs wzs _ _ _) | ((with_reducible apply (wpl_box_int (dst := some 1))); (exact rfl); intro zs wzs _ _ _) | ((with_reducible apply (wpl_box_slice (dst := some 1))); (exact rfl); intro zs wzs _ _ _) | ((with_reducible apply (wpl_box_str (dst := some 1))); (exact rfl); intro zs wzs _ _ _) | ((with_reducible apply (wpl_box_bool (dst := some 1))); (exact rfl); intro zs wzs _ _ _) | ((with_reducible apply (wpl_box_ptr (dst := some 1))); (exact rfl); intro zs wzs _ _ _) | ((with_reducible apply wpl_alloc); intro z wz _ _ _) | ((with_reducible apply wpl_box_agg); (exact rfl); intro z wz _ _ _) | ((with_reducible apply wpl_box_int); (exact rfl); intro z wz _ _ _) | ((with_reducible apply wpl_box_slice); (exact rfl); intro z wz _ _ _) | ((with_reducible apply wpl_box_str); (exact rfl); intro z wz _ _ _) | ((with_reducible apply wpl_box_bool); (exact rfl); intro z wz _ _ _) | ((with_reducible apply wpl_box_ptr); (exact rfl); intro z wz _ _ _) | ((with_reducible apply wpl_loadrow); (exact rfl); infer_instance; infer_instance; (first | (with_reducible assumption) | (with_reducible exact H32.size _) | kernel_rfl)) | ((with_reducible apply wpl_loadcellN); (exact rfl); infer_instance; (exact rfl)))
    refine (is_calls _).mono ?_
    rw [hb]
    rintro e w5 ⟨rfl, _⟩
    go_wp2_with (first | ((with_reducible apply wpl_alloc); intro z wz _ _ _) | ((with_reducible apply wpl_box_agg); (exact rfl); intro z wz _ _ _) | ((with_reducible apply wpl_box_int); (exact rfl); intro z wz _ _ _) | ((with_reducible apply wpl_box_slice); (exact rfl); intro z wz _ _ _) | ((with_reducible apply wpl_box_str); (exact rfl); intro z wz _ _ _) | ((with_reducible apply wpl_box_bool); (exact rfl); intro z wz _ _ _) | ((with_reducible apply wpl_box_ptr); (exact rfl); intro z wz _ _ _) | ((with_reducible apply wpl_loadrow); (exact rfl); infer_instance; infer_instance; (first | (with_reducible assumption) | (with_reducible exact H32.size _) | kernel_rfl)) | ((with_reducible apply wpl_loadcellN); (exact rfl); infer_instance; (exact rfl)))
    go_ret2
    exact ⟨stepN, rfl⟩
  · have hnm : n = 36 ∧ m = 4 := by
      have := hb
      simp [isS] at this
      omega
    obtain ⟨rfl, rfl⟩ := hnm
    have HLL := Lib.hid hl
    have HPL := Lib.hid hm
    have HRR := Lib.hid hr.out
    have HPR := Lib.hid hp.out
    clear hl hm
    go_enter Try.func183, Try.ntmps183
    go_wp2_with (first | ((with_reducible apply (wpl_alloc (dst := some 1))); intro zs wzs _ _ _) | ((with_reducible apply (wpl_box_agg (dst := some 1))); (exact rfl); intro zs wzs _ _ _) | ((with_reducible apply (wpl_box_int (dst := some 1))); (exact rfl); intro zs wzs _ _ _) | ((with_reducible apply (wpl_box_slice (dst := some 1))); (exact rfl); intro zs wzs _ _ _) | ((with_reducible apply (wpl_box_str (dst := some 1))); (exact rfl); intro zs wzs _ _ _) | ((with_reducible apply (wpl_box_bool (dst := some 1))); (exact rfl); intro zs wzs _ _ _) | ((with_reducible apply (wpl_box_ptr (dst := some 1))); (exact rfl); intro zs wzs _ _ _) | ((with_reducible apply wpl_alloc); intro z wz _ _ _) | ((with_reducible apply wpl_box_agg); (exact rfl); intro z wz _ _ _) | ((with_reducible apply wpl_box_int); (exact rfl); intro z wz _ _ _) | ((with_reducible apply wpl_box_slice); (exact rfl); intro z wz _ _ _) | ((with_reducible apply wpl_box_str); (exact rfl); intro z wz _ _ _) | ((with_reducible apply wpl_box_bool); (exact rfl); intro z wz _ _ _) | ((with_reducible apply wpl_box_ptr); (exact rfl); intro z wz _ _ _) | ((with_reducible apply wpl_loadrow); (exact rfl); infer_instance; infer_instance; (first | (with_reducible assumption) | (with_reducible exact H32.size _) | kernel_rfl)) | ((with_reducible apply wpl_loadcellN); (exact rfl); infer_instance; (exact rfl)))
    refine (is_calls _).mono ?_
    rw [hb]
    rintro e w5 ⟨rfl, _⟩
    go_wp2_with (first | ((with_reducible apply (stop_dst (dst := some 10))); (try simp only [Act.put, sA, sB, sC]); ((with_reducible apply (wpl_bslice (dst := some 10))); (exact krun_int1 _ _); intro zi wb _ _ _)) | ((with_reducible apply (wpl_alloc (dst := some 4))); intro zw wzw _ _ _) | ((with_reducible apply (wpl_box_agg (dst := some 4))); (exact rfl); intro zw wzw _ _ _) | ((with_reducible apply (wpl_box_int (dst := some 4))); (exact rfl); intro zw wzw _ _ _) | ((with_reducible apply (wpl_box_slice (dst := some 4))); (exact rfl); intro zw wzw _ _ _) | ((with_reducible apply (wpl_box_str (dst := some 4))); (exact rfl); intro zw wzw _ _ _) | ((with_reducible apply (wpl_box_bool (dst := some 4))); (exact rfl); intro zw wzw _ _ _) | ((with_reducible apply (wpl_box_ptr (dst := some 4))); (exact rfl); intro zw wzw _ _ _) | ((with_reducible apply wpl_alloc); intro z wz _ _ _) | ((with_reducible apply wpl_box_agg); (exact rfl); intro z wz _ _ _) | ((with_reducible apply wpl_box_int); (exact rfl); intro z wz _ _ _) | ((with_reducible apply wpl_box_slice); (exact rfl); intro z wz _ _ _) | ((with_reducible apply wpl_box_str); (exact rfl); intro z wz _ _ _) | ((with_reducible apply wpl_box_bool); (exact rfl); intro z wz _ _ _) | ((with_reducible apply wpl_box_ptr); (exact rfl); intro z wz _ _ _) | ((with_reducible apply wpl_loadrow); (exact rfl); infer_instance; infer_instance; (first | (with_reducible assumption) | (with_reducible exact H32.size _) | kernel_rfl)) | ((with_reducible apply wpl_loadcellN); (exact rfl); infer_instance; (exact rfl)))
    have hw0 : WrAt wb zw none [] := ⟨⟨0, 0, rfl, (inferInstance : HB wb zw 155 #[.slice none 0 0]).out, Own.nil _ _ _⟩, fun ad h => by cases h⟩
    have hzi : HB wb zi 3 #[.int .i64 leaf] := inferInstance
    have hne : zi ≠ zw := fun e => (inferInstance : OffB (only zi) zw).out e.symm
    have hzw : w.heap.size ≤ zw := (NewA.monoS (w0 := w) (NewA.of_born (z := zw) 0)).out ⟨zw, 0, none⟩ rfl
    have stb : Step nowhere w wb := stepN
    have n5 : Nw w w5 := inferInstance
    have hsb : HB wb zs 123 #[.int .i64 leaf, .slice A 36 c, .slice B 4 d] := inferInstance
    have hzs : zs ≠ zw := fun e => (inferInstance : OffB (only zw) zs).out e
    refine (Nums_calls zw none [] (some ⟨zi, 0, none⟩) 1 1 [leaf] wb hw0 hzi.krdL rfl (fun _ ad e hk => by
      injection e with e
      subst e
      rcases hk with hk | ⟨ad, e, _⟩
      · exact hne hk
      · cases e) (by simp)).mono ?_
    rintro e w6 ⟨rfl, A6, h6, c6, m6⟩
    have HC6 := Lib.hid c6
    have HM6 := Lib.hid m6
    have HW6 := Lib.hid h6
    have wfz : ∀ x, Wf zw none x → x = zw := by
      rintro x (h | ⟨ad, e, _⟩)
      · exact h
      · cases e
    have hs6 : HB w6 zs 123 #[.int .i64 leaf, .slice A 36 c, .slice B 4 d] := ⟨hsb.out.chg c6 (fun h => hzs (wfz _ h))⟩
    have ap : ∀ (C : Option Addr) (vs : List Value), Rd w C vs → Apart (Wf zw none) C vs := fun C vs hC hne ad e hk => by
      have h1 := rd_lt hC hne e
      have h2 := wfz _ hk
      omega
    have hst6 : Hid (Chg (Wf zw none) w w6) := Lib.hid (stb.chg.mono (fun _ _ h => h.elim) |>.trans c6 (fun _ _ h => h))
    have hA6 : HR w6 A (cellsOf l) := ⟨HRR.out.chg hst6.out (ap _ _ HRR.out)⟩
    have apA : ∀ {wx A1} (C : Option Addr) (vs : List Value), Moved wx none A1 → w.heap.size ≤ wx.heap.size → Rd w C vs → Apart (Wf zw A1) C vs := fun C vs hM hsz hC hne ad e hk => by
      have h1 := rd_lt hC hne e
      rcases hk with hk | ⟨ad', e', hk⟩
      · omega
      · rcases hM with hM | ⟨ad2, e2, h2⟩
        · rw [hM] at e'; cases e'
        · rw [e2] at e'
          injection e' with e'
          subst e'
          omega
    have hm6 : Moved w none A6 := by
      rcases m6 with e | ⟨ad, e, h⟩
      · exact .inl e
      · exact .inr ⟨ad, e, Nat.le_trans stb.chg.size h⟩
    clear h6 c6 m6
    go_wp2_with (first | ((with_reducible apply wpl_alloc); intro z wz _ _ _) | ((with_reducible apply wpl_box_agg); (exact rfl); intro z wz _ _ _) | ((with_reducible apply wpl_box_int); (exact rfl); intro z wz _ _ _) | ((with_reducible apply wpl_box_slice); (exact rfl); intro z wz _ _ _) | ((with_reducible apply wpl_box_str); (exact rfl); intro z wz _ _ _) | ((with_reducible apply wpl_box_bool); (exact rfl); intro z wz _ _ _) | ((with_reducible apply wpl_box_ptr); (exact rfl); intro z wz _ _ _) | ((with_reducible apply wpl_loadrow); (exact rfl); infer_instance; infer_instance; (first | (with_reducible assumption) | (with_reducible exact H32.size _) | kernel_rfl)) | ((with_reducible apply wpl_loadcellN); (exact rfl); infer_instance; (exact rfl)))
    refine (klay_calls rfl HW6.out HLL.out (by decide) (apA A _ hm6 (Nat.le_refl _) HRR.out) (by have := encAll_len [leaf]; simp at *; omega)).mono ?_
    rintro e w7 ⟨rfl, A7, h7, c7, m7⟩
    obtain ⟨c17, m17⟩ := wf_trans hst6.out hm6 c7 m7
    have HW7 := Lib.hid h7
    have hs7 : HB w7 zs 123 #[.int .i64 leaf, .slice A 36 c, .slice B 4 d] := ⟨hs6.out.chg c7 (fun h => by
      rcases h with h | ⟨ad, e, h⟩
      · exact hzs h
      · rcases HM6.out with e2 | ⟨ad2, e2, h2⟩
        · rw [e2] at e; cases e
        · rw [e2] at e
          injection e with e
          subst e
          have := hsb.out.lt
          omega)⟩
    have hB7 : HR w7 B (cellsOf p) := ⟨HPR.out.chg c17 (ap _ _ HPR.out)⟩
    have HC17 := Lib.hid c17
    have HM17 := Lib.hid m17
    clear h7 c7 m7 c17 m17
    go_wp2_with (first | ((with_reducible apply wpl_alloc); intro z wz _ _ _) | ((with_reducible apply wpl_box_agg); (exact rfl); intro z wz _ _ _) | ((with_reducible apply wpl_box_int); (exact rfl); intro z wz _ _ _) | ((with_reducible apply wpl_box_slice); (exact rfl); intro z wz _ _ _) | ((with_reducible apply wpl_box_str); (exact rfl); intro z wz _ _ _) | ((with_reducible apply wpl_box_bool); (exact rfl); intro z wz _ _ _) | ((with_reducible apply wpl_box_ptr); (exact rfl); intro z wz _ _ _) | ((with_reducible apply wpl_loadrow); (exact rfl); infer_instance; infer_instance; (first | (with_reducible assumption) | (with_reducible exact H32.size _) | kernel_rfl)) | ((with_reducible apply wpl_loadcellN); (exact rfl); infer_instance; (exact rfl)))
    refine (klay_calls rfl HW7.out HPL.out (by decide) (apA B _ HM17.out (Nat.le_refl _) HPR.out) (by have := encAll_len [leaf]; have := kflatH_len l; have := HLL.out; simp at *; omega)).mono ?_
    rintro e w8 ⟨rfl, A8, h8, c8, m8⟩
    obtain ⟨c18, m18⟩ := wf_trans HC17.out HM17.out c8 m8
    have hfin : [] ++ encAll [leaf] ++ kflatH l ++ kflatH p = sigB leaf l p := by simp [sigB]
    rw [hfin] at h8
    have HW8 := Lib.hid h8
    have hlen : (sigB leaf l p).length ≤ 10000000000000 := by
      have h1 := encAll_len [leaf]
      have h2 := kflatH_len l
      have h3 := kflatH_len p
      have h4 := HLL.out
      have h5 := HPL.out
      simp only [sigB, List.length_append, List.length_cons, List.length_nil] at *
      omega
    have st8 : Step nowhere w w8 := ⟨⟨c18.os, c18.tape, c18.output, c18.size, fun x hx _ => c18.block x hx (fun h => by have := wfz _ h; omega)⟩⟩
    clear h8 c8 m8 c18 m18 hfin
    go_wp2_with (first | ((with_reducible apply wpl_alloc); intro z wz _ _ _) | ((with_reducible apply wpl_box_agg); (exact rfl); intro z wz _ _ _) | ((with_reducible apply wpl_box_int); (exact rfl); intro z wz _ _ _) | ((with_reducible apply wpl_box_slice); (exact rfl); intro z wz _ _ _) | ((with_reducible apply wpl_box_str); (exact rfl); intro z wz _ _ _) | ((with_reducible apply wpl_box_bool); (exact rfl); intro z wz _ _ _) | ((with_reducible apply wpl_box_ptr); (exact rfl); intro z wz _ _ _) | ((with_reducible apply wpl_loadrow); (exact rfl); infer_instance; infer_instance; (first | (with_reducible assumption) | (with_reducible exact H32.size _) | kernel_rfl)) | ((with_reducible apply wpl_loadcellN); (exact rfl); infer_instance; (exact rfl)))
    refine (Out_calls zw A8 _ w8 HW8.out hlen).mono ?_
    rintro e w9 ⟨A9, n9, c9, rfl, hn9, ho9, hc9, hnew⟩
    have HN9 := Lib.hid hn9.out
    go_wp2_with fail
    go_ret2
    exact ⟨⟨st8.chg.trans hc9.out (fun _ _ h => h)⟩, A9, n9, c9, rfl, HN9.out, ⟨ho9.out⟩, ⟨fun ad e => Nat.le_trans st8.chg.size (hnew.out ad e)⟩⟩
end Go.Proofs.Ythcleccofccbdaa
