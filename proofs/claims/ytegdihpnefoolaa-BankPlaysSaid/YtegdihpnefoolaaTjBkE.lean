/- BkE -/
import Derived.Test.YtegdihpnefoolaaTjBkB
import Derived.Test.YtegdihpnefoolaaTjSlB
open Go Go.RowKit
namespace Go.Proofs.Ytegdihpnefoolaa
section
variable {P : Program} {ops : Array Oper} {rest : List Oper} {a : Act} {w : World} {Q : Exit → Act → World → Prop} {dst : Option Tmp} {ty : TypeId} {pos : String} {after : Array Edge}
/-- a text's bytes, in memory of their own -/
theorem wpl_strK {src td e : TypeId} {x : Operand} {s : ByteArray} {l : List UInt8} (hx : a.eval x = .string s) (hl : s.data.toList = l) (hs : P.underlying src = some .string) (hd : P.underlying td = some (.slice e)) (he : P.underlying e = some (.int .u8))
    (h : ∀ z c w', w.heap.size ≤ z → z < w'.heap.size → Step nowhere w w' → HR w' (some ⟨z, 0, none⟩) (bs l) → wpList P ops Q rest (a.put dst (.slice (some ⟨z, 0, none⟩) l.length c)) w') : wpList P ops Q (⟨dst, .convert src td x, ty, pos, after, none⟩ :: rest) a w := by
  subst hl
  have hsz : s.size = s.data.toList.length := (Array.length_toList (xs := s.data)).symm
  refine wpl_of_run rfl ?_ (h w.heap.size (grownCap w s.size 0 e) (w.drew.alloc (.cells (bytesRow s (grownCap w s.size 0 e)) e ((bytesRow s (grownCap w s.size 0 e)).size, (bytesRow s (grownCap w s.size 0 e)).size + 1))) (Nat.le_refl _) (by simp) ⟨(Chg.refl _ _).drew.alloc _⟩ ⟨?_⟩)
  · show ((convert src td (a.eval x)) >>= fun v => pure (Next.value v)).run P w = _
    rw [hx, Sem.run_bind, run_bytes_of_string w src td e s hs hd he, ← hsz]
    rfl
  · have h1 := Rd.lit w.drew (bytesRow s (grownCap w s.size 0 e)).toList e (f := ((bytesRow s (grownCap w s.size 0 e)).size, (bytesRow s (grownCap w s.size 0 e)).size + 1))
    rw [Array.toArray_toList] at h1
    intro k u hk
    refine h1 k u ?_
    have h2 : (bytesRow s (grownCap w s.size 0 e)).toList = bs s.data.toList ++ List.replicate (grownCap w s.size 0 e - s.size) (.int .u8 0) := by
      unfold bytesRow bs u8v
      rw [Array.toList_append, Array.toList_map, Array.toList_replicate]
    rw [h2, List.getElem?_append_left (List.getElem?_eq_some_iff.1 hk).1]
    exact hk
end
theorem run_int2K (a b : Int) (w : World) : (Instr.buildSlice 139 2 #[(0, .int .i64 a), (1, .int .i64 b)]).run Try.prog w = .ok (.slice (some ⟨w.heap.size, 0, none⟩) 2 2) (w.alloc (.cells #[.int .i64 a, .int .i64 b] 3)) := by kernel_rfl
theorem run_row2K (A B : Option Addr) (n c m d : Nat) (w : World) : (Instr.buildSlice 61 2 #[(0, .slice A n c), (1, .slice B m d)]).run Try.prog w = .ok (.slice (some ⟨w.heap.size, 0, none⟩) 2 2) (w.alloc (.cells #[.slice A n c, .slice B m d] 22)) := by kernel_rfl
theorem bk_sumrd {w : World} {g : Nat} {t : TypeId} {b z c : Int} {h : H32} {nm : ByteArray} {A : Option Addr} {n cc : Nat} (hb : HB w g t (bkL b z h c nm A n cc).toArray) : Rd w (some ⟨g, 2, none⟩) (bs h.l) := fun k u hk => by
  have hr := hb.rdL
  have hk32 : k < 32 := by
    have := (List.getElem?_eq_some_iff.1 hk).1
    rw [bs32'] at this
    exact this
  obtain ⟨ad, e, hc⟩ := hr (2 + k) u (by
    show (bkL b z h c nm A n cc)[2 + k]? = _
    unfold bkL
    rw [show 2 + k = k + 1 + 1 by omega, List.getElem?_cons_succ, List.getElem?_cons_succ, List.getElem?_append_left (by rw [bs32']; exact hk32)]
    exact hk)
  injection e with e
  subst e
  refine ⟨_, rfl, ?_⟩
  rw [add_row] at hc
  have e2 : (⟨g, 2, none⟩ : Addr).add k = ⟨g, 2 + k, none⟩ := by
    unfold Addr.add
    split
    · subst k; rfl
    · rfl
  rw [e2]
  exact hc
set_option maxRecDepth 100000 in
set_option maxHeartbeats 1600000 in
theorem bkEncode_calls (s : BSt) {M : Option Addr} {m d : Nat} {w : World} [hr : HR w M (bs s.mind)] (hl : s.mind.length = m) (hm : m ≤ 1000000) (hnm : s.name.length ≤ 1000000) :
    Calls Try.prog 59 #[.agg (bkL s.bank s.size s.sum s.cnt (strL s.name) M m d).toArray] w fun e w' => ∃ A' n' c', e = .returned (.slice A' n' c') ∧ s.enc.length = n' ∧ n' ≤ c' ∧ HO w' 5 1 A' n' c' (bs s.enc) ∧ NewA w A' ∧ Step nowhere w w' := by
  obtain ⟨sb, sz, S, sc, nm, md⟩ := s
  have hl : md.length = m := hl
  have hnm : nm.length ≤ 1000000 := hnm
  have hr : HR w M (bs md) := hr
  have hfin : BSt.enc ⟨sb, sz, S, sc, nm, md⟩ = [] ++ encAll [(sb : Int), (sz : Int)] ++ S.l ++ encAll [(sc : Int)] ++ (encRow nm ++ encRow md) := by simp [BSt.enc]
  rw [hfin]
  have ha0 := bkL_len sb sz S sc (strL nm) M m d
  have ha1 := bkL_one sb sz S sc (strL nm) M m d
  have HLL := Lib.hid hl
  have HRR := Lib.hid hr.out
  obtain ⟨Y1, hY1⟩ : ∃ Y, Y = encAll [(sb : Int), (sz : Int)] := ⟨_, rfl⟩
  obtain ⟨Y2, hY2⟩ : ∃ Y, Y = encAll [(sc : Int)] := ⟨_, rfl⟩
  have y1 : Y1.length ≤ 18 := by rw [hY1]; exact encAll_len _
  have y2 : Y2.length ≤ 9 := by rw [hY2]; exact encAll_len _
  have HY1 := Lib.hid hY1
  have HY2 := Lib.hid hY2
  have hdl : (strL nm).data.toList = nm := by simp [strL]
  rw [← hY1, ← hY2]
  clear hl hY1 hY2 hfin
  show Calls _ _ #[.agg (bkL sb sz S sc (strL nm) M m d).toArray] _ _
  go_enter Try.func59, Try.ntmps59
  go_wp2_with (first | ((with_reducible apply wpl_loadcellN); (exact rfl); (exact (inferInstance : HB _ zs _ (bkL sb sz S sc (strL nm) M m d).toArray)); (first | (exact bk_get0 _ _ _ _ _ _ _ _) | (exact bk_get1 _ _ _ _ _ _ _ _))) | ((with_reducible apply (stop_dst (dst := some 8))); (try simp only [Act.put, sA, sB, sC]); ((with_reducible apply (wpl_bslice (dst := some 8))); (exact run_int2K _ _ _); intro zi wb _ _ _)) | ((with_reducible apply (wpl_alloc (dst := some 1))); intro zs wzs _ _ _) | ((with_reducible apply (wpl_box_agg (dst := some 1))); (exact rfl); intro zs wzs _ _ _) | ((with_reducible apply (wpl_box_int (dst := some 1))); (exact rfl); intro zs wzs _ _ _) | ((with_reducible apply (wpl_box_slice (dst := some 1))); (exact rfl); intro zs wzs _ _ _) | ((with_reducible apply (wpl_box_str (dst := some 1))); (exact rfl); intro zs wzs _ _ _) | ((with_reducible apply (wpl_box_bool (dst := some 1))); (exact rfl); intro zs wzs _ _ _) | ((with_reducible apply (wpl_box_ptr (dst := some 1))); (exact rfl); intro zs wzs _ _ _) | ((with_reducible apply (wpl_alloc (dst := some 3))); intro zw wzw _ _ _) | ((with_reducible apply (wpl_box_agg (dst := some 3))); (exact rfl); intro zw wzw _ _ _) | ((with_reducible apply (wpl_box_int (dst := some 3))); (exact rfl); intro zw wzw _ _ _) | ((with_reducible apply (wpl_box_slice (dst := some 3))); (exact rfl); intro zw wzw _ _ _) | ((with_reducible apply (wpl_box_str (dst := some 3))); (exact rfl); intro zw wzw _ _ _) | ((with_reducible apply (wpl_box_bool (dst := some 3))); (exact rfl); intro zw wzw _ _ _) | ((with_reducible apply (wpl_box_ptr (dst := some 3))); (exact rfl); intro zw wzw _ _ _) | ((with_reducible apply wpl_alloc); intro z wz _ _ _) | ((with_reducible apply wpl_box_agg); (exact rfl); intro z wz _ _ _) | ((with_reducible apply wpl_box_int); (exact rfl); intro z wz _ _ _) | ((with_reducible apply wpl_box_slice); (exact rfl); intro z wz _ _ _) | ((with_reducible apply wpl_box_str); (exact rfl); intro z wz _ _ _) | ((with_reducible apply wpl_box_bool); (exact rfl); intro z wz _ _ _) | ((with_reducible apply wpl_box_ptr); (exact rfl); intro z wz _ _ _) | ((with_reducible apply wpl_loadrow); (exact rfl); infer_instance; infer_instance; (first | (with_reducible assumption) | (with_reducible exact H32.size _) | kernel_rfl)) | ((with_reducible apply wpl_loadcellN); (exact rfl); infer_instance; (exact rfl)))
  have hw0 : WrAt wb zw none [] := ⟨⟨0, 0, rfl, (inferInstance : HB wb zw 116 #[.slice none 0 0]).out, Own.nil _ _ _⟩, fun ad h => by cases h⟩
  have hzs : w.heap.size ≤ zs := (NewA.monoS (w0 := w) (NewA.of_born (z := zs) 0)).out ⟨zs, 0, none⟩ rfl
  have hbs : HB wb zs 54 (bkL sb sz S sc (strL nm) M m d).toArray := inferInstance
  have hzi : HB wb zi 3 #[.int .i64 sb, .int .i64 sz] := inferInstance
  have hne : zi ≠ zw := fun e => (inferInstance : OffB (only zi) zw).out e.symm
  have hzw : w.heap.size ≤ zw := (NewA.monoS (w0 := w) (NewA.of_born (z := zw) 0)).out ⟨zw, 0, none⟩ rfl
  have hzsl : zs < zw := by
    have e1 := (inferInstance : Born wzs zw).eq
    have e2 := (inferInstance : HB wzs zs 54 (bkL sb sz S sc (strL nm) M m d).toArray).out.lt
    omega
  have nb0 : Nw w wb := inferInstance
  refine (Nums_calls zw none [] (some ⟨zi, 0, none⟩) 2 2 [(sb : Int), (sz : Int)] wb hw0 hzi.rdL rfl (fun _ ad e hk => by
    injection e with e
    subst e
    rcases hk with hk | ⟨ad, e, _⟩
    · exact hne hk
    · cases e) (by simp)).mono ?_
  rw [← HY1.out]
  rintro e w6 ⟨rfl, A6, h6, c6, m6⟩
  have n6 : Nw w w6 := ⟨nw_wf nb0.out hzw (fun ad e => by cases e) c6⟩
  have a6 : ∀ ad, A6 = some ad → wb.heap.size ≤ ad.block := moved_new m6 (Nat.le_refl _) (fun ad e => by cases e)
  have hb6 : HB w6 zs 54 (bkL sb sz S sc (strL nm) M m d).toArray := ⟨hbs.out.chg c6 (fun hk => by
    rcases hk with hk | ⟨ad, e, hk⟩
    · omega
    · cases e)⟩
  have HW6 := Lib.hid h6
  have hbl := hbs.out.lt
  have HA6 : Hid (∀ ad, A6 = some ad → w.heap.size ≤ ad.block ∧ ad.block ≠ zs) := Lib.hid (fun ad e => ⟨Nat.le_trans nb0.out.size (a6 ad e), by have := a6 ad e; omega⟩)
  clear h6 c6 m6 a6 hw0 hbs
  go_wp2_with (first | ((with_reducible apply (wpl_sliceAr (t := 52) (s := 1))); (exact rfl); (exact Try.underlying52); (kernel_rfl)) | ((with_reducible apply wpl_alloc); intro z wz _ _ _) | ((with_reducible apply wpl_box_agg); (exact rfl); intro z wz _ _ _) | ((with_reducible apply wpl_box_int); (exact rfl); intro z wz _ _ _) | ((with_reducible apply wpl_box_slice); (exact rfl); intro z wz _ _ _) | ((with_reducible apply wpl_box_str); (exact rfl); intro z wz _ _ _) | ((with_reducible apply wpl_box_bool); (exact rfl); intro z wz _ _ _) | ((with_reducible apply wpl_box_ptr); (exact rfl); intro z wz _ _ _) | ((with_reducible apply wpl_loadrow); (exact rfl); infer_instance; infer_instance; (first | (with_reducible assumption) | (with_reducible exact H32.size _) | kernel_rfl)) | ((with_reducible apply wpl_loadcellN); (exact rfl); infer_instance; (exact rfl)))
  refine (wRaw_calls zw A6 ([] ++ Y1) (some ⟨zs, 2, none⟩) 32 32 S.l w6 HW6.out (bk_sumrd hb6) S.len (by rw [S.len]; simp; omega)).mono ?_
  rintro e w7 ⟨rfl, A7, h7, c7, m7⟩
  have n7 : Nw w w7 := ⟨nw_wf n6.out hzw (fun ad e => (HA6.out ad e).1) c7.out⟩
  have hb7 : HB w7 zs 54 (bkL sb sz S sc (strL nm) M m d).toArray := ⟨hb6.out.chg c7.out (fun hk => by
    rcases hk with hk | ⟨ad, e, hk⟩
    · omega
    · exact (HA6.out ad e).2 hk)⟩
  have hbl7 := hb6.out.lt
  have HA7 : Hid (∀ ad, A7 = some ad → w.heap.size ≤ ad.block ∧ ad.block ≠ zs) := Lib.hid (fun ad e => ⟨moved_new m7.out n6.out.size (fun ad e => (HA6.out ad e).1) ad e, by
    rcases m7.out with h | ⟨ad', e', h⟩
    · rw [h] at e
      exact (HA6.out ad e).2
    · rw [e'] at e
      injection e with e
      subst e
      omega⟩)
  have HW7 := h7
  clear h7 c7 m7 HA6 HW6 hb6
  go_wp2_with (first | ((with_reducible apply (wpl_loadcell (k := 34))); (exact rfl); (exact hb7); (exact bk_get34 _ _ _ _ _ _ _ _)) | ((with_reducible apply (stop_dst (dst := some 15))); (try simp only [Act.put, sA, sB, sC]); ((with_reducible apply (wpl_bslice (dst := some 15))); (exact run_int1 _ _); intro zj wb _ _ _)) | ((with_reducible apply wpl_alloc); intro z wz _ _ _) | ((with_reducible apply wpl_box_agg); (exact rfl); intro z wz _ _ _) | ((with_reducible apply wpl_box_int); (exact rfl); intro z wz _ _ _) | ((with_reducible apply wpl_box_slice); (exact rfl); intro z wz _ _ _) | ((with_reducible apply wpl_box_str); (exact rfl); intro z wz _ _ _) | ((with_reducible apply wpl_box_bool); (exact rfl); intro z wz _ _ _) | ((with_reducible apply wpl_box_ptr); (exact rfl); intro z wz _ _ _) | ((with_reducible apply wpl_loadrow); (exact rfl); infer_instance; infer_instance; (first | (with_reducible assumption) | (with_reducible exact H32.size _) | kernel_rfl)) | ((with_reducible apply wpl_loadcellN); (exact rfl); infer_instance; (exact rfl)))
  have hzj : HB wb zj 3 #[.int .i64 sc] := inferInstance
  have hzjn : w7.heap.size ≤ zj := Nat.le_of_eq (inferInstance : Born w7 zj).eq.symm
  have hb8 : HB wb zs 54 (bkL sb sz S sc (strL nm) M m d).toArray := inferInstance
  have sb8 : Step nowhere w7 wb := inferInstance
  have n8 : Nw w wb := inferInstance
  have HW8 := Lib.hid (HW7.out.chg sb8.chg (fun _ _ h => h))
  refine (Nums_calls zw A7 ([] ++ Y1 ++ S.l) (some ⟨zj, 0, none⟩) 1 1 [(sc : Int)] wb HW8.out hzj.rdL rfl (fun _ ad e hk => by
    injection e with e
    subst e
    have hk' : Wf zw A7 zj := hk
    have := HW7.out.old zj hk'
    omega) (by have := S.len; simp; omega)).mono ?_
  rw [← HY2.out]
  rintro e w9 ⟨rfl, A9, h9, c9, m9⟩
  have n9 : Nw w w9 := ⟨nw_wf n8.out hzw (fun ad e => (HA7.out ad e).1) c9⟩
  have hb9 : HB w9 zs 54 (bkL sb sz S sc (strL nm) M m d).toArray := ⟨hb8.out.chg c9 (fun hk => by
    rcases hk with hk | ⟨ad, e, hk⟩
    · omega
    · exact (HA7.out ad e).2 hk)⟩
  have hbl9 := hb8.out.lt
  have HA9 : Hid (∀ ad, A9 = some ad → w.heap.size ≤ ad.block) := Lib.hid (moved_new m9 n8.out.size (fun ad e => (HA7.out ad e).1))
  have HW9 := Lib.hid h9
  have hm9 : HR w9 M (bs md) := ⟨HRR.out.later n9.out⟩
  clear h9 c9 m9 HA7 HW7 HW8 hb8 hb7
  go_wp2_with (first | ((with_reducible apply (wpl_loadcell (k := 35))); (exact rfl); (exact hb9); (exact bk_get35 _ _ _ _ _ _ _ _)) | ((with_reducible apply (wpl_loadcell (k := 36))); (exact rfl); (exact (inferInstance : HB wn zs 54 (bkL sb sz S sc (strL nm) M m d).toArray)); (exact bk_get36 _ _ _ _ _ _ _ _)) | ((with_reducible apply wpl_strK); (exact rfl); (exact hdl); (exact Try.underlying9); (exact Try.underlying22); (exact Try.underlying5); intro zn cn wn hzn1 hzn2 _ hrn) | ((with_reducible apply (stop_dst (dst := some 22))); (try simp only [Act.put, sA, sB, sC]); ((with_reducible apply (wpl_bslice (dst := some 22))); (exact run_row2K _ _ _ _ _ _ _); intro zr wb _ _ _)) | ((with_reducible apply wpl_alloc); intro z wz _ _ _) | ((with_reducible apply wpl_box_agg); (exact rfl); intro z wz _ _ _) | ((with_reducible apply wpl_box_int); (exact rfl); intro z wz _ _ _) | ((with_reducible apply wpl_box_slice); (exact rfl); intro z wz _ _ _) | ((with_reducible apply wpl_box_str); (exact rfl); intro z wz _ _ _) | ((with_reducible apply wpl_box_bool); (exact rfl); intro z wz _ _ _) | ((with_reducible apply wpl_box_ptr); (exact rfl); intro z wz _ _ _) | ((with_reducible apply wpl_loadrow); (exact rfl); infer_instance; infer_instance; (first | (with_reducible assumption) | (with_reducible exact H32.size _) | kernel_rfl)) | ((with_reducible apply wpl_loadcellN); (exact rfl); infer_instance; (exact rfl)))
  have hzr : HB wb zr 22 #[.slice (some ⟨zn, 0, none⟩) nm.length cn, .slice M m d] := inferInstance
  have hzrn : w9.heap.size ≤ zr := Nat.le_trans (inferInstance : SzLe w9 wn).out (Nat.le_of_eq (inferInstance : Born wn zr).eq.symm)
  have sbx : Step nowhere w9 wb := stepN
  have nbx : Nw w wb := inferInstance
  have hrn9 : HR wb (some ⟨zn, 0, none⟩) (bs nm) := inferInstance
  have hwb : WrAt wb zw A9 ([] ++ Y1 ++ S.l ++ Y2) := HW9.out.chg sbx.chg (fun _ _ h => h)
  refine (wBytes_calls zw A9 ([] ++ Y1 ++ S.l ++ Y2) (some ⟨zr, 0, none⟩) 2 2 [⟨some ⟨zn, 0, none⟩, cn, nm⟩, ⟨M, d, md⟩] wb hwb (by
      have h := hzr.rdL
      rwa [show rowsV [⟨some ⟨zn, 0, none⟩, cn, nm⟩, ⟨M, d, md⟩] = [.slice (some ⟨zn, 0, none⟩) nm.length cn, .slice M m d] by rw [← HLL.out]; rfl]) rfl (fun _ ad e hk => by
      injection e with e
      subst e
      have hk' : Wf zw A9 zr := hk
      have := HW9.out.old _ hk'
      omega) (fun r hr => by
      simp only [List.mem_cons, List.not_mem_nil, or_false] at hr
      rcases hr with rfl | rfl
      · exact ⟨hrn9.out, fun _ ad e hk => by
          injection e with e
          subst e
          have hk' : Wf zw A9 zn := hk
          have := HW9.out.old _ hk'
          omega⟩
      · exact ⟨HRR.out.later nbx.out, apart_new HRR.out hzw HA9.out⟩) (by
      have h2 := HLL.out
      have h3 := S.len
      simp only [rowsSize, List.length_append, List.length_nil] at *
      omega)).mono ?_
  rintro e w10 ⟨rfl, A10, h10, c10, m10⟩
  have n10 : Nw w w10 := ⟨nw_wf nbx.out hzw HA9.out c10.out⟩
  have hx10 : encRows [⟨some ⟨zn, 0, none⟩, cn, nm⟩, ⟨M, d, md⟩] = encRow nm ++ encRow md := by simp [encRows]
  rw [hx10] at h10
  have hlen : ([] ++ Y1 ++ S.l ++ Y2 ++ (encRow nm ++ encRow md)).length ≤ 3000000 := by
    have e3 := encRow_len nm (by omega)
    have e4 := encRow_len md (by have := HLL.out; omega)
    have e5 := S.len
    have e6 := HLL.out
    simp only [List.length_append, List.length_nil] at *
    omega
  clear c10 m10 hx10 hwb
  go_wp2_with (first | ((with_reducible apply wpl_alloc); intro z wz _ _ _) | ((with_reducible apply wpl_box_agg); (exact rfl); intro z wz _ _ _) | ((with_reducible apply wpl_box_int); (exact rfl); intro z wz _ _ _) | ((with_reducible apply wpl_box_slice); (exact rfl); intro z wz _ _ _) | ((with_reducible apply wpl_box_str); (exact rfl); intro z wz _ _ _) | ((with_reducible apply wpl_box_bool); (exact rfl); intro z wz _ _ _) | ((with_reducible apply wpl_box_ptr); (exact rfl); intro z wz _ _ _) | ((with_reducible apply wpl_loadrow); (exact rfl); infer_instance; infer_instance; (first | (with_reducible assumption) | (with_reducible exact H32.size _) | kernel_rfl)) | ((with_reducible apply wpl_loadcellN); (exact rfl); infer_instance; (exact rfl)))
  refine (Out_calls zw A10 _ w10 h10.out (by omega)).mono ?_
  rintro e w11 ⟨M2, m2, d2, rfl, hln, hown, hc8, hnew⟩
  have n11 : Nw w w11 := ⟨n10.out.trans hc8.out (fun _ _ h => h)⟩
  go_wp2_with (first | ((with_reducible apply wpl_alloc); intro z wz _ _ _) | ((with_reducible apply wpl_box_agg); (exact rfl); intro z wz _ _ _) | ((with_reducible apply wpl_box_int); (exact rfl); intro z wz _ _ _) | ((with_reducible apply wpl_box_slice); (exact rfl); intro z wz _ _ _) | ((with_reducible apply wpl_box_str); (exact rfl); intro z wz _ _ _) | ((with_reducible apply wpl_box_bool); (exact rfl); intro z wz _ _ _) | ((with_reducible apply wpl_box_ptr); (exact rfl); intro z wz _ _ _) | ((with_reducible apply wpl_loadrow); (exact rfl); infer_instance; infer_instance; (first | (with_reducible assumption) | (with_reducible exact H32.size _) | kernel_rfl)) | ((with_reducible apply wpl_loadcellN); (exact rfl); infer_instance; (exact rfl)))
  go_ret
  exact ⟨M2, m2, d2, rfl, hln.out.symm, own_cap hown.out, ⟨hown.out⟩, ⟨fun ad e => Nat.le_trans n10.out.size (hnew.out ad e)⟩, ⟨n11.out⟩⟩
end Go.Proofs.Ytegdihpnefoolaa
