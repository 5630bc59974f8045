/- EnD -/
import Derived.Test.YthcleccofccbdaaTrEnB
import Derived.Test.YthcleccofccbdaaTrRoH
import Derived.Test.YthcleccofccbdaaTrRdD
open Go Go.RowKit
namespace Go.Proofs.Ythcleccofccbdaa
def mkA (K : H32) (leaf : Int) (A : Option Addr) (n c : Nat) (B : Option Addr) (m d : Nat) : Array Value := u8s K.l ++ #[.int .i64 leaf, .slice A n c, .slice B m d]
theorem mkA_val (x : MarkR) : (RowC.enc x).toArray = mkA x.key x.leaf x.A x.l.length x.c x.B x.p.length x.k := by
  apply Array.ext'
  show bs x.key.l ++ x.sig = (u8s x.key.l ++ _).toList
  rw [Array.toList_append]
  rfl
theorem mkA_size (K : H32) (leaf : Int) (A : Option Addr) (n c : Nat) (B : Option Addr) (m d : Nat) : (mkA K leaf A n c B m d).size = 35 := by
  rw [mkA, Array.size_append, K.size]
  rfl
theorem mkA_one (K : H32) (leaf : Int) (A : Option Addr) (n c : Nat) (B : Option Addr) (m d : Nat) : (mkA K leaf A n c B m d).all (·.oneCell') = true := by
  rw [mkA, Array.all_append, u8s_one, Bool.true_and, Array.all_eq_true_iff_forall_mem]
  intro u hu
  simp only [List.mem_toArray, List.mem_cons, List.not_mem_nil, or_false] at hu
  rcases hu with rfl | rfl | rfl <;> rfl
theorem sig_one (leaf : Int) (A : Option Addr) (n c : Nat) (B : Option Addr) (m d : Nat) : (#[.int .i64 leaf, .slice A n c, .slice B m d] : Array Value).all (·.oneCell') = true := by
  rw [Array.all_eq_true_iff_forall_mem]
  intro u hu
  simp only [List.mem_toArray, List.mem_cons, List.not_mem_nil, or_false] at hu
  rcases hu with rfl | rfl | rfl <;> rfl
theorem mkA_put (K : H32) (l0 leaf : Int) (A0 A B0 B : Option Addr) (n0 c0 m0 d0 n c m d : Nat) : (mkA K l0 A0 n0 c0 B0 m0 d0).toList.take 32 ++ (#[.int .i64 leaf, .slice A n c, .slice B m d] : Array Value).toList ++ (mkA K l0 A0 n0 c0 B0 m0 d0).toList.drop (32 + 3) = (mkA K leaf A n c B m d).toList := by
  have h : (u8s K.l).toList.length = 32 := by rw [Array.length_toList, K.size]
  unfold mkA
  rw [Array.toList_append, Array.toList_append, List.take_left' h, List.drop_of_length_le (by rw [List.length_append, h]; exact Nat.le_refl _), List.append_nil]
theorem zeroMk_size : zeroMk.size = 35 := by
  rw [zeroMk, Array.size_append, zeroH.size]
  rfl
theorem mkA_lay (K : H32) : lay 0 (Value.agg (u8s K.l)).cells zeroMk = mkA K 0 none 0 0 none 0 0 := by
  apply Array.ext'
  show zeroMk.toList.take 0 ++ (u8s K.l).toList ++ zeroMk.toList.drop (0 + (u8s K.l).size) = _
  have h : (u8s zeroH.l).toList.length = 32 := by rw [Array.length_toList, zeroH.size]
  rw [K.size, zeroMk, mkA, Array.toList_append, Array.toList_append, Nat.zero_add, List.drop_left' h]
  rfl
theorem run_mkK (K : H32) (w : World) : (Instr.build 125 #[(0, .agg (u8s K.l))]).run Try.prog w = .ok (.agg (mkA K 0 none 0 0 none 0 0)) w := by
  refine run_build_struct Try.underlying125 (zv := .agg zeroMk) (fun _ => by kernel_rfl) (places := #[(0, 32), (32, 3)]) (fun _ => by kernel_rfl) ?_ w
  show Instr.fill _ zeroMk [(0, .agg (u8s K.l))] = _
  rw [fill_step _ _ 0 _ _ (off := 0) (size := 32) rfl (by show (u8s K.l).size = 32; exact K.size) (by rw [zeroMk_size]; decide), mkA_lay]
  rfl
theorem RdrAt.put {w5 wq wp : World} {g d z m : Nat} {s : RS} (h : RdrAt w5 g d s) [n : Nw w5 wq] (st : Step (only z) wq wp) (hz : m ≤ z) (hg : g < m) (hd : s.b ≠ [] → d < m) : RdrAt wp g d s := (h.chg n.out (fun h => h) (fun h => h)).far st.chg (fun x hx => by have hx' : x = z := hx; omega) hg hd
set_option maxRecDepth 100000 in
set_option maxHeartbeats 3200000 in
theorem takeMark_calls {g d : Nat} {s : RS} {w : World} (hw : RdrAt w g d s) (hl : s.b.length ≤ 1000000000) :
    Calls Try.prog 132 #[.pointer (some ⟨g, 0, none⟩)] w fun e w' => ∃ x : MarkR, e = .returned (.agg (RowC.enc x).toArray) ∧ Step (only g) w w' ∧ Hid (RdrAt w' g d (mkTk s).2) ∧ Hid (x.m = (mkTk s).1) ∧ MarkIn w' x ∧ NewA w x.A ∧ NewA w x.B := by
  have HW0 := Lib.hid hw
  have HL := Lib.hid hl
  have hgl := hw.lt
  have hdl := hw.dlt
  have hpl := mkTakes.le s
  obtain ⟨K, hK⟩ : ∃ x, x = s.hsh := ⟨_, rfl⟩
  obtain ⟨s1, hs1⟩ : ∃ x, x = mkS1 s := ⟨_, rfl⟩
  obtain ⟨y, hy⟩ : ∃ x, x = mkBy s := ⟨_, rfl⟩
  obtain ⟨s2, hs2⟩ : ∃ x, x = s1.row.2 := ⟨_, rfl⟩
  have e1 : s1.b.length ≤ s.b.length := by rw [hs1]; exact mkS1_le s
  have ey : y.length ≤ s.b.length := by rw [hy]; exact mkBy_le s
  have HK : Hid (s.hsh = K) := Lib.hid hK.symm
  have HS1 : Hid ((s.raw 32).2 = s1) := Lib.hid hs1.symm
  have HY : Hid (s1.row.1 = y) := Lib.hid (by rw [hy, hs1]; rfl)
  have HS2 : Hid (s1.row.2 = s2) := Lib.hid hs2.symm
  have HMT : Hid (dOk y = true → mkTk s = ((K, (dLeaf y : Int), dL y, dP y), s2)) := Lib.hid (fun h => by
    rw [hy] at h
    rw [mkTk, if_pos h, hK, hy, hs2, hs1])
  have HMF : Hid (dOk y = false → mkTk s = ((K, 0, [], []), RS.bad)) := Lib.hid (fun h => by
    rw [hy] at h
    rw [mkTk, if_neg (by rw [h]; decide), hK])
  clear hw hl hK hs1 hy hs2
  go_enter Try.func132, Try.ntmps132
  go_wp2_with (first | ((with_reducible apply (wpl_alloc (dst := some 2))); intro zo wzo _ _ _) | ((with_reducible apply wpl_alloc); intro z wz _ _ _) | ((with_reducible apply wpl_loadrow); (exact rfl); infer_instance; infer_instance; (first | (with_reducible assumption) | (with_reducible exact H32.size _) | (with_reducible exact enc_sz _ rfl) | kernel_rfl)) | ((with_reducible apply wpl_loadcellN); (exact rfl); infer_instance; (exact rfl)) | ((with_reducible apply wpl_storerow); (exact rfl); (exact rfl); infer_instance; infer_instance; (first | (with_reducible assumption) | (with_reducible exact H32.size _) | (with_reducible exact enc_sz _ rfl) | kernel_rfl); (first | (with_reducible assumption) | (with_reducible exact H32.size _) | (with_reducible exact enc_sz _ rfl) | kernel_rfl); (first | (with_reducible exact u8s_one _) | (with_reducible assumption) | (with_reducible exact enc_one _) | kernel_rfl); intro ws _ _) | ((with_reducible apply wpl_storecell); (exact rfl); (exact rfl); infer_instance; (exact rfl); (first | (with_reducible assumption) | omega | (focus (simp; done)) | (focus (simp; omega; done)) | decide); intro ws _ _))
  have hzo : w.heap.size ≤ zo := Nat.le_of_eq (inferInstance : Born w zo).eq.symm
  have hzl := (inferInstance : HB wzo zo 125 zeroMk).out.lt
  have ozo : OffB (only g) zo := ⟨fun e => by have e' : zo = g := e; omega⟩
  refine (takeHash_calls (HW0.out.chg (stepN (w0 := w)).chg (fun h => h) (fun h => h)) (by have := HL.out; omega)).mono ?_
  rw [HK.out, HS1.out]
  rintro e w2 ⟨rfl, st2, h2⟩
  have hz2 := st2.chg.size
  have kbK := run_mkK K
  have hsK := mkA_size K 0 none 0 0 none 0 0
  have hoK : (mkA K 0 none 0 0 none 0 0).all (·.oneCell') = true := mkA_one _ _ _ _ _ _ _ _
  go_wp2_with (first | ((with_reducible apply (stop_dst (dst := some 8))); (try simp only [Act.put, sA, sB, sC]); ((with_reducible apply (wpl_build (dst := some 8))); (exact kbK _))) | ((with_reducible apply (wpl_alloc (dst := some 3))); intro zm wzm _ _ _) | ((with_reducible apply wpl_alloc); intro z wz _ _ _) | ((with_reducible apply wpl_loadrow); (exact rfl); infer_instance; infer_instance; (first | (with_reducible assumption) | (with_reducible exact H32.size _) | (with_reducible exact enc_sz _ rfl) | kernel_rfl)) | ((with_reducible apply wpl_loadcellN); (exact rfl); infer_instance; (exact rfl)) | ((with_reducible apply wpl_storerow); (exact rfl); (exact rfl); infer_instance; infer_instance; (first | (with_reducible assumption) | (with_reducible exact H32.size _) | (with_reducible exact enc_sz _ rfl) | kernel_rfl); (first | (with_reducible assumption) | (with_reducible exact H32.size _) | (with_reducible exact enc_sz _ rfl) | kernel_rfl); (first | (with_reducible exact u8s_one _) | (with_reducible assumption) | (with_reducible exact enc_one _) | kernel_rfl); intro ws _ _) | ((with_reducible apply wpl_storecell); (exact rfl); (exact rfl); infer_instance; (exact rfl); (first | (with_reducible assumption) | omega | (focus (simp; done)) | (focus (simp; omega; done)) | decide); intro ws _ _))
  have hzm : w2.heap.size ≤ zm := Nat.le_of_eq (inferInstance : Born w2 zm).eq.symm
  have ozm : OffB (only g) zm := ⟨fun e => by have e' : zm = g := e; omega⟩
  have nw2 : Nw w2 ws := inferInstance
  have hmA : HB ws zm 125 (mkA K 0 none 0 0 none 0 0) := inferInstance
  have hzoA : HB ws zo 125 zeroMk := inferInstance
  have hzml := hmA.out.lt
  have hzow := (stepN (w0 := w) (w := wzo)).chg.size
  have hzmw : w.heap.size ≤ zm := by omega
  have hk35 : 32 + 3 ≤ (mkA K 0 none 0 0 none 0 0).size := by rw [hsK]; decide
  have hd2 : s2.b ≠ [] → d < w.heap.size := fun h => hdl (ne_of_le (by rw [← HS2.out]; exact Nat.le_trans (RS.row_le s1) e1) h)
  have hzol := hzoA.out.lt
  refine (rBytes_calls g d s1 ws (h2.chg nw2.out (fun h => h) (fun h => h)) (by have := HL.out; omega)).mono ?_
  rw [HY.out, HS2.out]
  rintro e w5 ⟨A5, n5, c5, rfl, hn5, hO5, h5, hc5, hA5⟩
  have st5 : Step (only g) ws w5 := ⟨hc5.out⟩
  have hY5 : HR w5 A5 (bs y) := ⟨hO5.out.rd⟩
  have hm5 : HB w5 zm 125 (mkA K 0 none 0 0 none 0 0) := inferInstance
  have hzo5 : HB w5 zo 125 zeroMk := inferInstance
  clear hc5
  go_wp2_with (first | ((with_reducible apply wpl_alloc); intro z wz _ _ _) | ((with_reducible apply wpl_loadrow); (exact rfl); infer_instance; infer_instance; (first | (with_reducible assumption) | (with_reducible exact H32.size _) | (with_reducible exact enc_sz _ rfl) | kernel_rfl)) | ((with_reducible apply wpl_loadcellN); (exact rfl); infer_instance; (exact rfl)) | ((with_reducible apply wpl_storerow); (exact rfl); (exact rfl); infer_instance; infer_instance; (first | (with_reducible assumption) | (with_reducible exact H32.size _) | (with_reducible exact enc_sz _ rfl) | kernel_rfl); (first | (with_reducible assumption) | (with_reducible exact H32.size _) | (with_reducible exact enc_sz _ rfl) | kernel_rfl); (first | (with_reducible exact u8s_one _) | (with_reducible assumption) | (with_reducible exact enc_one _) | kernel_rfl); intro ws _ _) | ((with_reducible apply wpl_storecell); (exact rfl); (exact rfl); infer_instance; (exact rfl); (first | (with_reducible assumption) | omega | (focus (simp; done)) | (focus (simp; omega; done)) | decide); intro ws _ _))
  refine (kdecode_calls (b := y) hn5.out.symm (by have := HL.out; have := hn5.out; omega)).mono ?_
  unfold KDecPost
  cases hd : dOk y
  case false =>
    have HMK := Lib.hid (HMF.out hd)
    rintro e w6 ⟨st6, h6⟩
    obtain rfl : e = _ := h6
    have hm6 : HB w6 zm 125 (mkA K 0 none 0 0 none 0 0) := inferInstance
    have hzo6 : HB w6 zo 125 zeroMk := inferInstance
    have ozs : ∀ z, w6.heap.size ≤ z → OffB (only g) z := fun z hz => ⟨fun e => by have e' : z = g := e; have := st6.chg.size; have := st5.chg.size; have := nw2.out.size; omega⟩
    have HPUT := Lib.hid (mkA_put K 0 0 none none none none 0 0 0 0 0 0 0 0)
    clear hd
    go_wp2_with (first | ((with_reducible apply (wpl_alloc (dst := some 4))); intro zs wzs _ _ _) | ((with_reducible apply wpl_alloc); intro z wz _ _ _) | ((with_reducible apply wpl_loadrow); (exact rfl); infer_instance; infer_instance; (first | (with_reducible assumption) | (with_reducible exact H32.size _) | (with_reducible exact enc_sz _ rfl) | kernel_rfl)) | ((with_reducible apply wpl_loadcellN); (exact rfl); infer_instance; (exact rfl)) | ((with_reducible apply wpl_storerow); (exact rfl); (exact rfl); infer_instance; infer_instance; (first | (with_reducible assumption) | (with_reducible exact H32.size _) | (with_reducible exact enc_sz _ rfl) | kernel_rfl); (first | (with_reducible assumption) | (with_reducible exact H32.size _) | (with_reducible exact enc_sz _ rfl) | kernel_rfl); (first | (with_reducible exact u8s_one _) | (with_reducible assumption) | (with_reducible exact enc_one _) | kernel_rfl); intro ws _ _) | ((with_reducible apply wpl_storecell); (exact rfl); (exact rfl); infer_instance; (exact rfl); (first | (with_reducible assumption) | omega | (focus (simp; done)) | (focus (simp; omega; done)) | decide); intro ws _ _))
    have ozs4 : OffB (only g) zs := ozs zs (Nat.le_of_eq (inferInstance : Born w6 zs).eq.symm)
    have nw6 : Nw w5 ws := inferInstance
    have hs6 : HB ws zs 123 #[.int .i64 0, .slice none 0 0, .slice none 0 0] := inferInstance
    have hm6b : HB ws zm 125 (mkA K 0 none 0 0 none 0 0) := inferInstance
    have hzo6b : HB ws zo 125 zeroMk := inferInstance
    refine (Bad_calls g d _ _ (h5.out.chg nw6.out (fun h => h) (fun h => h))).mono ?_
    rintro e w7 ⟨rfl, h7, c7⟩
    have st7 : Step (only g) ws w7 := ⟨c7.out⟩
    have hm7 : HB w7 zm 125 (mkA K 0 none 0 0 none 0 0) := inferInstance
    have hs7 : HB w7 zs 123 #[.int .i64 0, .slice none 0 0, .slice none 0 0] := inferInstance
    have hzo7 : HB w7 zo 125 zeroMk := inferInstance
    go_wp2_with (first | ((with_reducible apply wpl_storepart); (exact rfl); (exact rfl); infer_instance; infer_instance; (exact rfl); (decide); (exact hk35); (exact sig_one _ _ _ _ _ _ _); (exact HPUT.out); intro wp stp htp; have HRP := Lib.hid (RdrAt.put (m := w.heap.size) h7.out stp hzmw hgl (fun h => absurd rfl h))) | ((with_reducible apply wpl_alloc); intro z wz _ _ _) | ((with_reducible apply wpl_loadrow); (exact rfl); infer_instance; infer_instance; (first | (with_reducible assumption) | (with_reducible exact H32.size _) | (with_reducible exact enc_sz _ rfl) | kernel_rfl)) | ((with_reducible apply wpl_loadcellN); (exact rfl); infer_instance; (exact rfl)) | ((with_reducible apply wpl_storerow); (exact rfl); (exact rfl); infer_instance; infer_instance; (first | (with_reducible assumption) | (with_reducible exact H32.size _) | (with_reducible exact enc_sz _ rfl) | kernel_rfl); (first | (with_reducible assumption) | (with_reducible exact H32.size _) | (with_reducible exact enc_sz _ rfl) | kernel_rfl); (first | (with_reducible exact u8s_one _) | (with_reducible assumption) | (with_reducible exact enc_one _) | kernel_rfl); intro ws _ _) | ((with_reducible apply wpl_storecell); (exact rfl); (exact rfl); infer_instance; (exact rfl); (first | (with_reducible assumption) | omega | (focus (simp; done)) | (focus (simp; omega; done)) | decide); intro ws _ _))
    refine ret_row rfl rfl (n := 35) hsK rfl ⟨⟨K, 0, none, 0, [], none, 0, []⟩, by rw [mkA_val]; rfl, stepC, ?_, ?_, ⟨Rd.nil _ _, Rd.nil _ _⟩, newA_none _, newA_none _⟩
    · rw [HMK.out]
      exact Lib.hid (HRP.out.far (inferInstance : Step (only zo) wp ws).chg (m := w.heap.size) (fun x hx => by have hx' : x = zo := hx; omega) hgl (fun h => absurd rfl h))
    · rw [HMK.out]
      exact Lib.hid rfl
  case true =>
    have HMK := Lib.hid (HMT.out hd)
    rintro e w6 ⟨st6, A6, B6, c6, d6, rfl, hL6, hP6, hA6, hB6⟩
    have hs5 : ws.heap.size ≤ w5.heap.size := st5.chg.size
    have hrL : HR w6 A6 (cellsOf (dL y)) := ⟨hL6.out.rd⟩
    have hrP : HR w6 B6 (cellsOf (dP y)) := ⟨hP6.out.rd⟩
    have oa1 : OffA (only zm) A6 := ⟨fun ad e h => by have h' : ad.block = zm := h; have := hA6.out ad e; omega⟩
    have oa2 : OffA (only zo) A6 := ⟨fun ad e h => by have h' : ad.block = zo := h; have := hA6.out ad e; omega⟩
    have oa3 : OffA (only zm) B6 := ⟨fun ad e h => by have h' : ad.block = zm := h; have := hB6.out ad e; omega⟩
    have oa4 : OffA (only zo) B6 := ⟨fun ad e h => by have h' : ad.block = zo := h; have := hB6.out ad e; omega⟩
    have l36 : (dL y).length = 36 := RS.hs_len _ _
    have l4 : (dP y).length = 4 := RS.hs_len _ _
    have HVAL : Hid ((RowC.enc (⟨K, (dLeaf y : Int), A6, c6, dL y, B6, d6, dP y⟩ : MarkR)).toArray = mkA K (dLeaf y : Int) A6 36 c6 B6 4 d6) := Lib.hid (by rw [mkA_val, l36, l4])
    have hs36 := mkA_size K (dLeaf y : Int) A6 36 c6 B6 4 d6
    have ho36 : (mkA K (dLeaf y : Int) A6 36 c6 B6 4 d6).all (·.oneCell') = true := mkA_one _ _ _ _ _ _ _ _
    have HPUT := Lib.hid (mkA_put K 0 (dLeaf y : Int) none A6 none B6 0 0 0 0 36 c6 4 d6)
    have hm6 : HB w6 zm 125 (mkA K 0 none 0 0 none 0 0) := inferInstance
    have hzo6 : HB w6 zo 125 zeroMk := inferInstance
    clear hd hL6 hP6 l36 l4
    go_wp2_with (first | ((with_reducible apply wpl_storepart); (exact rfl); (exact rfl); infer_instance; infer_instance; (exact rfl); (decide); (exact hk35); (exact sig_one _ _ _ _ _ _ _); (exact HPUT.out); intro wp stp htp; have HRP := Lib.hid (RdrAt.put (m := w.heap.size) h5.out stp hzmw hgl hd2)) | ((with_reducible apply (wpl_alloc (dst := some 4))); intro zs wzs _ _ _) | ((with_reducible apply wpl_alloc); intro z wz _ _ _) | ((with_reducible apply wpl_loadrow); (exact rfl); infer_instance; infer_instance; (first | (with_reducible assumption) | (with_reducible exact H32.size _) | (with_reducible exact enc_sz _ rfl) | kernel_rfl)) | ((with_reducible apply wpl_loadcellN); (exact rfl); infer_instance; (exact rfl)) | ((with_reducible apply wpl_storerow); (exact rfl); (exact rfl); infer_instance; infer_instance; (first | (with_reducible assumption) | (with_reducible exact H32.size _) | (with_reducible exact enc_sz _ rfl) | kernel_rfl); (first | (with_reducible assumption) | (with_reducible exact H32.size _) | (with_reducible exact enc_sz _ rfl) | kernel_rfl); (first | (with_reducible exact u8s_one _) | (with_reducible assumption) | (with_reducible exact enc_one _) | kernel_rfl); intro ws _ _) | ((with_reducible apply wpl_storecell); (exact rfl); (exact rfl); infer_instance; (exact rfl); (first | (with_reducible assumption) | omega | (focus (simp; done)) | (focus (simp; omega; done)) | decide); intro ws _ _))
    have hfL : HR ws A6 (cellsOf (dL y)) := inferInstance
    have hfP : HR ws B6 (cellsOf (dP y)) := inferInstance
    have h56 : w.heap.size ≤ w5.heap.size := by omega
    refine ret_row rfl rfl (n := 35) hs36 rfl ⟨⟨K, (dLeaf y : Int), A6, c6, dL y, B6, d6, dP y⟩, by rw [HVAL.out], stepC, ?_, ?_, ⟨hfL.out, hfP.out⟩, ⟨fun ad e => Nat.le_trans h56 (hA6.out ad e)⟩, ⟨fun ad e => Nat.le_trans h56 (hB6.out ad e)⟩⟩
    · rw [HMK.out]
      exact Lib.hid (HRP.out.far (inferInstance : Step (only zo) wp ws).chg (m := w.heap.size) (fun x hx => by have hx' : x = zo := hx; omega) hgl hd2)
    · rw [HMK.out]
      exact Lib.hid rfl
end Go.Proofs.Ythcleccofccbdaa
