/- WzD, WzE -/
import Derived.Test.YtgjnjhhhbkidbaaGreatUcRoM
import Derived.Test.YtgjnjhhhbkidbaaGreatUcWzC
import Derived.Test.YtgjnjhhhbkidbaaGreatUcWuC
section
open Go Go.RowKit
namespace Go.Proofs.YtgjnjhhhbkidbaaGreat
theorem HB.row_eq {w : World} {g : Nat} {t : TypeId} {cs ds : Array Value} (h : HB w g t cs) (e : cs = ds) : HB w g t ds := e ▸ h
theorem Nw.hr {w w' : World} (n : Nw w w') {A : Option Addr} {vs : List Value} (h : Rd w A vs) : HR w' A vs := HR.step nowhere w w' A _ (h := ⟨h⟩) (s := ⟨n.out⟩)
set_option maxRecDepth 100000 in
set_option maxHeartbeats 3200000 in
theorem rDecodeTime_calls {A : Option Addr} {n c : Nat} {b : List UInt8} {w : World} [hr : HR w A (bs b)] (hl : b.length = n) (hcap : n ≤ c) (hn : n ≤ 140737488351232) :
    Calls Tryz.prog 20 #[.slice A n c] w (DecT b w) := by
 obtain ⟨S, hS⟩ : ∃ S, S = kindS 2 b := ⟨_, rfl⟩
 obtain ⟨W, hW⟩ : ∃ W, W = wholeB (tR S) := ⟨_, rfl⟩
 obtain ⟨I, hI⟩ : ∃ I, I = timB (tV S) (tE S) (tS S) := ⟨_, rfl⟩
 have hSl : S.b.length ≤ 140737488351232 := by
  have := kindS_le 2 b
  rw [← hS] at this
  omega
 have hSb : S.b ≠ [] → b ≠ [] := fun h h0 => by
  have := kindS_le 2 b
  rw [← hS, h0] at this
  exact h (List.eq_nil_of_length_eq_zero (by simpa using this))
 have hok : tOk b = (W && I) := by rw [tOk, ← hS, hW, hI]
 have hD : timD b = (timL (tV S) (tE S) (tS S) (tH S)).toArray := by rw [timD, ← hS]
 have hback : (W && I) = true → b = encAll [2, (tV S : Int), (tE S : Int), (tS S : Int)] ++ (tH S).l := fun h => by
  have h1 := tOk_back (b := b) (by rw [hok]; exact h)
  rw [← hS] at h1
  simpa [encAll, timE] using h1
 obtain ⟨V, hV⟩ : ∃ V, V = tV S := ⟨_, rfl⟩
 obtain ⟨E, hE⟩ : ∃ E, E = tE S := ⟨_, rfl⟩
 obtain ⟨N, hN⟩ : ∃ N, N = tS S := ⟨_, rfl⟩
 obtain ⟨H, hH⟩ : ∃ H, H = tH S := ⟨_, rfl⟩
 rw [← hV, ← hE, ← hN] at hI
 rw [← hV, ← hE, ← hN, ← hH] at hD hback
 have HBK := Lib.hid hback
 have HRR := Lib.hid hr.out
 have HS := Lib.hid hS
 have HW := Lib.hid hW
 have HI := Lib.hid hI
 have HV : Hid (S.num.1 = V) := Lib.hid hV.symm
 have HE : Hid ((S.at 1).num.1 = E) := Lib.hid hE.symm
 have HN : Hid ((S.at 2).num.1 = N) := Lib.hid hN.symm
 have HH : Hid ((S.at 3).hsh = H) := Lib.hid hH.symm
 have HLE := Lib.hid hl
 have kb0 : ∀ w, (Instr.build 54 #[]).run Tryz.prog w = .ok (.agg (timL 0 0 0 zeroH).toArray) w := fun _ => by kernel_rfl
 unfold DecT
 rw [hok, hD]
 clear hS hW hI hV hE hN hH hok hD hback
 go_enter Tryz.func20, Tryz.ntmps20
 go_wp2_with (first | ((with_reducible apply (wpl_alloc (dst := some 2))); intro zo wzo _ _ _))
 have hro : HR wzo A (bs b) := ⟨HRR.out.later (stepN (w0 := w) (w := wzo)).chg⟩
 refine (rReader_calls (kind := 2) (b := b) HLE.out hcap hn).mono ?_
 rintro e w5 ⟨zr, d, rfl, _, hzr, hltr, h5, hdw⟩
 rw [← HS.out] at h5
 have hzw : w.heap.size ≤ zr := Nat.le_trans (inferInstance : SzLe w wzo).out hzr
 have ag : Above w (only zr) := ⟨fun k h => by have h' : k = zr := h; omega⟩
 have hzol := (inferInstance : HB wzo zo 54 (timL 0 0 0 zeroH).toArray).out.lt
 have ozr : OffB (only zr) zo := ⟨fun e => by have e' : zo = zr := e; omega⟩
 have hd5 : S.b ≠ [] → d < w5.heap.size := fun h => h5.out.dlt h
 have H5 := Lib.hid h5
 clear h5
 go_wp2_with (first | ((with_reducible apply (wpl_alloc (dst := some 5))); intro zt wzt _ _ _))
 have hzt : w5.heap.size ≤ zt := (NewA.monoS (w0 := w5) (NewA.of_born (z := zt) 0)).out ⟨zt, 0, none⟩ rfl
 have at_ : Above w (only zt) := ⟨fun k h => by have h' : k = zt := h; have := (inferInstance : SzLe w w5).out; omega⟩
 have otr : OffB (only zr) zt := ⟨fun e => by have e' : zt = zr := e; omega⟩
 have far : ∀ (s : RS) (w1 w2 : World), (s.b ≠ [] → S.b ≠ []) → Step (only zt) w1 w2 → RRAt w1 zr d s → RRAt w2 zr d s := fun s w1 w2 hs st h => h.chg2 st.chg (fun e => by have e' : zr = zt := e; omega) (fun hne e => by have e' : d = zt := e; have := hd5 (hs hne); omega)
 refine (rrNum_calls zr d S _ (H5.out.out.chg (stepN (w0 := w5)).chg (fun h => h) (fun h => h)) (by omega)).mono ?_
 rw [HV.out]
 rintro e w6 ⟨rfl, h6, c6⟩
 have st6 : Step (only zr) _ w6 := ⟨c6.out⟩
 go_wp2_with (first | ((with_reducible apply wpl_storecell); exact rfl; exact rfl; infer_instance; exact rfl; (first | (with_reducible assumption) | omega | (focus (simp; done)) | (focus (simp; omega; done)) | decide); intro ws _ _))
 have ht6 : HB ws zt 54 (timL V 0 0 zeroH).toArray := HB.row_eq (w := ws) (g := zt) inferInstance rfl
 have H6 := Lib.hid (far (S.at 1) _ _ RS.at_ne (inferInstance : Step (only zt) w6 ws) h6.out)
 clear h6
 refine (rrNum_calls zr d (S.at 1) _ H6.out (by have := S.at_le 1; omega)).mono ?_
 rw [HE.out]
 rintro e w7 ⟨rfl, h7, c7⟩
 have st7 : Step (only zr) _ w7 := ⟨c7.out⟩
 have ht7 : HB w7 zt 54 (timL V 0 0 zeroH).toArray := inferInstance
 have hk7 : 1 < (timL (V : Int) 0 0 zeroH).toArray.size := by rw [timL_len]; decide
 go_wp2_with (first | ((with_reducible apply wpl_storecell); exact rfl; exact rfl; infer_instance; exact rfl; (first | (with_reducible assumption) | omega | (focus (simp; done)) | (focus (simp; omega; done)) | decide); intro ws _ _))
 have ht8 : HB ws zt 54 (timL V E 0 zeroH).toArray := HB.row_eq (w := ws) (g := zt) inferInstance rfl
 have H7 := Lib.hid (far (S.at 2) _ _ RS.at_ne (inferInstance : Step (only zt) w7 ws) h7.out)
 clear h7
 refine (rrNum_calls zr d (S.at 2) _ H7.out (by have := S.at_le 2; omega)).mono ?_
 rw [HN.out]
 rintro e w8 ⟨rfl, h8, c8⟩
 have st8 : Step (only zr) _ w8 := ⟨c8.out⟩
 have ht8b : HB w8 zt 54 (timL V E 0 zeroH).toArray := inferInstance
 have hk8 : 2 < (timL (V : Int) E 0 zeroH).toArray.size := by rw [timL_len]; decide
 go_wp2_with (first | ((with_reducible apply wpl_storecell); exact rfl; exact rfl; infer_instance; exact rfl; (first | (with_reducible assumption) | omega | (focus (simp; done)) | (focus (simp; omega; done)) | decide); intro ws _ _))
 have ht9 : HB ws zt 54 (timL V E N zeroH).toArray := HB.row_eq (w := ws) (g := zt) inferInstance rfl
 have H8 := Lib.hid (far (S.at 3) _ _ RS.at_ne (inferInstance : Step (only zt) w8 ws) h8.out)
 clear h8
 have nw9 : Nw w ws := inferInstance
 have hzo9 : HB ws zo 54 (timL 0 0 0 zeroH).toArray := inferInstance
 refine (rHash_calls H8.out (by have := S.at_le 3; omega)).mono ?_
 rw [HH.out]
 rintro e w10 ⟨rfl, st10, h10⟩
 have ht10 : HB w10 zt 54 (timL V E N zeroH).toArray := inferInstance
 have hzo10 : HB w10 zo 54 (timL 0 0 0 zeroH).toArray := inferInstance
 have nw10 : Nw w w10 := inferInstance
 have hsz10 : (timL (V : Int) E N zeroH).toArray.size = 35 := timL_len _ _ _ _
 have hput : (timL (V : Int) E N zeroH).toArray.toList.take 3 ++ (u8s H.l).toList ++ (timL (V : Int) E N zeroH).toArray.toList.drop (3 + 32) = (timL (V : Int) E N H).toArray.toList := by
  show [Value.int .i64 V, .int .i64 E, .int .i64 N] ++ (u8s H.l).toList ++ (bs zeroH.l).drop 32 = Value.int .i64 V :: .int .i64 E :: .int .i64 N :: bs H.l
  rw [show (bs zeroH.l).drop 32 = [] from rfl, List.append_nil]
  simp [u8s]
 have HPUT := Lib.hid hput
 have hnb : ((S.at 3).raw 32).2.b ≠ [] → S.b ≠ [] := fun h h0 => h (List.eq_nil_of_length_eq_zero (by
  have h1 := (S.at 3).raw_l 32
  have h2 := S.at_le 3
  have h3 : (S.at 3).b.length = 0 := by simpa [h0] using h2
  omega))
 clear hput
 go_wp2_with (first | ((with_reducible apply wpl_storepart); exact rfl; exact rfl; exact ht10; infer_instance; exact H32.size _; (decide); (rw [hsz10]; decide); exact u8s_one _; exact HPUT.out; intro wp _ ht11) | ((with_reducible apply wpl_loadrow); exact rfl; exact ht11; infer_instance; exact timL_len _ _ _ _))
 have H11 : Hid (RRAt wp zr d (tR S)) := Lib.hid (far (tR S) _ _ hnb (inferInstance : Step (only zt) w10 wp) h10.out)
 clear h10
 have nw11 : Nw w wp := inferInstance
 have hzo11 : HB wp zo 54 (timL 0 0 0 zeroH).toArray := inferInstance
 refine (rEncodeTime_calls V E N H wp).mono ?_
 unfold EncPost
 rw [← HI.out]
 have hR0 : (tR S).b.length ≤ 140737488351232 := Nat.le_trans (tR_le S) hSl
 cases I
 case false =>
  rintro e w12 ⟨st12, h12⟩
  obtain rfl : e = _ := h12
  go_wp2_with fail
  have nw12 : Nw w w12 := inferInstance
  have hb12 : HR w12 A (bs b) := nw12.hr HRR.out
  have hn12 : HR w12 none (bs []) := HR.nilB w12
  have HR12 : RRAt w12 zr d (tR S) := H11.out.chg st12.chg (fun h => h) (fun h => h)
  cases W
  all_goals
   refine (rJust_calls (b := b) (y := []) (e0 := 1) HR12 hR0 HLE.out rfl).mono ?_
   rw [show (wholeB (tR S) && decide ((1 : Int) = 0) && decide (b = [])) = false by simp]
   rintro e w13 ⟨rfl, rfl⟩
   go_wp2_with (first | ((with_reducible apply wpl_storerow); exact rfl; exact rfl; infer_instance; infer_instance; exact timL_len _ _ _ _; exact timL_len _ _ _ _; exact timL_one _ _ _ _; intro ws _ _) | ((with_reducible apply wpl_build); exact kb0 _))
   refine ret_row_ rfl rfl rfl (n := 35) (timL_len _ _ _ _) rfl ?_
   exact ⟨stepN, rfl⟩
 case true =>
  rintro e w12 ⟨st12, A5, n5, c5, rfl, hn5, hO5, hA5⟩
  have HN5 := Lib.hid hn5
  clear hn5
  go_wp2_with fail
  have nw12 : Nw w w12 := inferInstance
  have hb12 : HR w12 A (bs b) := nw12.hr HRR.out
  have hy12 : HR w12 A5 (bs (encAll [2, (V : Int), E, N] ++ H.l)) := inferInstance
  have HR12 : RRAt w12 zr d (tR S) := H11.out.chg st12.chg (fun h => h) (fun h => h)
  refine (rJust_calls (b := b) (y := encAll [2, (V : Int), E, N] ++ H.l) (e0 := 0) HR12 hR0 HLE.out HN5.out.symm).mono ?_
  rw [← HW.out]
  rw [show (W && true) = W by simp] at HBK
  have e9 : (W && decide ((0 : Int) = 0) && decide (b = encAll [2, (V : Int), E, N] ++ H.l)) = W := by
   cases W
   · rfl
   · rw [decide_eq_true (HBK.out rfl)]
     rfl
  rw [e9]
  clear e9
  have ht12 : HB w12 zt 54 (timL V E N H).toArray := inferInstance
  have hzo12 : HB w12 zo 54 (timL 0 0 0 zeroH).toArray := inferInstance
  cases W
  case false =>
   rintro e w13 ⟨rfl, rfl⟩
   go_wp2_with (first | ((with_reducible apply wpl_storerow); exact rfl; exact rfl; infer_instance; infer_instance; exact timL_len _ _ _ _; exact timL_len _ _ _ _; exact timL_one _ _ _ _; intro ws _ _) | ((with_reducible apply wpl_build); exact kb0 _))
   refine ret_row_ rfl rfl rfl (n := 35) (timL_len _ _ _ _) rfl ?_
   exact ⟨stepN, rfl⟩
  case true =>
   rintro e w13 ⟨rfl, rfl⟩
   go_wp2_with (first | ((with_reducible apply wpl_storerow); exact rfl; exact rfl; infer_instance; infer_instance; exact timL_len _ _ _ _; exact timL_len _ _ _ _; exact timL_one _ _ _ _; intro ws _ _) | ((with_reducible apply wpl_loadrow); exact rfl; exact ht12; infer_instance; exact timL_len _ _ _ _))
   refine ret_row_ rfl rfl rfl (n := 35) (timL_len _ _ _ _) rfl ?_
   exact ⟨stepN, rfl⟩
end Go.Proofs.YtgjnjhhhbkidbaaGreat
end
section
open Go Go.RowKit
namespace Go.Proofs.YtgjnjhhhbkidbaaGreat
theorem RS.raw_1 (s : RS) (i : Int) : (s.raw i).1.length ≤ s.b.length := by
 unfold RS.raw
 split
 · exact Nat.zero_le _
 · exact List.length_take_le' _ _
theorem RS.row_1 (s : RS) : s.row.1.length ≤ s.b.length := Nat.le_trans (s.num.2.raw_1 _) (RS.num_le s)
set_option maxRecDepth 100000 in
theorem rReadText_calls {g d : Nat} {s : RS} {w : World} (hw : RRAt w g d s) (hl : s.b.length ≤ 1000000000) :
    Calls Tryz.prog 48 #[.pointer (some ⟨g, 0, none⟩)] w fun e w' => e = .returned (.string (strL s.row.1)) ∧ Step (only g) w w' ∧ Hid (RRAt w' g d s.row.2) := by
 go_enter Tryz.func48, Tryz.ntmps48
 go_wp2_with fail
 refine (rrBytes_calls g d s w hw (by omega)).mono ?_
 rintro e w5 ⟨A5, n5, c5, rfl, hn5, ho5, h5, cc5, hA5⟩
 have hr5 : HR w5 A5 (bs s.row.1) := ⟨ho5.out.rd⟩
 have hle := hn5.out.symm
 have HR5 := h5
 have st5 : Step (only g) w w5 := ⟨cc5.out⟩
 clear hn5 ho5 h5 cc5 hA5
 go_wp2_with (first | ((with_reducible apply wpl_conv); exact rfl; exact hr5; exact hle; exact Tryz.underlying29; exact Tryz.underlying5; exact Tryz.underlying9))
 go_ret
 exact ⟨rfl, st5, HR5⟩
end Go.Proofs.YtgjnjhhhbkidbaaGreat
end
