/- The reference's DecodeReport. -/
import Derived.Test.YtecmeejbpkcgiaaWzB
import Derived.Test.YtecmeejbpkcgiaaWzD
open Go Go.RowKit
namespace Go.Proofs.Ytecmeejbpkcgiaa
theorem RS.raw_1 (s : RS) (i : Int) : (s.raw i).1.length ≤ s.b.length := by
  unfold RS.raw
  split
  · exact Nat.zero_le _
  · exact List.length_take_le' _ _
theorem RS.row_1 (s : RS) : s.row.1.length ≤ s.b.length := Nat.le_trans (s.num.2.raw_1 _) (RS.num_le s)
set_option maxRecDepth 100000 in
theorem rReadText_calls {g d : Nat} {s : RS} {w : World} (hw : RRAt w g d s) (hl : s.b.length ≤ 1000000000) :
    Calls Try.prog 73 #[.pointer (some ⟨g, 0, none⟩)] w fun e w' => e = .returned (.string (strL s.row.1)) ∧ Step (only g) w w' ∧ Hid (RRAt w' g d s.row.2) := by
  go_enter Try.func73, Try.ntmps73
  go_wp2_with fail
  refine (rrBytes_calls g d s w hw (by omega)).mono ?_
  rintro e w5 ⟨A5, n5, c5, rfl, hn5, ho5, h5, cc5, hA5⟩
  have hr5 : HR w5 A5 (bs s.row.1) := ⟨ho5.out.rd⟩
  have hle := hn5.out.symm
  have HR5 := h5
  have st5 : Step (only g) w w5 := ⟨cc5.out⟩
  clear hn5 ho5 h5 cc5 hA5
  go_wp2_with (first | ((with_reducible apply wpl_conv); (exact rfl); (exact hr5); (exact hle); (exact Try.underlying28); (exact Try.underlying5); (exact Try.underlying9)))
  go_ret
  exact ⟨rfl, st5, HR5⟩
theorem run_repU (u : ByteArray) (w : World) : (Instr.build 47 #[(0, .string u)]).run Try.prog w = .ok (.agg (repL u ⟨#[]⟩ zeroH 0 0).toArray) w := by kernel_rfl
set_option maxRecDepth 100000 in
set_option maxHeartbeats 3200000 in
theorem rDecodeReport_calls {A : Option Addr} {n c : Nat} {b : List UInt8} {w : World} [hr : HR w A (bs b)] (hl : b.length = n) (hcap : n ≤ c) (hn : n ≤ 1000000000) :
    Calls Try.prog 26 #[.slice A n c] w (DecR b w) := by
  obtain ⟨S, hS⟩ : ∃ S, S = kindS 5 b := ⟨_, rfl⟩
  obtain ⟨W, hW⟩ : ∃ W, W = wholeB (rR S) := ⟨_, rfl⟩
  obtain ⟨I, hI⟩ : ∃ I, I = repB (rU S) (rN S) (rC S) (rK S) := ⟨_, rfl⟩
  have hSl : S.b.length ≤ 1000000000 := by
    have := kindS_le 5 b
    rw [← hS] at this
    omega
  have hok : rOk b = (W && I) := by rw [rOk, ← hS, hW, hI]
  have hD : repD b = (repL (strL (rU S)) (strL (rN S)) (rH S) (rC S) (rK S)).toArray := by rw [repD, ← hS]
  have hback : (W && I) = true → b = encAll [5] ++ (encRow (rU S) ++ (encRow (rN S) ++ ((rH S).l ++ encAll [(rC S : Int), (rK S : Int)]))) := fun h => by
    have h1 := rOk_back (b := b) (by rw [hok]; exact h)
    rw [← hS] at h1
    exact h1
  have hUl : (rU S).length ≤ 1000000000 := Nat.le_trans S.row_1 hSl
  have hNl : (rN S).length ≤ 1000000000 := Nat.le_trans (S.row.2.row_1) (Nat.le_trans (RS.row_le S) hSl)
  obtain ⟨V, hV⟩ : ∃ V, V = rU S := ⟨_, rfl⟩
  obtain ⟨E, hE⟩ : ∃ E, E = rN S := ⟨_, rfl⟩
  obtain ⟨H, hH⟩ : ∃ H, H = rH S := ⟨_, rfl⟩
  obtain ⟨N, hN⟩ : ∃ N, N = rC S := ⟨_, rfl⟩
  obtain ⟨K, hK⟩ : ∃ K, K = rK S := ⟨_, rfl⟩
  rw [← hV, ← hE, ← hN, ← hK] at hI
  rw [← hV, ← hE, ← hN, ← hH, ← hK] at hD hback
  rw [← hV] at hUl
  rw [← hE] at hNl
  have hVs : (strL V).size ≤ 9223372036854775807 := by
    show V.toArray.size ≤ _
    rw [List.size_toArray]
    omega
  have hEs : (strL E).size ≤ 9223372036854775807 := by
    show E.toArray.size ≤ _
    rw [List.size_toArray]
    omega
  have HBK := Lib.hid hback
  have HRR := Lib.hid hr.out
  have HS := Lib.hid hS
  have HW := Lib.hid hW
  have HI := Lib.hid hI
  have HV : Hid (S.row.1 = V) := Lib.hid hV.symm
  have HE : Hid (S.row.2.row.1 = E) := Lib.hid hE.symm
  have HH : Hid ((rS2 S).hsh = H) := Lib.hid hH.symm
  have HN : Hid ((rS3 S).num.1 = N) := Lib.hid hN.symm
  have HK : Hid (((rS3 S).at 1).num.1 = K) := Lib.hid hK.symm
  have HLE := Lib.hid hl
  have kb0 : ∀ w, (Instr.build 47 #[]).run Try.prog w = .ok (.agg (repL ⟨#[]⟩ ⟨#[]⟩ zeroH 0 0).toArray) w := fun _ => by kernel_rfl
  have kbU := run_repU (strL V)
  unfold DecR
  rw [hok, hD]
  clear hS hW hI hV hE hN hH hK hok hD hback hUl hNl
  go_enter Try.func26, Try.ntmps26
  go_wp2_with (first | ((with_reducible apply (wpl_alloc (dst := some 2))); intro zo wzo _ _ _) | ((with_reducible apply wpl_alloc); intro z wz _ _ _) | ((with_reducible apply wpl_loadrow); (exact rfl); (exact inferInstance); (exact inferInstance); (first | (with_reducible assumption) | (with_reducible exact H32.size _) | kernel_rfl)) | ((with_reducible apply wpl_loadcellN); (exact rfl); (exact inferInstance); (exact rfl)) | ((with_reducible apply wpl_storerow); (exact rfl); (exact rfl); (exact inferInstance); (exact inferInstance); (first | (with_reducible assumption) | (with_reducible exact H32.size _) | kernel_rfl); (first | (with_reducible assumption) | (with_reducible exact H32.size _) | kernel_rfl); (first | (with_reducible exact u8s_one _) | (with_reducible assumption) | kernel_rfl); intro ws _ _) | ((with_reducible apply wpl_storecell); (exact rfl); (exact rfl); (exact inferInstance); (exact rfl); (first | (with_reducible assumption) | omega | (focus (simp; done)) | (focus (simp; omega; done)) | decide); intro ws _ _))
  have hro : HR wzo A (bs b) := ⟨HRR.out.later (stepN (w0 := w) (w := wzo)).chg⟩
  refine (rReader_calls (kind := 5) (b := b) HLE.out hcap hn).mono ?_
  rintro e w5 ⟨zr, d, rfl, _, hzr, hltr, h5, hdw⟩
  rw [← HS.out] at h5
  have hzw : w.heap.size ≤ zr := Nat.le_trans (inferInstance : SzLe w wzo).out hzr
  have ag : Above w (only zr) := ⟨fun k h => by have h' : k = zr := h; omega⟩
  have hzol := (inferInstance : HB wzo zo 47 (repL ⟨#[]⟩ ⟨#[]⟩ zeroH 0 0).toArray).out.lt
  have ozr : OffB (only zr) zo := ⟨fun e => by have e' : zo = zr := e; omega⟩
  have hd5 : S.b ≠ [] → d < w5.heap.size := fun h => h5.out.dlt h
  have H5 := Lib.hid h5.out
  clear h5
  go_wp2_with fail
  refine (rReadText_calls H5.out hSl).mono ?_
  rw [HV.out]
  rintro e w6 ⟨rfl, st6, h6⟩
  have H6 := Lib.hid h6.out
  clear h6
  go_wp2_with (first | ((with_reducible apply wpl_storerow); (exact rfl); (exact rfl); (exact inferInstance); (exact inferInstance); (exact repL_len _ _ _ _ _); (exact repL_len _ _ _ _ _); (exact repL_one _ _ _ _ _); intro ws _ _) | ((with_reducible apply wpl_build); (exact kbU _)) | ((with_reducible apply (wpl_alloc (dst := some 5))); intro zt wzt _ _ _) | ((with_reducible apply wpl_alloc); intro z wz _ _ _) | ((with_reducible apply wpl_loadrow); (exact rfl); (exact inferInstance); (exact inferInstance); (first | (with_reducible assumption) | (with_reducible exact H32.size _) | kernel_rfl)) | ((with_reducible apply wpl_loadcellN); (exact rfl); (exact inferInstance); (exact rfl)) | ((with_reducible apply wpl_storerow); (exact rfl); (exact rfl); (exact inferInstance); (exact inferInstance); (first | (with_reducible assumption) | (with_reducible exact H32.size _) | kernel_rfl); (first | (with_reducible assumption) | (with_reducible exact H32.size _) | kernel_rfl); (first | (with_reducible exact u8s_one _) | (with_reducible assumption) | kernel_rfl); intro ws _ _) | ((with_reducible apply wpl_storecell); (exact rfl); (exact rfl); (exact inferInstance); (exact rfl); (first | (with_reducible assumption) | omega | (focus (simp; done)) | (focus (simp; omega; done)) | decide); intro ws _ _))
  have hs6 := (inferInstance : SzLe w5 w6).out
  have hzt : w5.heap.size ≤ zt := Nat.le_trans hs6 (Nat.le_of_eq (inferInstance : Born w6 zt).eq.symm)
  have at_ : Above w (only zt) := ⟨fun k h => by have h' : k = zt := h; have := (inferInstance : SzLe w w5).out; omega⟩
  have otr : OffB (only zr) zt := ⟨fun e => by have e' : zt = zr := e; omega⟩
  have hst : HB ws zt 47 (repL (strL V) ⟨#[]⟩ zeroH 0 0).toArray := inferInstance
  have far : ∀ (s : RS) (w1 w2 : World), s.b.length ≤ S.b.length → Step (only zt) w1 w2 → RRAt w1 zr d s → RRAt w2 zr d s := fun s w1 w2 hs st h => h.chg2 st.chg (fun e => by have e' : zr = zt := e; omega) (fun hne e => by have e' : d = zt := e; have := hd5 (ne_of_le hs hne); omega)
  have l1 : S.row.2.b.length ≤ S.b.length := RS.row_le S
  have l2 : (rS2 S).b.length ≤ S.b.length := rS2_le S
  have l3 : (rS3 S).b.length ≤ S.b.length := rS3_le S
  have l4 : ((rS3 S).at 1).b.length ≤ S.b.length := Nat.le_trans (RS.at_le _ _) l3
  have l5 : (rR S).b.length ≤ S.b.length := rR_le S
  have H6b := Lib.hid (far S.row.2 wzt ws l1 inferInstance (H6.out.chg (stepN (w0 := w6) (w := wzt)).chg (fun h => h) (fun h => h)))
  have nws : Nw w ws := inferInstance
  refine (rReadText_calls H6b.out (by omega)).mono ?_
  rw [HE.out]
  rintro e w7 ⟨rfl, st7, h7⟩
  have H7 : Hid (RRAt w7 zr d (rS2 S)) := Lib.hid h7.out
  clear h7
  have ht7 : HB w7 zt 47 (repL (strL V) ⟨#[]⟩ zeroH 0 0).toArray := inferInstance
  have hk7 : 1 < (repL (strL V) ⟨#[]⟩ zeroH 0 0).toArray.size := by rw [repL_len]; decide
  go_wp2_with (first | ((with_reducible apply wpl_alloc); intro z wz _ _ _) | ((with_reducible apply wpl_loadrow); (exact rfl); (exact inferInstance); (exact inferInstance); (first | (with_reducible assumption) | (with_reducible exact H32.size _) | kernel_rfl)) | ((with_reducible apply wpl_loadcellN); (exact rfl); (exact inferInstance); (exact rfl)) | ((with_reducible apply wpl_storerow); (exact rfl); (exact rfl); (exact inferInstance); (exact inferInstance); (first | (with_reducible assumption) | (with_reducible exact H32.size _) | kernel_rfl); (first | (with_reducible assumption) | (with_reducible exact H32.size _) | kernel_rfl); (first | (with_reducible exact u8s_one _) | (with_reducible assumption) | kernel_rfl); intro ws _ _) | ((with_reducible apply wpl_storecell); (exact rfl); (exact rfl); (exact inferInstance); (exact rfl); (first | (with_reducible assumption) | omega | (focus (simp; done)) | (focus (simp; omega; done)) | decide); intro ws _ _))
  have ht7b : HB ws zt 47 (repL (strL V) (strL E) zeroH 0 0).toArray := HB.row_eq (w := ws) (g := zt) inferInstance rfl
  have H7b := Lib.hid (far (rS2 S) w7 ws l2 inferInstance H7.out)
  refine (rHash_calls H7b.out (by omega)).mono ?_
  rw [HH.out]
  rintro e w8 ⟨rfl, st8, h8⟩
  have H8 : Hid (RRAt w8 zr d (rS3 S)) := Lib.hid h8.out
  clear h8
  have ht8 : HB w8 zt 47 (repL (strL V) (strL E) zeroH 0 0).toArray := inferInstance
  have hzo8 : HB w8 zo 47 (repL ⟨#[]⟩ ⟨#[]⟩ zeroH 0 0).toArray := inferInstance
  have nw8 : Nw w w8 := inferInstance
  have hsz8 : (repL (strL V) (strL E) zeroH 0 0).toArray.size = 36 := repL_len _ _ _ _ _
  have hput : (repL (strL V) (strL E) zeroH 0 0).toArray.toList.take 2 ++ (u8s H.l).toList ++ (repL (strL V) (strL E) zeroH 0 0).toArray.toList.drop (2 + 32) = (repL (strL V) (strL E) H 0 0).toArray.toList := by
    show [Value.string (strL V), .string (strL E)] ++ (u8s H.l).toList ++ [.int .i64 0, .int .i64 0] = repL (strL V) (strL E) H 0 0
    simp [repL, u8s]
  have HPUT := Lib.hid hput
  clear hput
  go_wp2_with (first | ((with_reducible apply wpl_storepart); (exact rfl); (exact rfl); (exact ht8); (exact inferInstance); (exact H32.size _); (decide); (rw [hsz8]; decide); (exact u8s_one _); (exact HPUT.out); intro wp _ ht8b) | ((with_reducible apply wpl_alloc); intro z wz _ _ _) | ((with_reducible apply wpl_loadrow); (exact rfl); (exact inferInstance); (exact inferInstance); (first | (with_reducible assumption) | (with_reducible exact H32.size _) | kernel_rfl)) | ((with_reducible apply wpl_loadcellN); (exact rfl); (exact inferInstance); (exact rfl)) | ((with_reducible apply wpl_storerow); (exact rfl); (exact rfl); (exact inferInstance); (exact inferInstance); (first | (with_reducible assumption) | (with_reducible exact H32.size _) | kernel_rfl); (first | (with_reducible assumption) | (with_reducible exact H32.size _) | kernel_rfl); (first | (with_reducible exact u8s_one _) | (with_reducible assumption) | kernel_rfl); intro ws _ _) | ((with_reducible apply wpl_storecell); (exact rfl); (exact rfl); (exact inferInstance); (exact rfl); (first | (with_reducible assumption) | omega | (focus (simp; done)) | (focus (simp; omega; done)) | decide); intro ws _ _))
  have ht8c : HB wp zt 47 (repL (strL V) (strL E) H 0 0).toArray := ht8b
  have H8b := Lib.hid (far (rS3 S) w8 wp l3 inferInstance H8.out)
  refine (rrNum_calls zr d (rS3 S) _ H8b.out (by omega)).mono ?_
  rw [HN.out]
  rintro e w9 ⟨rfl, h9, c9⟩
  have st9 : Step (only zr) _ w9 := ⟨c9.out⟩
  have H9 : Hid (RRAt w9 zr d ((rS3 S).at 1)) := Lib.hid h9.out
  clear h9 c9 ht8b
  have ht9 : HB w9 zt 47 (repL (strL V) (strL E) H 0 0).toArray := inferInstance
  have hk9 : 34 < (repL (strL V) (strL E) H 0 0).toArray.size := by rw [repL_len]; decide
  go_wp2_with (first | ((with_reducible apply wpl_alloc); intro z wz _ _ _) | ((with_reducible apply wpl_loadrow); (exact rfl); (exact inferInstance); (exact inferInstance); (first | (with_reducible assumption) | (with_reducible exact H32.size _) | kernel_rfl)) | ((with_reducible apply wpl_loadcellN); (exact rfl); (exact inferInstance); (exact rfl)) | ((with_reducible apply wpl_storerow); (exact rfl); (exact rfl); (exact inferInstance); (exact inferInstance); (first | (with_reducible assumption) | (with_reducible exact H32.size _) | kernel_rfl); (first | (with_reducible assumption) | (with_reducible exact H32.size _) | kernel_rfl); (first | (with_reducible exact u8s_one _) | (with_reducible assumption) | kernel_rfl); intro ws _ _) | ((with_reducible apply wpl_storecell); (exact rfl); (exact rfl); (exact inferInstance); (exact rfl); (first | (with_reducible assumption) | omega | (focus (simp; done)) | (focus (simp; omega; done)) | decide); intro ws _ _))
  have ht9b : HB ws zt 47 (repL (strL V) (strL E) H N 0).toArray := HB.row_eq (w := ws) (g := zt) inferInstance (rep_set34 _ _ _ _ _ _)
  have H9b := Lib.hid (far ((rS3 S).at 1) w9 ws l4 inferInstance H9.out)
  refine (rrNum_calls zr d ((rS3 S).at 1) _ H9b.out (by omega)).mono ?_
  rw [HK.out]
  rintro e w10 ⟨rfl, h10, c10⟩
  have st10 : Step (only zr) _ w10 := ⟨c10.out⟩
  have H10 : Hid (RRAt w10 zr d (rR S)) := Lib.hid h10.out
  clear h10 c10
  have ht10 : HB w10 zt 47 (repL (strL V) (strL E) H N 0).toArray := inferInstance
  have hk10 : 35 < (repL (strL V) (strL E) H N 0).toArray.size := by rw [repL_len]; decide
  have nw10 : Nw w w10 := inferInstance
  have hzo10 : HB w10 zo 47 (repL ⟨#[]⟩ ⟨#[]⟩ zeroH 0 0).toArray := inferInstance
  clear ht9b ht9 ht8c ht8 ht7b ht7
  go_wp2_with (first | ((with_reducible apply wpl_storecell); (exact rfl); (exact rfl); (exact ht10); (exact rfl); (exact hk10); intro wk _ ht10r; have ht11 : HB wk zt 47 (repL (strL V) (strL E) H N K).toArray := HB.row_eq ht10r (rep_set35 _ _ _ _ _ _); clear ht10r) | ((with_reducible apply wpl_loadrow); (exact rfl); (exact ht11); (exact inferInstance); (exact repL_len _ _ _ _ _)) | ((with_reducible apply wpl_alloc); intro z wz _ _ _) | ((with_reducible apply wpl_loadrow); (exact rfl); (exact inferInstance); (exact inferInstance); (first | (with_reducible assumption) | (with_reducible exact H32.size _) | kernel_rfl)) | ((with_reducible apply wpl_loadcellN); (exact rfl); (exact inferInstance); (exact rfl)) | ((with_reducible apply wpl_storerow); (exact rfl); (exact rfl); (exact inferInstance); (exact inferInstance); (first | (with_reducible assumption) | (with_reducible exact H32.size _) | kernel_rfl); (first | (with_reducible assumption) | (with_reducible exact H32.size _) | kernel_rfl); (first | (with_reducible exact u8s_one _) | (with_reducible assumption) | kernel_rfl); intro ws _ _) | ((with_reducible apply wpl_storecell); (exact rfl); (exact rfl); (exact inferInstance); (exact rfl); (first | (with_reducible assumption) | omega | (focus (simp; done)) | (focus (simp; omega; done)) | decide); intro ws _ _))
  have H11 := Lib.hid (far (rR S) w10 wk l5 inferInstance H10.out)
  have nw11 : Nw w wk := inferInstance
  have hzo11 : HB wk zo 47 (repL ⟨#[]⟩ ⟨#[]⟩ zeroH 0 0).toArray := inferInstance
  refine (rEncodeReport_calls (strL V) (strL E) H N K V E rfl rfl hVs hEs wk).mono ?_
  unfold EncPost
  rw [← HI.out]
  have hR0 : (rR S).b.length ≤ 1000000000 := by omega
  have HWr : Hid (wholeB (rR S) = W) := Lib.hid HW.out.symm
  cases I
  case false =>
    rintro e w12 ⟨st12, h12⟩
    obtain rfl : e = _ := h12
    go_wp2_with (first | ((with_reducible apply wpl_alloc); intro z wz _ _ _) | ((with_reducible apply wpl_loadrow); (exact rfl); (exact inferInstance); (exact inferInstance); (first | (with_reducible assumption) | (with_reducible exact H32.size _) | kernel_rfl)) | ((with_reducible apply wpl_loadcellN); (exact rfl); (exact inferInstance); (exact rfl)) | ((with_reducible apply wpl_storerow); (exact rfl); (exact rfl); (exact inferInstance); (exact inferInstance); (first | (with_reducible assumption) | (with_reducible exact H32.size _) | kernel_rfl); (first | (with_reducible assumption) | (with_reducible exact H32.size _) | kernel_rfl); (first | (with_reducible exact u8s_one _) | (with_reducible assumption) | kernel_rfl); intro ws _ _) | ((with_reducible apply wpl_storecell); (exact rfl); (exact rfl); (exact inferInstance); (exact rfl); (first | (with_reducible assumption) | omega | (focus (simp; done)) | (focus (simp; omega; done)) | decide); intro ws _ _))
    have nw12 : Nw w w12 := inferInstance
    have hb12 : HR w12 A (bs b) := nw12.hr HRR.out
    have hn12 : HR w12 none (bs []) := HR.nilB w12
    have HR12 : RRAt w12 zr d (rR S) := H11.out.chg st12.chg (fun h => h) (fun h => h)
    cases W
    all_goals
      refine (rJust_calls (b := b) (y := []) (e0 := 1) HR12 hR0 HLE.out rfl).mono ?_
      rw [show (wholeB (rR S) && decide ((1 : Int) = 0) && decide (b = [])) = false by simp]
      rintro e w13 ⟨rfl, rfl⟩
      go_wp2_with (first | ((with_reducible apply wpl_storerow); (exact rfl); (exact rfl); (exact inferInstance); (exact inferInstance); (exact repL_len _ _ _ _ _); (exact repL_len _ _ _ _ _); (exact repL_one _ _ _ _ _); intro ws _ _) | ((with_reducible apply wpl_build); (exact kb0 _)) | ((with_reducible apply wpl_alloc); intro z wz _ _ _) | ((with_reducible apply wpl_loadrow); (exact rfl); (exact inferInstance); (exact inferInstance); (first | (with_reducible assumption) | (with_reducible exact H32.size _) | kernel_rfl)) | ((with_reducible apply wpl_loadcellN); (exact rfl); (exact inferInstance); (exact rfl)) | ((with_reducible apply wpl_storerow); (exact rfl); (exact rfl); (exact inferInstance); (exact inferInstance); (first | (with_reducible assumption) | (with_reducible exact H32.size _) | kernel_rfl); (first | (with_reducible assumption) | (with_reducible exact H32.size _) | kernel_rfl); (first | (with_reducible exact u8s_one _) | (with_reducible assumption) | kernel_rfl); intro ws _ _) | ((with_reducible apply wpl_storecell); (exact rfl); (exact rfl); (exact inferInstance); (exact rfl); (first | (with_reducible assumption) | omega | (focus (simp; done)) | (focus (simp; omega; done)) | decide); intro ws _ _))
      refine ret_row_ rfl rfl rfl (n := 36) (repL_len _ _ _ _ _) rfl ?_
      exact ⟨stepN, rfl⟩
  case true =>
    rintro e w12 ⟨st12, A5, n5, c5, rfl, hn5, hO5, hA5⟩
    have HN5 := Lib.hid hn5
    clear hn5
    go_wp2_with (first | ((with_reducible apply wpl_alloc); intro z wz _ _ _) | ((with_reducible apply wpl_loadrow); (exact rfl); (exact inferInstance); (exact inferInstance); (first | (with_reducible assumption) | (with_reducible exact H32.size _) | kernel_rfl)) | ((with_reducible apply wpl_loadcellN); (exact rfl); (exact inferInstance); (exact rfl)) | ((with_reducible apply wpl_storerow); (exact rfl); (exact rfl); (exact inferInstance); (exact inferInstance); (first | (with_reducible assumption) | (with_reducible exact H32.size _) | kernel_rfl); (first | (with_reducible assumption) | (with_reducible exact H32.size _) | kernel_rfl); (first | (with_reducible exact u8s_one _) | (with_reducible assumption) | kernel_rfl); intro ws _ _) | ((with_reducible apply wpl_storecell); (exact rfl); (exact rfl); (exact inferInstance); (exact rfl); (first | (with_reducible assumption) | omega | (focus (simp; done)) | (focus (simp; omega; done)) | decide); intro ws _ _))
    have nw12 : Nw w w12 := inferInstance
    have hb12 : HR w12 A (bs b) := nw12.hr HRR.out
    have hy12 : HR w12 A5 (bs (encAll [5] ++ (encRow V ++ (encRow E ++ (H.l ++ encAll [(N : Int), (K : Int)]))))) := inferInstance
    have HR12 : RRAt w12 zr d (rR S) := H11.out.chg st12.chg (fun h => h) (fun h => h)
    refine (rJust_calls (b := b) (y := encAll [5] ++ (encRow V ++ (encRow E ++ (H.l ++ encAll [(N : Int), (K : Int)])))) (e0 := 0) HR12 hR0 HLE.out HN5.out.symm).mono ?_
    rw [HWr.out]
    rw [show (W && true) = W by simp] at HBK
    have e9 : (W && decide ((0 : Int) = 0) && decide (b = encAll [5] ++ (encRow V ++ (encRow E ++ (H.l ++ encAll [(N : Int), (K : Int)]))))) = W := by
      cases W
      · rfl
      · rw [decide_eq_true (HBK.out rfl)]
        rfl
    rw [e9]
    clear e9
    have ht12 : HB w12 zt 47 (repL (strL V) (strL E) H N K).toArray := inferInstance
    have hzo12 : HB w12 zo 47 (repL ⟨#[]⟩ ⟨#[]⟩ zeroH 0 0).toArray := inferInstance
    cases W
    case false =>
      rintro e w13 ⟨rfl, rfl⟩
      go_wp2_with (first | ((with_reducible apply wpl_storerow); (exact rfl); (exact rfl); (exact inferInstance); (exact inferInstance); (exact repL_len _ _ _ _ _); (exact repL_len _ _ _ _ _); (exact repL_one _ _ _ _ _); intro ws _ _) | ((with_reducible apply wpl_build); (exact kb0 _)) | ((with_reducible apply wpl_alloc); intro z wz _ _ _) | ((with_reducible apply wpl_loadrow); (exact rfl); (exact inferInstance); (exact inferInstance); (first | (with_reducible assumption) | (with_reducible exact H32.size _) | kernel_rfl)) | ((with_reducible apply wpl_loadcellN); (exact rfl); (exact inferInstance); (exact rfl)) | ((with_reducible apply wpl_storerow); (exact rfl); (exact rfl); (exact inferInstance); (exact inferInstance); (first | (with_reducible assumption) | (with_reducible exact H32.size _) | kernel_rfl); (first | (with_reducible assumption) | (with_reducible exact H32.size _) | kernel_rfl); (first | (with_reducible exact u8s_one _) | (with_reducible assumption) | kernel_rfl); intro ws _ _) | ((with_reducible apply wpl_storecell); (exact rfl); (exact rfl); (exact inferInstance); (exact rfl); (first | (with_reducible assumption) | omega | (focus (simp; done)) | (focus (simp; omega; done)) | decide); intro ws _ _))
      refine ret_row_ rfl rfl rfl (n := 36) (repL_len _ _ _ _ _) rfl ?_
      exact ⟨stepN, rfl⟩
    case true =>
      rintro e w13 ⟨rfl, rfl⟩
      go_wp2_with (first | ((with_reducible apply wpl_storerow); (exact rfl); (exact rfl); (exact inferInstance); (exact inferInstance); (exact repL_len _ _ _ _ _); (exact repL_len _ _ _ _ _); (exact repL_one _ _ _ _ _); intro ws _ _) | ((with_reducible apply wpl_loadrow); (exact rfl); (exact ht12); (exact inferInstance); (exact repL_len _ _ _ _ _)) | ((with_reducible apply wpl_alloc); intro z wz _ _ _) | ((with_reducible apply wpl_loadrow); (exact rfl); (exact inferInstance); (exact inferInstance); (first | (with_reducible assumption) | (with_reducible exact H32.size _) | kernel_rfl)) | ((with_reducible apply wpl_loadcellN); (exact rfl); (exact inferInstance); (exact rfl)) | ((with_reducible apply wpl_storerow); (exact rfl); (exact rfl); (exact inferInstance); (exact inferInstance); (first | (with_reducible assumption) | (with_reducible exact H32.size _) | kernel_rfl); (first | (with_reducible assumption) | (with_reducible exact H32.size _) | kernel_rfl); (first | (with_reducible exact u8s_one _) | (with_reducible assumption) | kernel_rfl); intro ws _ _) | ((with_reducible apply wpl_storecell); (exact rfl); (exact rfl); (exact inferInstance); (exact rfl); (first | (with_reducible assumption) | omega | (focus (simp; done)) | (focus (simp; omega; done)) | decide); intro ws _ _))
      refine ret_row_ rfl rfl rfl (n := 36) (repL_len _ _ _ _ _) rfl ?_
      exact ⟨stepN, rfl⟩
end Go.Proofs.Ytecmeejbpkcgiaa
