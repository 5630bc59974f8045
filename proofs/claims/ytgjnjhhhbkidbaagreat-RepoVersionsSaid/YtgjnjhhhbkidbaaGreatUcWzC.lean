/- WzC -/
import Derived.Test.YtgjnjhhhbkidbaaGreatUcWsB
import Derived.Test.YtgjnjhhhbkidbaaGreatUcRrC
import Derived.Test.YtgjnjhhhbkidbaaGreatUcWuC
open Go Go.RowKit
namespace Go.Proofs.YtgjnjhhhbkidbaaGreat
set_option maxRecDepth 100000 in
set_option maxHeartbeats 800000 in
theorem rHash_calls {g d : Nat} {s : RS} {w : World} (hw : RRAt w g d s) (hl : s.b.length ≤ 140737488351232) :
    Calls Tryz.prog 45 #[.pointer (some ⟨g, 0, none⟩)] w fun e w' => e = .returned (.agg (u8s s.hsh.l)) ∧ Step (only g) w w' ∧ Hid (RRAt w' g d (s.raw 32).2) := by
 have HW0 := Lib.hid hw
 have hgl := hw.lt
 have hdl := hw.dlt
 obtain ⟨hsh, hhs⟩ : ∃ x, x = s.hsh := ⟨_, rfl⟩
 have HHS := Lib.hid hhs
 rw [← hhs]
 clear hw hhs
 go_enter Tryz.func45, Tryz.ntmps45
 go_wp2_with (first | ((with_reducible apply (wpl_alloc (dst := some 2))); intro zo wzo _ _ _) | ((with_reducible apply (wpl_alloc (dst := some 3))); intro zh wzh _ _ _))
 have st0 : Step nowhere w wzh := stepN
 have hzh : w.heap.size ≤ zh := (NewA.monoS (w0 := w) (NewA.of_born (z := zh) 0)).out ⟨zh, 0, none⟩ rfl
 have hzo : w.heap.size ≤ zo := (NewA.monoS (w0 := w) (NewA.of_born (z := zo) 0)).out ⟨zo, 0, none⟩ rfl
 have og : OffB (only g) zh := ⟨fun e => by have e' : zh = g := e; omega⟩
 have ogo : OffB (only g) zo := ⟨fun e => by have e' : zo = g := e; omega⟩
 have oho : OffB (only zh) zo := inferInstance
 refine wp_region_N ((gz2 g zh)) (by kernel_rfl) (fun wd _ _ => ?_)
 refine' tk 0 _ rfl (by kernel_rfl) (by kernel_rfl) (by kernel_rfl) (fun _ _ _ h => h) (yo (by rfl) fun w' _ => ?_) inferInstance ?_
 rotate_left
 · (go_simp; try with_reducible rfl)
 try simp only [Act.put, sA, sB, sC]
 refine' tk 1 _ rfl (by kernel_rfl) (by kernel_rfl) (by kernel_rfl) (fun _ _ _ h => h) (yo (by rfl) fun w' _ => ?_) inferInstance ?_
 rotate_left
 · (go_simp; try with_reducible rfl)
 try simp only [Act.put, sA, sB, sC]
 refine goH (i := 2) (by kernel_rfl) rfl (fun K_ hK_ => ?_)
 go_simp
 refine (rrRaw_calls g d s 32 wd ((HW0.out.chg st0.chg (fun h => h) (fun h => h)).chg (stepN (w0 := wzh) (w := wd)).chg (fun h => h) (fun h => h)) (by omega)).mono ?_
 rintro e w5 ⟨A5, n5, c5, rfl, hn5, ho5, h5, cc5, hA5⟩
 have st5 : Step (only g) wd w5 := ⟨cc5.out⟩
 have hr5 : HR w5 A5 (bs (s.raw 32).1) := ⟨ho5.out.rd⟩
 have hle5 : n5 ≤ 32 := by
  have := hn5.out
  rcases s.raw_c with h | h
  · omega
  · rw [h] at this; simp at this; omega
 have hfit5 : 0 + n5 ≤ zeroH.l.length := by rw [H32.len]; omega
 refine hK_.out _ _ inferInstance (fun _ => ?_)
 clear hK_ K_
 try simp only [Act.put, sA, sB, sC]
 refine goH (i := 3) (by kernel_rfl) rfl (fun K_ hK_ => ?_)
 rw [if_pos (by kernel_rfl)]
 refine wpr_of_list ?_
 (first | ((with_reducible apply wpl_copy); exact Tryz.underlying29; (kernel_rfl); exact rfl; exact rfl; infer_instance; exact hr5; exact hn5.out.symm; exact hle5; exact hfit5; intro wc _ hbc) | ((with_reducible apply wpl_copy); exact Tryz.underlying29; (kernel_rfl); exact rfl; exact rfl; infer_instance; infer_instance; (first | (with_reducible assumption) | (with_reducible exact H32.len _) | (focus (simp; done))); (first | (with_reducible assumption) | omega); (first | (with_reducible assumption) | omega | (focus (simp; done)) | (focus (simp; omega; done)) | decide); intro wc _ _))
 refine wpList_nil ?_
 unfold onlyN
 refine hK_.out _ _ inferInstance (fun _ => ?_)
 clear hK_ K_
 try simp only [Act.put, sA, sB, sC]
 refine wpAnyH_done (by kernel_rfl) ?_ _
 rw [s.hsh_copy n5 hn5.out, ← HHS.out] at hbc
 have stg : Hid (Chg (gz2 g zh) w wc) := Lib.hid ((st0.chg.mono (T := gz2 g zh) (fun _ _ h => h.elim)).trans (((stepN (w0 := wzh) (w := wd)).chg.mono (T := gz2 g zh) (fun _ _ h => h.elim)).trans ((cc5.out.mono (T := gz2 g zh) (fun _ _ h => .inl h)).trans ((inferInstance : Step (only zh) w5 wc).chg.mono (T := gz2 g zh) (fun _ _ h => .inr h)) (fun _ _ h => h)) (fun _ _ h => h)) (fun _ _ h => h))
 have HR2 : Hid (RRAt wc g d (s.raw 32).2) := Lib.hid (h5.out.chg2 (inferInstance : Step (only zh) w5 wc).chg (fun e => by have e' : g = zh := e; omega) (fun hne e => by
  have e' : d = zh := e
  have := hdl (fun h0 => hne (List.eq_nil_of_length_eq_zero (by have := s.raw_l 32; rw [h0] at this; simpa using this)))
  omega))
 have hzoc : HB wc zo 23 (u8s zeroH.l) := inferInstance
 go_wp2_with (first | ((with_reducible apply wpl_loadrow); exact rfl; infer_instance; infer_instance; (first | (with_reducible assumption) | (with_reducible exact H32.size _) | kernel_rfl)) | ((with_reducible apply wpl_storerow); exact rfl; exact rfl; infer_instance; infer_instance; (first | (with_reducible assumption) | (with_reducible exact H32.size _) | kernel_rfl); (first | (with_reducible assumption) | (with_reducible exact H32.size _) | kernel_rfl); (first | (with_reducible exact u8s_one _) | (with_reducible assumption) | kernel_rfl); intro ws _ _))
 refine ret_row rfl rfl (n := 32) (H32.size _) rfl ?_
 refine ⟨rfl, ⟨(stg.out.mono (T := only g) (fun x hx h => ?_)).trans (inferInstance : Step (only zo) wc ws).chg (fun x hx h => ?_)⟩, Lib.hid (HR2.out.chg2 (inferInstance : Step (only zo) wc ws).chg (fun e => ?_) (fun hne e => ?_))⟩
 · rcases h with h | h
   · exact h
   · omega
 · have h' : x = zo := h
   omega
 · have e' : g = zo := e
   omega
 · have e' : d = zo := e
   have := hdl (fun h0 => hne (List.eq_nil_of_length_eq_zero (by have := s.raw_l 32; rw [h0] at this; simpa using this)))
   omega
theorem RRAt.at_ (w : World) (z : Nat) {A : Option Addr} {n c : Nat} {b : List UInt8} (hb : HB w z 110 #[.slice A n c, .bool false]) (hr : Rd w A (bs b)) (hn : b.length = n) (hc : n ≤ c) (hz : b ≠ [] → ∀ ad, A = some ad → ad.block ≠ z) : ∃ d, RRAt w z d ⟨b, false⟩ ∧ (b ≠ [] → ∃ ad, A = some ad ∧ ad.block = d) := by
 by_cases h0 : b = []
 · exact ⟨z + 1, ⟨⟨A, n, c, hn.symm, hc, hb.out, hr, fun ad e h => absurd h0 h⟩, by omega, fun h => by cases h⟩, fun h => absurd h0 h⟩
 · obtain ⟨ad, e, _⟩ := hr.lt (by rw [bs_length]; exact List.length_pos_iff.2 h0)
   exact ⟨ad.block, ⟨⟨A, n, c, hn.symm, hc, hb.out, hr, fun ad' e' _ => by rw [e] at e'; injection e' with e'; rw [e']⟩, hz h0 ad e, fun h => by cases h⟩, fun _ => ⟨ad, e, rfl⟩⟩
set_option maxRecDepth 100000 in
set_option maxHeartbeats 1600000 in
theorem rReader_calls {A : Option Addr} {n c kind : Nat} {b : List UInt8} {w : World} [hr : HR w A (bs b)] (hl : b.length = n) (hcap : n ≤ c) (hn : n ≤ 140737488351232) :
    Calls Tryz.prog 43 #[.slice A n c, .int .i64 (kind : Int)] w fun e w' => ∃ z d, e = .returned (.pointer (some ⟨z, 0, none⟩)) ∧ Step nowhere w w' ∧ w.heap.size ≤ z ∧ z < w'.heap.size ∧ Hid (RRAt w' z d (kindS kind b)) ∧ (b ≠ [] → d < w.heap.size) := by
 have kbR : ∀ w, (Instr.build 110 #[(0, .slice A n c)]).run Tryz.prog w = .ok (.agg #[.slice A n c, .bool false]) w := fun _ => by kernel_rfl
 have HLE := Lib.hid hl
 have HRR := Lib.hid hr.out
 obtain ⟨q, hq⟩ : ∃ q, q = (⟨b, false⟩ : RS).num.1 := ⟨_, rfl⟩
 have HQ := Lib.hid hq
 have hS : kindS kind b = if q = kind then (⟨b, false⟩ : RS).num.2 else RS.bad := by rw [hq]; rfl
 have HS := Lib.hid hS
 clear hq hS
 go_enter Tryz.func43, Tryz.ntmps43
 go_wp2_with (first | ((with_reducible apply wpl_build); exact kbR _) | ((with_reducible apply (wpl_box_agg (dst := some 8))); exact rfl; intro zr wzr _ _ _))
 have st0 : Step nowhere w wzr := stepN
 have hzr : w.heap.size ≤ zr := (NewA.monoS (w0 := w) (NewA.of_born (z := zr) 0)).out ⟨zr, 0, none⟩ rfl
 obtain ⟨d, hRR, hd0⟩ := RRAt.at_ wzr zr (inferInstance : HB wzr zr 110 #[.slice A n c, .bool false]) (HRR.out.later st0.chg) HLE.out hcap (fun hne ad e h => by
  have h1 := rd_lt HRR.out (by simpa [bs] using hne) e
  omega)
 have hdw : b ≠ [] → d < w.heap.size := fun hne => by
  obtain ⟨ad, e, h2⟩ := hd0 hne
  rw [← h2]
  exact rd_lt HRR.out (by simpa [bs] using hne) e
 refine (rrNum_calls zr d ⟨b, false⟩ wzr hRR (by have h1 := HLE.out; show b.length ≤ 140737488351232; omega)).mono ?_
 rw [← HQ.out]
 rintro e w5 ⟨rfl, h5, c5⟩
 have st5 : Step (only zr) wzr w5 := ⟨c5.out⟩
 have n5 : Nw w w5 := inferInstance
 have hlt5 := h5.out.lt
 by_cases hqk : q = kind
 · have e1 : ((q : Int) != (kind : Int)) = false := by simp [hqk]
   go_wp2_with fail
   go_ret
   refine ⟨zr, d, rfl, ⟨?_⟩, hzr, hlt5, ?_, hdw⟩
   · exact n5.out
   · rw [HS.out, if_pos hqk]
     exact h5
 · have e1 : ((q : Int) != (kind : Int)) = true := by simp; omega
   go_wp2_with fail
   refine (rrBad_calls zr d _ _ h5.out).mono ?_
   rintro e w6 ⟨rfl, h6, c6⟩
   have st6 : Step (only zr) w5 w6 := ⟨c6.out⟩
   have n6 : Nw w w6 := inferInstance
   have hlt6 := h6.out.lt
   go_wp2_with fail
   go_ret
   refine ⟨zr, d, rfl, ⟨n6.out⟩, hzr, hlt6, ?_, hdw⟩
   rw [HS.out, if_neg hqk]
   exact h6
set_option maxRecDepth 100000 in
set_option maxHeartbeats 1600000 in
theorem rJust_calls {g d : Nat} {s : RS} {A C : Option Addr} {n c m k : Nat} {b y : List UInt8} {e0 : Int} {w : World} (hw : RRAt w g d s) (hs : s.b.length ≤ 140737488351232) [hr : HR w A (bs b)] [hy : HR w C (bs y)] (hl : b.length = n) (hm : y.length = m) :
    Calls Tryz.prog 47 #[.pointer (some ⟨g, 0, none⟩), .slice A n c, .slice C m k, .int .i64 e0] w fun e w' => e = .returned (.bool (wholeB s && decide (e0 = 0) && decide (b = y))) ∧ w' = w := by
 have HW := Lib.hid hw
 have hwl : wholeB s = (!s.e && decide (s.b = [])) := rfl
 have HWL := Lib.hid hwl
 clear hw hwl
 obtain ⟨W, hW⟩ : ∃ W, W = wholeB s := ⟨_, rfl⟩
 rw [← hW] at HWL ⊢
 clear hW
 rcases W with _ | _
 · rw [Bool.false_and, Bool.false_and]
   go_enter Tryz.func47, Tryz.ntmps47
   go_wp2_with fail
   refine (rrWhole_calls g d s w HW.out (by omega)).mono ?_
   rw [← HWL.out]
   rintro e w5 ⟨rfl, rfl⟩
   go_wp2_with fail
   go_ret
   exact ⟨rfl, rfl⟩
 · by_cases he : e0 = 0
   · subst he
     obtain ⟨R, hR⟩ : ∃ R, R = decide (b = y) := ⟨_, rfl⟩
     have HR1 := Lib.hid hR
     rw [← hR]
     clear hR
     rw [show (true && decide ((0 : Int) = 0) && R) = R by simp]
     go_enter Tryz.func47, Tryz.ntmps47
     go_wp2_with fail
     refine (rrWhole_calls g d s w HW.out (by omega)).mono ?_
     rw [← HWL.out]
     rintro e w5 ⟨rfl, rfl⟩
     go_wp2_with (first | ((with_reducible apply (wpl_guard (op := .convert _ _ _))); exact rfl) | ((with_reducible apply wpl_conv); exact rfl; infer_instance; (first | (exact hl) | exact hm); exact Tryz.underlying29; exact Tryz.underlying5; exact Tryz.underlying9))
     go_ret
     rw [HR1.out, ← strL_eq]
     exact ⟨rfl, rfl⟩
   · have e1 : (e0 == 0) = false := by simp [he]
     rw [show (true && decide (e0 = 0) && decide (b = y)) = false by simp [he]]
     go_enter Tryz.func47, Tryz.ntmps47
     go_wp2_with fail
     refine (rrWhole_calls g d s w HW.out (by omega)).mono ?_
     rw [← HWL.out]
     rintro e w5 ⟨rfl, rfl⟩
     go_wp2_with fail
     go_ret
     exact ⟨rfl, rfl⟩
end Go.Proofs.YtgjnjhhhbkidbaaGreat
