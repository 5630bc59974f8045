/- RoF, RoG, RoJ -/
import Derived.Test.YthcleccofccbdaaGreatTyRoI
import Derived.Test.YthcleccofccbdaaGreatTyRoR
section
open Go Go.RowKit
namespace Go.Proofs.YthcleccofccbdaaGreat
theorem run_keysKR (k : KR) (w : World) : (Instr.build 42 #[(0, .slice k.A k.n k.c), (1, .int .i64 k.need)]).run Tryz.prog w = .ok (.agg (RowC.enc k).toArray) w := by kernel_rfl
theorem kR_ne {s : RS} (h : (kR s).b ≠ []) : s.b ≠ [] := fun h0 => by
  have h1 := kR_le s
  rw [h0] at h1
  exact h (List.eq_nil_of_length_eq_zero (by simpa using h1))
theorem kAt_ne {s : RS} {k : Nat} (h : (kAt s k).b ≠ []) : s.b ≠ [] := fun h0 => by
  have h1 := kAt_le s k
  rw [h0] at h1
  exact h (List.eq_nil_of_length_eq_zero (by simpa using h1))
set_option maxRecDepth 100000 in
set_option maxHeartbeats 1600000 in
theorem takeKeys_calls {g d : Nat} {s : RS} {w : World} (hw : RdrAt w g d s) (hl : s.b.length ≤ 140737488351232) :
    Calls Tryz.prog 124 #[.pointer (some ⟨g, 0, none⟩)] w fun e w' => ∃ k : KR, e = .returned (.agg (RowC.enc k).toArray) ∧ Step (only g) w w' ∧ Hid (RdrAt w' g d (kR s)) ∧ Hid (k.m = (kL s, (kD s : Int))) ∧ KIn w' k ∧ NewA w k.A := by
  have HW0 := Lib.hid hw
  have HL := Lib.hid hl
  have hgl := hw.lt
  have hdl := hw.dlt
  obtain ⟨D, hD⟩ : ∃ D, D = kD s := ⟨_, rfl⟩
  have HD := Lib.hid hD
  have hml := kM_le s
  have hsz0 : ∀ k : KR, (RowC.enc k).toArray.size = 2 := fun _ => rfl
  clear hw hl hD
  go_enter Tryz.func124, Tryz.ntmps124
  go_wp2_with (first | ((with_reducible apply (wpl_alloc (dst := some 2))); intro zo wzo _ _ _))
  have hzo : w.heap.size ≤ zo := Nat.le_of_eq (inferInstance : Born w zo).eq.symm
  have hzl : zo < wzo.heap.size := (inferInstance : HB wzo zo 42 #[.slice none 0 0, .int .i64 0]).out.lt
  have ozo : OffB (only g) zo := ⟨fun e => by have e' : zo = g := e; omega⟩
  refine (takenH_calls (HW0.out.chg (stepN (w0 := w)).chg (fun h => h) (fun h => h)) HL.out).mono ?_
  rintro e w2 ⟨A, n, c, rfl, st2, h2, hr2, hA2, hn2⟩
  go_wp2_with fail
  refine (Num_calls g d (kM s) w2 h2.out (by have := HL.out; omega)).mono ?_
  rw [show (kM s).num.1 = D from HD.out.symm]
  rintro e w3 ⟨rfl, h3, c3⟩
  have st3 : Step (only g) w2 w3 := ⟨c3.out⟩
  have hA2w : NewA w A := NewA.monoS (w0 := w) hA2
  have og : OffR (only g) A (cellsOf (kL s)) := ⟨fun _ ad e h => by have h' : ad.block = g := h; have := hA2w.out ad e; omega⟩
  obtain ⟨k, hk⟩ : ∃ k : KR, k = ⟨A, n, c, kL s, D⟩ := ⟨_, rfl⟩
  have kb := run_keysKR k
  have hzo3 : HB w3 zo 42 #[.slice none 0 0, .int .i64 0] := inferInstance
  have hr3 : HR w3 A (cellsOf (kL s)) := inferInstance
  have hk1 : k.A = A := by rw [hk]
  have hk2 : k.n = n := by rw [hk]
  have hk3 : k.c = c := by rw [hk]
  have hk4 : k.l = kL s := by rw [hk]
  have hk5 : k.need = (D : Int) := by rw [hk]
  rw [hk1, hk2, hk3, hk5] at kb
  have HKE := Lib.hid (show k.m = (kL s, (kD s : Int)) by rw [KR.m, hk4, hk5, HD.out])
  have HKI : Hid (KIn w3 k) := Lib.hid ⟨by rw [hk1, hk4]; exact hr3.out, by rw [hk4, hk2]; exact hn2.out.1, by rw [hk2, hk3]; exact hn2.out.2.1, by rw [hk2]; exact hn2.out.2.2⟩
  have hkA : NewA w k.A := by rw [hk1]; exact hA2w
  have HkA := Lib.hid hk1
  have hok := enc_one k
  clear hk hk1 hk2 hk3 hk4 hk5
  go_wp2_with (first | ((with_reducible apply wpl_build); (exact kb _)) | ((with_reducible apply wpl_storerow); (exact rfl); (exact rfl); infer_instance; infer_instance; (first | (with_reducible assumption) | (with_reducible exact H32.size _) | kernel_rfl); (first | (with_reducible assumption) | (with_reducible exact H32.size _) | kernel_rfl); (first | (with_reducible exact u8s_one _) | (with_reducible assumption) | kernel_rfl); intro ws _ _))
  refine ret_row rfl rfl (n := 2) rfl rfl ⟨k, rfl, stepC, ?_, HKE, ?_, hkA⟩
  · exact Lib.hid (h3.out.far (inferInstance : Step (only zo) w3 ws).chg (m := w.heap.size) (fun x hx => by have hx' : x = zo := hx; omega) hgl (fun h => hdl (kR_ne h)))
  · exact HKI.out.chg (inferInstance : Step (only zo) w3 ws).chg (fun x hx e => by
      have e' : x = zo := e
      obtain ⟨_, ad, e2, hx⟩ := hx
      rw [HkA.out] at e2
      have h5 := hA2.out ad e2
      omega)
theorem put2R (z : Nat) (s : RS) : putN z [some ⟨z, 0, none⟩, some ⟨z, 1, none⟩] s 2 (rtL 0 0 noK).toArray = (rtL (s.num.1 : Nat) ((s.at 1).num.1 : Nat) noK).toArray := by
  simp only [putN, List.getElem?_cons_zero, List.getElem?_cons_succ, if_pos]
  rfl
theorem run_ptr2R (a b : Option Addr) (w : World) : (Instr.buildSlice 209 2 #[(0, .pointer a), (1, .pointer b)]).run Tryz.prog w = .ok (.slice (some ⟨w.heap.size, 0, none⟩) 2 2) (w.alloc (.cells #[.pointer a, .pointer b] 173)) := by kernel_rfl
set_option maxRecDepth 100000 in
set_option maxHeartbeats 3200000 in
theorem takeRoot_calls {g d : Nat} {s : RS} {w : World} (hw : RdrAt w g d s) (hl : s.b.length ≤ 140737488351232) :
    Calls Tryz.prog 59 #[.pointer (some ⟨g, 0, none⟩)] w fun e w' => ∃ K : List KR, e = .returned (.agg (rtL (s.num.1 : Nat) ((s.at 1).num.1 : Nat) K).toArray) ∧ Step (only g) w w' ∧ Hid (RdrAt w' g d (kAt (s.at 2) 4)) ∧ Hid (K.length = 4 ∧ K.map KR.m = kK (s.at 2) 4) ∧ Hid (KsIn w w' K) := by
  have HW0 := Lib.hid hw
  have HL := Lib.hid hl
  have hgl := hw.lt
  have hdl := hw.dlt
  obtain ⟨V, hV⟩ : ∃ V, V = s.num.1 := ⟨_, rfl⟩
  obtain ⟨E, hE⟩ : ∃ E, E = (s.at 1).num.1 := ⟨_, rfl⟩
  obtain ⟨S, hS⟩ : ∃ S, S = s.at 2 := ⟨_, rfl⟩
  have HV := Lib.hid hV
  have HE := Lib.hid hE
  have HS := Lib.hid hS
  have hSl : S.b.length ≤ 140737488351232 := by rw [hS]; exact Nat.le_trans (s.at_le 2) hl
  have hSd : S.b ≠ [] → d < w.heap.size := fun h => hdl (RS.at_ne (k := 2) (by rw [← hS]; exact h))
  rw [← hV, ← hE, ← hS]
  clear hw hl hV hE hS
  go_enter Tryz.func59, Tryz.ntmps59
  go_wp2_with (first | ((with_reducible apply (stop_dst (dst := some 8))); (try simp only [Act.put, sA, sB, sC]); ((with_reducible apply (wpl_bslice (dst := some 8))); (exact run_ptr2R _ _ _); intro zb wb _ _ _)) | ((with_reducible apply (wpl_alloc (dst := some 2))); intro zo wzo _ _ _) | ((with_reducible apply (wpl_alloc (dst := some 3))); intro zt wzt _ _ _))
  have hzo : w.heap.size ≤ zo := Nat.le_of_eq (inferInstance : Born w zo).eq.symm
  have hzt : w.heap.size ≤ zt := by
    have e1 := (inferInstance : Born wzo zt).eq
    have e2 := (inferInstance : SzLe w wzo).out
    omega
  have hzb : w.heap.size ≤ zb := by
    have e1 := (inferInstance : Born wzt zb).eq
    have e2 := (inferInstance : SzLe w wzt).out
    omega
  have hzbt : zb ≠ zt := by
    have e1 := (inferInstance : Born wzt zb).eq
    have e2 := (inferInstance : HB wzt zt 45 (rtL 0 0 noK).toArray).out.lt
    omega
  have hzot : zo ≠ zt := by
    have e1 := (inferInstance : Born wzo zt).eq
    have e2 := (inferInstance : HB wzo zo 45 (rtL 0 0 noK).toArray).out.lt
    omega
  have hbb : HB wb zb 173 #[.pointer (some ⟨zt, 0, none⟩), .pointer (some ⟨zt, 1, none⟩)] := inferInstance
  have hbt : HB wb zt 45 (rtL 0 0 noK).toArray := inferInstance
  have hbo : HB wb zo 45 (rtL 0 0 noK).toArray := inferInstance
  have hnn : Nw w wb := inferInstance
  have hdt : s.b ≠ [] → zt ≠ d := fun h e => by
    have := hdl h
    omega
  have hrd := hbb.rdL
  have hsz : (rtL 0 0 noK).toArray.size = 10 := rfl
  refine (rNums_calls g d s (some ⟨zb, 0, none⟩) 2 2 [some ⟨zt, 0, none⟩, some ⟨zt, 1, none⟩] _ (HW0.out.chg hnn.out (fun h => h) (fun h => h)) (by have := HL.out; omega) hrd rfl (by decide) ?_ ?_).mono ?_
  · rintro _ ad e hk
    injection e with e
    subst e
    rcases hk with hk | ⟨ad, hm, hk⟩
    · have hk' : zb = g := hk
      omega
    · simp only [List.mem_cons, List.not_mem_nil, or_false, Option.some.injEq] at hm
      rcases hm with rfl | rfl
      · exact hzbt hk.symm
      · exact hzbt hk.symm
  · intro ad hm
    simp only [List.mem_cons, List.not_mem_nil, or_false, Option.some.injEq] at hm
    rcases hm with rfl | rfl
    · exact ⟨zt, 0, _, _, rfl, hbt.out, by rw [hsz]; decide, by omega, hdt⟩
    · exact ⟨zt, 1, _, _, rfl, hbt.out, by rw [hsz]; decide, by omega, hdt⟩
  rintro e w5 ⟨rfl, h5, c5, p5⟩
  have st5 : Step (gz2 g zt) wb w5 := ⟨c5.out.mono (fun x _ hx => by
    rcases hx with hx | ⟨ad, hm, hk⟩
    · exact .inl hx
    · simp only [List.mem_cons, List.not_mem_nil, or_false, Option.some.injEq] at hm
      rcases hm with rfl | rfl
      · exact .inr hk.symm
      · exact .inr hk.symm)⟩
  have ht5 : HB w5 zt 45 (rtL V E noK).toArray := ⟨by
    have h9 := p5.out zt _ _ (by omega) hbt.out
    rw [put2R, ← HV.out, ← HE.out] at h9
    exact h9⟩
  have o1 : OffB (only g) zt := ⟨fun e => by have e' : zt = g := e; omega⟩
  have o2 : OffB (gz2 g zt) zo := ⟨fun e => by rcases e with e | e <;> omega⟩
  have o3 : OffB (only g) zo := ⟨fun e => by have e' : zo = g := e; omega⟩
  have o4 : OffB (only zt) zo := ⟨fun e => hzot e⟩
  have ho5 : HB w5 zo 45 (rtL 0 0 noK).toArray := inferInstance
  have hC05 : Hid (Chg (only g) w w5) := Lib.hid ((hnn.out.mono (T := only g) (fun _ _ h => h.elim)).trans st5.chg (fun x hx h => by
    rcases h with h | h
    · exact h
    · omega))
  have hsz5 : w.heap.size ≤ w5.heap.size := hC05.out.size
  have hztl : zt < w5.heap.size := ht5.out.lt
  have hzol : zo < w5.heap.size := ho5.out.lt
  have H5 : Hid (RdrAt w5 g d S) := Lib.hid (by rw [HS.out]; exact h5.out)
  clear c5 p5 h5 hbt hbb hrd hbo hsz
  go_wp2_with fail
  go_loopw [10] (fun iv wr => ∃ (k : Nat) (K : List KR), k ≤ 4 ∧ iv = .int .i64 (k : Int) ∧ Hid (K.length = 4 ∧ (K.take k).map KR.m = kK S k) ∧ Hid (Chg (gz2 g zt) w5 wr) ∧ HB wr zt 45 (rtL V E K).toArray ∧ HB wr zo 45 (rtL 0 0 noK).toArray ∧ Hid (KsIn w5 wr K) ∧ Hid (RdrAt wr g d (kAt S k))) (fun iv _ => 4 - (intOf iv).toNat)
  case atStart => exact ⟨0, noK, Nat.zero_le _, rfl, Lib.hid ⟨rfl, rfl⟩, Lib.hid (Chg.refl _ _), ht5, ho5, Lib.hid (KsIn.none _ _), H5⟩
  case round =>
    clear ht5 ho5 H5 st5
    obtain ⟨k, K, hk, rfl, hKl, hC, ht, ho, hKs, hR⟩ := hrel
    by_cases hlt : k < 4
    · have hltI : (k : Int) < 4 := by omega
      have hkl : k < K.length := by rw [hKl.out.1]; exact hlt
      have hal := kAt_le S k
      go_wp2_with fail
      refine (takeKeys_calls hR.out (by omega)).mono ?_
      rintro e w6 ⟨x, rfl, st6, h6, hx, hki, hkA⟩
      have ht6 : HB w6 zt 45 (rtL V E K).toArray := inferInstance
      have ho6 : HB w6 zo 45 (rtL 0 0 noK).toArray := inferInstance
      have hKs6 := hKs.out.chg st6.chg (fun x h => by have h' : x = g := h; omega)
      have hxA : NewA w5 x.A := ⟨fun ad e => Nat.le_trans hC.out.size (hkA.out ad e)⟩
      have HK7 := Lib.hid (hKs6.set k hki hxA)
      clear hKs6 hki hkA hxA
      go_wp2_with (first | ((with_reducible apply (wpl_indexRK (i := k) (m := 4))); (exact rfl); (exact rfl); (exact Tryz.underlying43); (kernel_rfl); (exact hlt)) | ((with_reducible apply (wpl_storeRK (i := k) (k := x))); (exact rfl); (exact rfl); (exact ht6); infer_instance; (exact hkl); intro ws _ hts))
      refine ⟨⟨k + 1, K.set k x, by omega, by go_num, Lib.hid ⟨?_, ?_⟩, Lib.hid ?_, hts, inferInstance, Lib.hid ?_, Lib.hid ?_⟩, by simp [intOf]; omega⟩
      · rw [List.length_set]; exact hKl.out.1
      · rw [set_take_map _ _ _ _ hkl, hKl.out.2, hx.out]
        rfl
      · exact (hC.out.trans (st6.chg.mono (T := gz2 g zt) (fun _ _ h => .inl h)) (fun _ _ h => h)).trans (inferInstance : Step (only zt) w6 ws).chg (fun _ _ h => .inr h)
      · exact HK7.out.chg (inferInstance : Step (only zt) w6 ws).chg (fun x h => by have h' : x = zt := h; omega)
      · exact h6.out.far (inferInstance : Step (only zt) w6 ws).chg (m := w.heap.size) (fun x hx => by have hx' : x = zt := hx; omega) hgl (fun h => hSd (kAt_ne (k := k + 1) h))
    · have hltI : ¬ (k : Int) < 4 := by omega
      obtain rfl : k = 4 := by omega
      have hlK := rtL_len V E K hKl.out.1
      have hoK := rtL_one V E K
      have hKm : K.map KR.m = kK S 4 := by
        have h9 := hKl.out.2
        rwa [List.take_of_length_le (by rw [hKl.out.1]; exact Nat.le_refl _)] at h9
      have HKM := Lib.hid hKm
      clear hKm
      go_wp2_with (first | ((with_reducible apply wpl_loadrow); (exact rfl); (exact ht); infer_instance; (exact hlK)) | ((with_reducible apply wpl_storerow); (exact rfl); (exact rfl); infer_instance; infer_instance; (first | (with_reducible assumption) | (with_reducible exact H32.size _) | kernel_rfl); (first | (with_reducible assumption) | (with_reducible exact H32.size _) | kernel_rfl); (first | (with_reducible exact u8s_one _) | (with_reducible assumption) | kernel_rfl); intro ws _ _))
      refine ret_row rfl rfl (n := 10) hlK rfl ⟨K, rfl, ⟨?_⟩, Lib.hid ?_, Lib.hid ⟨hKl.out.1, HKM.out⟩, Lib.hid ?_⟩
      · exact (hC05.out.trans hC.out (fun x hx h => by
          rcases h with h | h
          · exact h
          · omega)).trans (inferInstance : Step (only zo) wr ws).chg (fun x hx h => by have h' : x = zo := h; omega)
      · exact hR.out.far (inferInstance : Step (only zo) wr ws).chg (m := w.heap.size) (fun x hx => by have hx' : x = zo := hx; omega) hgl (fun h => hSd (kAt_ne (k := 4) h))
      · refine KsIn.first (w1 := w5) (hKs.out.chg (inferInstance : Step (only zo) wr ws).chg (fun x h => by have h' : x = zo := h; omega)) hsz5
end Go.Proofs.YthcleccofccbdaaGreat
end
section
open Go Go.RowKit
namespace Go.Proofs.YthcleccofccbdaaGreat
/-- what is decoded -/
def rtM (b : List UInt8) : Int × Int × List (List H32 × Int) × Int := if rtOk b then (rtV b, rtX b, kK (rtS b) 4, 0) else (0, 0, noK.map KR.m, 2)
def DecRt (b : List UInt8) (w : World) : Ending → World → Prop := fun e w' => Step nowhere w w' ∧ ∃ v x K err, e = .returned (.tuple #[.agg (rtL v x K).toArray, .int .i64 err]) ∧ Hid (K.length = 4 ∧ (v, x, K.map KR.m, err) = rtM b) ∧ Hid (KsIn w w' K)
theorem rootOk_m (v e : Int) (K : List KR) : rootB v e (K.map KR.m) = rootOk v e K := by
  rw [rootB, rootOk, List.all_map]
  rfl
set_option maxRecDepth 100000 in
set_option maxHeartbeats 3200000 in
theorem decRoot_calls {A : Option Addr} {n c : Nat} {b : List UInt8} {w : World} [hr : HR w A (bs b)] (hl : b.length = n) (hn : n ≤ 140737488351232) :
    Calls Tryz.prog 58 #[.int .i64 1, .slice A n c, .func (.func 56) #[] #[], .func (.func 59) #[] #[]] w (DecRt b w) := by
  obtain ⟨S, hS⟩ : ∃ S, S = kindS 1 b := ⟨_, rfl⟩
  obtain ⟨W, hW⟩ : ∃ W, W = wholeB (kAt (S.at 2) 4) := ⟨_, rfl⟩
  obtain ⟨V, hV⟩ : ∃ V, V = S.num.1 := ⟨_, rfl⟩
  obtain ⟨X, hX⟩ : ∃ X, X = (S.at 1).num.1 := ⟨_, rfl⟩
  obtain ⟨I, hI⟩ : ∃ I, I = rootB V X (kK (S.at 2) 4) := ⟨_, rfl⟩
  have hSl : S.b.length ≤ 140737488351232 := by
    have := kindS_le 1 b
    rw [← hS] at this
    omega
  have hM : rtM b = if W && I then ((V : Int), (X : Int), kK (S.at 2) 4, (0 : Int)) else (0, 0, noK.map KR.m, 2) := by
    rw [rtM, rtOk, rtV, rtX, rtS, ← hS, ← hW, ← hV, ← hX, ← hI]
  have HM := Lib.hid hM
  have HRR := Lib.hid hr.out
  have HS := Lib.hid hS
  have HW := Lib.hid hW
  have HI := Lib.hid hI
  have HV := Lib.hid hV
  have HX := Lib.hid hX
  have HLE := Lib.hid hl
  unfold DecRt
  clear hS hW hI hV hX hM
  go_enter Tryz.func58, Tryz.ntmps58
  go_wp2_with (first | ((with_reducible apply (wpl_alloc (dst := some 8))); intro zo wzo _ _ _))
  refine (NewReader_calls A n c b _ (HRR.out.later (stepN (w0 := w)).chg) HLE.out (by omega)).mono ?_
  rintro e w2 ⟨g, d, rfl, h2, c2, hg, hd⟩
  have st2 : Step nowhere _ w2 := ⟨c2.out⟩
  have hgw : w.heap.size ≤ g := Nat.le_trans (inferInstance : SzLe w wzo).out hg
  have hdw : w.heap.size ≤ d := Nat.le_trans (inferInstance : SzLe w wzo).out hd
  have hzol := (inferInstance : HB wzo zo 45 (rtL 0 0 noK).toArray).out.lt
  have hzo : w.heap.size ≤ zo := Nat.le_of_eq (inferInstance : Born w zo).eq.symm
  have ozg : OffB (only g) zo := ⟨fun e => by have e' : zo = g := e; omega⟩
  have ag : Above w (only g) := ⟨fun k h => by have h' : k = g := h; omega⟩
  go_wp2_with fail
  refine (Num_calls g d _ w2 h2.out (by show b.length ≤ _; have := HLE.out; omega)).mono ?_
  rintro e w3 ⟨rfl, h3, c3⟩
  have st3 : Step (only g) w2 w3 := ⟨c3.out⟩
  obtain ⟨q, hq⟩ : ∃ q, q = (⟨b, false⟩ : RS).num.1 := ⟨_, rfl⟩
  rw [← hq]
  clear c2 c3 h2
  by_cases hk : q = 1
  focus
    have HSS : Hid (RdrAt w3 g d S) := Lib.hid (by
      rw [HS.out, kindS, if_pos (by rw [← hq]; exact hk)]
      exact h3.out)
    have hqI : (q : Int) = 1 := by omega
    have hb3 : zo < w3.heap.size := Nat.lt_of_lt_of_le hzol (inferInstance : SzLe wzo w3).out
    have hs3 : w.heap.size ≤ w3.heap.size := (inferInstance : SzLe w w3).out
    clear h3 hq hk
    rw [hqI]
    clear hqI
    go_wp2_with fail
    refine (takeRoot_calls HSS.out hSl).mono ?_
    clear HSS
    generalize w3 = wB at *
  rotate_left
  focus
    have HSS0 : Hid (S = RS.bad) := Lib.hid (by rw [HS.out, kindS, if_neg (by rw [← hq]; exact hk)])
    have hqI : ((q : Int) == 1) = false := by simp; omega
    have hqJ : (q : Int) < 1 ∨ 1 < (q : Int) := by omega
    have H3 := h3
    clear h3 hq hk
    go_wp2_with fail
    refine (Bad_calls g d _ _ H3.out).mono ?_
    rintro e w3b ⟨rfl, h3b, c3b⟩
    have st3b : Step (only g) w3 w3b := ⟨c3b.out⟩
    have HSS : Hid (RdrAt w3b g d S) := Lib.hid (by rw [HSS0.out]; exact h3b.out)
    have hb3 : zo < w3b.heap.size := Nat.lt_of_lt_of_le hzol (inferInstance : SzLe wzo w3b).out
    have hs3 : w.heap.size ≤ w3b.heap.size := (inferInstance : SzLe w w3b).out
    clear h3b c3b H3
    go_wp2_with fail
    refine (takeRoot_calls HSS.out hSl).mono ?_
    clear HSS HSS0 hqI hqJ
    generalize w3b = wB at *
  rotate_left
  all_goals
    rw [← HV.out, ← HX.out]
    rintro e w4 ⟨K, rfl, st4, h4, hK4, hKs⟩
    have hlK := rtL_len V X K hK4.out.1
    have hoK := rtL_one V X K
    have ho4 : HB w4 zo 45 (rtL 0 0 noK).toArray := inferInstance
    have nw4 : Nw w w4 := inferInstance
    go_wp2_with (first | ((with_reducible apply (wpl_alloc (dst := some 11))); intro zt wzt _ _ _) | ((with_reducible apply wpl_storerow); (exact rfl); (exact rfl); infer_instance; infer_instance; (first | (with_reducible assumption) | (with_reducible exact H32.size _) | kernel_rfl); (first | (with_reducible assumption) | (with_reducible exact H32.size _) | kernel_rfl); (first | (with_reducible exact u8s_one _) | (with_reducible assumption) | kernel_rfl); intro ws _ _))
    have hzt4 : w4.heap.size ≤ zt := Nat.le_of_eq (inferInstance : Born w4 zt).eq.symm
    have hs4 : wB.heap.size ≤ w4.heap.size := st4.chg.size
    have izt : Into w4 (only zt) (only zo) := ⟨fun x hx h => by have h' : x = zt := h; omega⟩
    have hts : HB ws zt 45 (rtL V X K).toArray := inferInstance
    refine (Whole_calls g d (kAt (S.at 2) 4) _ (h4.out.chg (inferInstance : Nw w4 _).out (fun h => h) (fun h => h)) (by have h5 := kAt_le (S.at 2) 4; have h6 := S.at_le 2; omega)).mono ?_
    have e6 : (!(kAt (S.at 2) 4).e && decide ((kAt (S.at 2) 4).b = [])) = W := by rw [HW.out]; rfl
    rw [e6]
    rintro e w6 ⟨rfl, rfl⟩
    clear e6
    cases W
    case false =>
      go_wp2_with (first | ((with_reducible apply wpl_storerow); (exact rfl); (exact rfl); infer_instance; infer_instance; (exact rfl); (exact rfl); (exact rtL_one _ _ _); intro ws _ _) | ((with_reducible apply wpl_loadrow); (exact rfl); infer_instance; infer_instance; (exact rfl)) | ((with_reducible apply (wpl_alloc (dst := some 12))); intro zz wzz _ _ _))
      refine ret_row_ rfl rfl rfl (n := 10) rfl rfl ⟨stepN, 0, 0, noK, 2, rfl, Lib.hid ⟨rfl, HM.out.symm⟩, Lib.hid (KsIn.none _ _)⟩
    case true =>
      have n6 : Nw w4 w6 := inferInstance
      go_wp2_with (first | ((with_reducible apply wpl_loadrow); (exact rfl); (exact hts); infer_instance; (exact hlK)) | ((with_reducible apply (wpl_guard (op := .load _ _))); (exact rfl)))
      refine (isRoot_calls V X K hK4.out.1 (fun k hk => KIn.chg (hKs.out k hk).1 n6.out (fun _ _ h => h))).mono ?_
      rw [show rootOk V X K = I by rw [← rootOk_m, hK4.out.2, HI.out]]
      rintro e w7 ⟨rfl, _⟩
      cases I
      case false =>
        go_wp2_with (first | ((with_reducible apply wpl_storerow); (exact rfl); (exact rfl); infer_instance; infer_instance; (exact rfl); (exact rfl); (exact rtL_one _ _ _); intro ws _ _) | ((with_reducible apply wpl_loadrow); (exact rfl); infer_instance; infer_instance; (exact rfl)) | ((with_reducible apply (wpl_alloc (dst := some 12))); intro zz wzz _ _ _))
        refine ret_row_ rfl rfl rfl (n := 10) rfl rfl ⟨stepN, 0, 0, noK, 2, rfl, Lib.hid ⟨rfl, HM.out.symm⟩, Lib.hid (KsIn.none _ _)⟩
      case true =>
        have hts7 : HB w7 zt 45 (rtL V X K).toArray := inferInstance
        have ho7 : HB w7 zo 45 (rtL 0 0 noK).toArray := inferInstance
        go_wp2_with (first | ((with_reducible apply wpl_loadrow); (exact rfl); (exact hts7); infer_instance; (exact hlK)) | ((with_reducible apply wpl_storerow); (exact rfl); (exact rfl); infer_instance; infer_instance; (first | (with_reducible assumption) | (with_reducible exact H32.size _) | kernel_rfl); (first | (with_reducible assumption) | (with_reducible exact H32.size _) | kernel_rfl); (first | (with_reducible exact u8s_one _) | (with_reducible assumption) | kernel_rfl); intro ws _ _))
        refine ret_row_ rfl rfl rfl (n := 10) hlK rfl ⟨stepN, V, X, K, 0, rfl, Lib.hid ⟨hK4.out.1, ?_⟩, Lib.hid ?_⟩
        · rw [hK4.out.2]; exact HM.out.symm
        · exact KsIn.first (w1 := wB) (hKs.out.chg (inferInstance : Ch (only zo) w4 ws).out (fun x h => by have h' : x = zo := h; omega)) hs3
set_option maxRecDepth 100000 in
set_option maxHeartbeats 1600000 in
theorem DecodeRoot_calls {A : Option Addr} {n c : Nat} {b : List UInt8} {w : World} [hr : HR w A (bs b)] (hl : b.length = n) (hn : n ≤ 140737488351232) :
    Calls Tryz.prog 16 #[.slice A n c] w (DecRt b w) := by
  unfold DecRt
  go_enter Tryz.func16, Tryz.ntmps16
  go_wp2_with (first | ((with_reducible apply (wpl_alloc (dst := some 2))); intro zo wzo _ _ _))
  have hzol := (inferInstance : HB wzo zo 45 (rtL 0 0 noK).toArray).out.lt
  refine (decRoot_calls (b := b) hl hn).mono ?_
  rintro e w2 ⟨_, v, x, K, err, rfl, hK, hKs⟩
  have hlK := rtL_len v x K hK.out.1
  have hoK := rtL_one v x K
  have ho2 : HB w2 zo 45 (rtL 0 0 noK).toArray := inferInstance
  have hsz := (inferInstance : SzLe w wzo).out
  go_wp2_with (first | ((with_reducible apply wpl_storerow); (exact rfl); (exact rfl); infer_instance; infer_instance; (first | (with_reducible assumption) | (with_reducible exact H32.size _) | kernel_rfl); (first | (with_reducible assumption) | (with_reducible exact H32.size _) | kernel_rfl); (first | (with_reducible exact u8s_one _) | (with_reducible assumption) | kernel_rfl); intro ws _ _))
  refine ret_row_ rfl rfl rfl (n := 10) hlK rfl ⟨stepN, v, x, K, err, rfl, hK, Lib.hid ?_⟩
  exact KsIn.first (w1 := wzo) (hKs.out.chg (inferInstance : Step (only zo) w2 ws).chg (fun x h => by have h' : x = zo := h; omega)) hsz
end Go.Proofs.YthcleccofccbdaaGreat
end
section
open Go Go.RowKit
namespace Go.Proofs.YthcleccofccbdaaGreat
theorem GotQ.le {s s' : RS} {l : List H32} {need : Nat} (h : GotQ s l need s') : s'.b.length ≤ s.b.length := by
  obtain ⟨j, _, _, _, _, _, rfl⟩ := h
  exact Nat.le_trans (RS.num_le _) (Nat.le_trans (hS_le _ _) (RS.num_le s))
end Go.Proofs.YthcleccofccbdaaGreat
end
