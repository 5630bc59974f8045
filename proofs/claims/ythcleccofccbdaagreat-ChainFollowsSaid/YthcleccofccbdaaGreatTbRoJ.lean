/- RoJ -/
import Derived.Test.YthcleccofccbdaaGreatTbRoG
import Derived.Test.YthcleccofccbdaaGreatTbRoH
import Derived.Test.YthcleccofccbdaaGreatTbRoI
open Go Go.RowKit
namespace Go.Proofs.YthcleccofccbdaaGreat
theorem GotQ.le {s s' : RS} {l : List H32} {need : Nat} (h : GotQ s l need s') : s'.b.length ≤ s.b.length := by
  obtain ⟨j, _, _, _, _, _, rfl⟩ := h
  exact Nat.le_trans (RS.num_le _) (Nat.le_trans (hS_le _ _) (RS.num_le s))
theorem HB.row_eqR {w : World} {g : Nat} {t : TypeId} {cs ds : Array Value} (h : HB w g t cs) (e : cs = ds) : HB w g t ds := e ▸ h
theorem Nw.hrR {w w' : World} (n : Nw w w') {A : Option Addr} {vs : List Value} (h : Rd w A vs) : HR w' A vs := HR.step nowhere w w' A _ (h := ⟨h⟩) (s := ⟨n.out⟩)
theorem run_root1 (v : Int) (w : World) : (Instr.build 45 #[(0, .int .i64 v), (1, .int .i64 0)]).run Tryz.prog w = .ok (.agg (rtL v 0 noK).toArray) w := by kernel_rfl
set_option maxRecDepth 100000 in
set_option maxHeartbeats 3200000 in
theorem rDecodeRoot_calls {A : Option Addr} {n c : Nat} {b : List UInt8} {w : World} [hr : HR w A (bs b)] (hl : b.length = n) (hcap : n ≤ c) (hn : n ≤ 140737488351232) :
    Calls Tryz.prog 138 #[.slice A n c] w (DecRt b w) := by
  obtain ⟨S, hS⟩ : ∃ S, S = kindS 1 b := ⟨_, rfl⟩
  obtain ⟨S2, hS2⟩ : ∃ S2, S2 = S.at 2 := ⟨_, rfl⟩
  obtain ⟨V, hV⟩ : ∃ V, V = S.num.1 := ⟨_, rfl⟩
  obtain ⟨X, hX⟩ : ∃ X, X = (S.at 1).num.1 := ⟨_, rfl⟩
  have hSl : S.b.length ≤ 140737488351232 := by
    have := kindS_le 1 b
    rw [← hS] at this
    omega
  have hSb : S.b ≠ [] → b ≠ [] := fun h h0 => by
    have := kindS_le 1 b
    rw [← hS, h0] at this
    exact h (List.eq_nil_of_length_eq_zero (by simpa using this))
  have hS2l : S2.b.length ≤ S.b.length := by rw [hS2]; exact S.at_le 2
  have hM : rtM b = if rtOk b then ((V : Int), (X : Int), kK S2 4, (0 : Int)) else (0, 0, noK.map KR.m, 2) := by
    rw [rtM, rtV, rtX, rtS, ← hS, ← hV, ← hX, ← hS2]
  have hRF : ∀ (K : List (List H32 × Int)) (s' : RS), GotN 4 S2 K s' → (wholeB s' && rootB V X K && decide (b = rootE V X K)) = rtOk b ∧ (rtOk b = true → K = kK S2 4) := fun K s' h => by
    have h1 := rt_ref (b := b) (K := K) (s' := s') (by rw [rtS, ← hS, ← hS2]; exact h)
    rwa [rtV, rtX, rtS, ← hS, ← hV, ← hX, ← hS2] at h1
  have HM := Lib.hid hM
  have HRF := Lib.hid hRF
  have HRR := Lib.hid hr.out
  have HS := Lib.hid hS
  have HV : Hid (S.num.1 = V) := Lib.hid hV.symm
  have HX : Hid ((S.at 1).num.1 = X) := Lib.hid hX.symm
  have HS2 : Hid (S.at 2 = S2) := Lib.hid hS2.symm
  have HLE := Lib.hid hl
  have kb0 : ∀ w, (Instr.build 45 #[]).run Tryz.prog w = .ok (.agg (rtL 0 0 noK).toArray) w := fun _ => by kernel_rfl
  have kbV := run_root1 (V : Int)
  unfold DecRt
  clear hS hS2 hV hX hM hRF
  go_enter Tryz.func138, Tryz.ntmps138
  go_wp2_with (first | ((with_reducible apply (wpl_alloc (dst := some 2))); intro zo wzo _ _ _))
  have hro : HR wzo A (bs b) := ⟨HRR.out.later (stepN (w0 := w) (w := wzo)).chg⟩
  have hzow : w.heap.size ≤ zo := Nat.le_of_eq (inferInstance : Born w zo).eq.symm
  refine (rReader_calls (kind := 1) (b := b) HLE.out hcap hn).mono ?_
  rintro e w5 ⟨zr, d, rfl, _, hzr, hltr, h5, hdw⟩
  rw [← HS.out] at h5
  have hszo : w.heap.size ≤ wzo.heap.size := (inferInstance : SzLe w wzo).out
  have hzw : w.heap.size ≤ zr := Nat.le_trans hszo hzr
  have ag : Above w (only zr) := ⟨fun k h => by have h' : k = zr := h; omega⟩
  have hzol := (inferInstance : HB wzo zo 45 (rtL 0 0 noK).toArray).out.lt
  have ozr : OffB (only zr) zo := ⟨fun e => by have e' : zo = zr := e; omega⟩
  have hd5 : S.b ≠ [] → d < w5.heap.size := fun h => h5.out.dlt h
  have H5 := Lib.hid h5
  clear h5
  go_wp2_with fail
  refine (rrNum_calls zr d S _ H5.out.out (by omega)).mono ?_
  rw [HV.out]
  rintro e w6 ⟨rfl, h6, c6⟩
  have st6 : Step (only zr) w5 w6 := ⟨c6.out⟩
  have hs6 : w5.heap.size ≤ w6.heap.size := c6.out.size
  have hlV0 : (rtL (V : Int) 0 noK).toArray.size = 10 := rfl
  have hoV0 := rtL_one (V : Int) 0 noK
  go_wp2_with (first | ((with_reducible apply wpl_build); (exact kbV _)) | ((with_reducible apply (wpl_alloc (dst := some 5))); intro zt wzt _ _ _) | ((with_reducible apply wpl_storerow); (exact rfl); (exact rfl); infer_instance; infer_instance; (first | (with_reducible assumption) | (with_reducible exact H32.size _) | kernel_rfl); (first | (with_reducible assumption) | (with_reducible exact H32.size _) | kernel_rfl); (first | (with_reducible exact u8s_one _) | (with_reducible assumption) | kernel_rfl); intro ws _ _))
  have hzt : w6.heap.size ≤ zt := Nat.le_of_eq (inferInstance : Born w6 zt).eq.symm
  have hztl : zt < wzt.heap.size := (inferInstance : HB wzt zt 45 (rtL 0 0 noK).toArray).out.lt
  have otr : OffB (only zr) zt := ⟨fun e => by have e' : zt = zr := e; omega⟩
  have hs5 : wzo.heap.size ≤ w5.heap.size := (inferInstance : SzLe wzo w5).out
  have hst : w6.heap.size ≤ wzt.heap.size := (inferInstance : SzLe w6 wzt).out
  have at_ : Above w (only zt) := ⟨fun k h => by have h' : k = zt := h; omega⟩
  have htV : HB ws zt 45 (rtL V 0 noK).toArray := inferInstance
  have far : ∀ (s : RS) (w1 w2 : World), s.b.length ≤ S.b.length → Step (only zt) w1 w2 → RRAt w1 zr d s → RRAt w2 zr d s := fun s w1 w2 hs st h => h.chg2 st.chg (fun e => by have e' : zr = zt := e; omega) (fun hne e => by have e' : d = zt := e; have := hd5 (ne_of_le hs hne); omega)
  have l1 : (S.at 1).b.length ≤ S.b.length := S.at_le 1
  have H6b := Lib.hid (far (S.at 1) wzt ws l1 inferInstance (h6.out.chg (stepN (w0 := w6) (w := wzt)).chg (fun h => h) (fun h => h)))
  refine (rrNum_calls zr d (S.at 1) _ H6b.out (by omega)).mono ?_
  rw [HX.out]
  rintro e w7 ⟨rfl, h7, c7⟩
  have st7 : Step (only zr) ws w7 := ⟨c7.out⟩
  have ht7 : HB w7 zt 45 (rtL V 0 noK).toArray := inferInstance
  have hk7 : 1 < (rtL (V : Int) 0 noK).toArray.size := by rw [hlV0]; decide
  have hC7 : Hid (Chg (gz2 zr zt) wzt w7) := Lib.hid (((inferInstance : Step (only zt) wzt ws).chg.mono (T := gz2 zr zt) (fun _ _ h => .inr h)).trans c7.out (fun _ _ h => .inl h))
  have nw7 : Nw w w7 := inferInstance
  have hzo7 : HB w7 zo 45 (rtL 0 0 noK).toArray := inferInstance
  have hszt : w.heap.size ≤ wzt.heap.size := (inferInstance : SzLe w wzt).out
  clear htV h6 c6
  go_wp2_with (first | ((with_reducible apply wpl_storecell); (exact rfl); (exact rfl); (exact ht7); (exact rfl); (exact hk7); intro wk _ ht8r; have ht8 : HB wk zt 45 (rtL V X noK).toArray := HB.row_eqR ht8r rfl; clear ht8r))
  have hzo8 : HB wk zo 45 (rtL 0 0 noK).toArray := inferInstance
  have H8 : Hid (RRAt wk zr d S2) := Lib.hid (far S2 w7 wk hS2l inferInstance (by rw [← HS2.out]; exact h7.out))
  have hC8 : Hid (Chg (gz2 zr zt) wzt wk) := Lib.hid (hC7.out.trans (inferInstance : Step (only zt) w7 wk).chg (fun _ _ h => .inr h))
  clear h7 c7 ht7 hzo7 hC7
  go_loopw [6] (fun iv wr => ∃ (k : Nat) (K : List KR) (s' : RS), k ≤ 4 ∧ iv = .int .i64 (k : Int) ∧ Hid (K.length = 4 ∧ GotN k S2 ((K.take k).map KR.m) s') ∧ Hid (Chg (gz2 zr zt) wzt wr) ∧ HB wr zt 45 (rtL V X K).toArray ∧ HB wr zo 45 (rtL 0 0 noK).toArray ∧ Hid (KsIn wzt wr K) ∧ Hid (RRAt wr zr d s') ∧ s'.b.length ≤ S.b.length) (fun iv _ => 4 - (intOf iv).toNat)
  case atStart => exact ⟨0, noK, S2, Nat.zero_le _, rfl, Lib.hid ⟨rfl, rfl, rfl⟩, hC8, ht8, hzo8, Lib.hid (KsIn.none _ _), H8, hS2l⟩
  case round =>
    clear ht8 hzo8 H8 hC8
    obtain ⟨k, K, s', hk, rfl, hKl, hC, ht, hzo, hKs, hR, hsl⟩ := hrel
    by_cases hlt : k < 4
    · have hltI : (k : Int) < 4 := by omega
      have hkl : k < K.length := by rw [hKl.out.1]; exact hlt
      go_wp2_with fail
      refine (rReadKeys_calls hR.out (by omega)).mono ?_
      rintro e w9 ⟨x, need, s2, rfl, st9, h9, hx, hki⟩
      have ht9 : HB w9 zt 45 (rtL V X K).toArray := inferInstance
      have hzo9 : HB w9 zo 45 (rtL 0 0 noK).toArray := inferInstance
      have hKs9 := hKs.out.chg st9.chg (fun x h => by have h' : x = zr := h; omega)
      have hxA : NewA wzt x.A := ⟨fun ad e => Nat.le_trans hC.out.size (hki.out.2.out ad e)⟩
      have HK9 := Lib.hid (hKs9.set k hki.out.1 hxA)
      have hs2l := Nat.le_trans hx.out.1.le hsl
      clear hKs9 hki hxA
      go_wp2_with (first | ((with_reducible apply (wpl_indexRK (i := k) (m := 4))); (exact rfl); (exact rfl); (exact Tryz.underlying43); (kernel_rfl); (exact hlt)) | ((with_reducible apply (wpl_storeRK (i := k) (k := x))); (exact rfl); (exact rfl); (exact ht9); infer_instance; (exact hkl); intro ws _ hts))
      refine ⟨⟨k + 1, K.set k x, s2, by omega, by go_num, Lib.hid ⟨?_, ?_⟩, Lib.hid ?_, hts, inferInstance, Lib.hid ?_, Lib.hid ?_, hs2l⟩, by simp [intOf]; omega⟩
      · rw [List.length_set]; exact hKl.out.1
      · rw [set_take_map _ _ _ _ hkl]
        exact ⟨_, s', x.l, need, hKl.out.2, hx.out.1, by rw [KR.m, hx.out.2]⟩
      · exact (hC.out.trans (st9.chg.mono (T := gz2 zr zt) (fun _ _ h => .inl h)) (fun _ _ h => h)).trans (inferInstance : Step (only zt) w9 ws).chg (fun _ _ h => .inr h)
      · exact HK9.out.chg (inferInstance : Step (only zt) w9 ws).chg (fun x h => by have h' : x = zt := h; omega)
      · exact far s2 w9 ws hs2l inferInstance h9.out
    · have hltI : ¬ (k : Int) < 4 := by omega
      obtain rfl : k = 4 := by omega
      have hlK := rtL_len V X K hKl.out.1
      have hoK := rtL_one V X K
      have hG : GotN 4 S2 (K.map KR.m) s' := by
        have h9 := hKl.out.2
        rwa [List.take_of_length_le (by rw [hKl.out.1]; exact Nat.le_refl _)] at h9
      have hRF := HRF.out _ _ hG
      rw [rootOk_m] at hRF
      have HF := Lib.hid hRF
      have nwr : Nw w wr := ⟨((stepN (w0 := w) (w := wzt)).chg).trans hC.out (fun x hx h => by rcases h with h | h <;> omega)⟩
      have HIN : Hid (∀ k ∈ K, KIn wr k) := Lib.hid (fun k hk => (hKs.out k hk).1)
      obtain ⟨I, hI⟩ : ∃ I, I = rootOk V X K := ⟨_, rfl⟩
      have HI := Lib.hid hI
      clear hG hRF hI
      go_wp2_with (first | ((with_reducible apply wpl_loadrow); (exact rfl); (exact ht); infer_instance; (exact hlK)))
      refine (rEncodeRoot_calls V X K hKl.out.1 HIN.out).mono ?_
      unfold EncPost
      rw [← HI.out] at HF ⊢
      cases I
      case false =>
        have HNO : Hid (rtOk b = false) := Lib.hid (by rw [← HF.out.1]; simp)
        rintro e w12 ⟨st12, h12⟩
        obtain rfl : e = _ := h12
        go_wp2_with fail
        have nw12 : Nw w w12 := inferInstance
        have hb12 : HR w12 A (bs b) := nw12.hrR HRR.out
        have hn12 : HR w12 none (bs []) := HR.nilB w12
        have HR12 : RRAt w12 zr d s' := hR.out.chg st12.chg (fun h => h) (fun h => h)
        have hzo12 : HB w12 zo 45 (rtL 0 0 noK).toArray := inferInstance
        refine (rJust_calls (b := b) (y := []) (e0 := 1) HR12 (by omega) HLE.out rfl).mono ?_
        rw [show (wholeB s' && decide ((1 : Int) = 0) && decide (b = [])) = false by simp]
        rintro e w13 ⟨rfl, rfl⟩
        go_wp2_with (first | ((with_reducible apply wpl_storerow); (exact rfl); (exact rfl); infer_instance; infer_instance; (exact rfl); (exact rfl); (exact rtL_one _ _ _); intro ws _ _) | ((with_reducible apply wpl_build); (exact kb0 _)))
        refine ret_row_ rfl rfl rfl (n := 10) rfl rfl ⟨stepN, 0, 0, noK, 2, rfl, Lib.hid ⟨rfl, ?_⟩, Lib.hid (KsIn.none _ _)⟩
        rw [HM.out, HNO.out]
        rfl
      case true =>
        rintro e w12 ⟨st12, A5, n5, c5, rfl, hn5, hO5, hA5⟩
        have HN5 := Lib.hid hn5
        have HO5 := Lib.hid hO5.out.rd
        clear hn5 hO5
        go_wp2_with fail
        have nw12 : Nw w w12 := inferInstance
        have hb12 : HR w12 A (bs b) := nw12.hrR HRR.out
        have hE : encAll [1] ++ (encAll [(V : Int), (X : Int)] ++ keysE K) = rootE V X (K.map KR.m) := by rw [rootE, keysE_eq]
        have hy12 : HR w12 A5 (bs (rootE V X (K.map KR.m))) := ⟨by rw [← hE]; exact HO5.out⟩
        have hny : (rootE V X (K.map KR.m)).length = n5 := by rw [← hE]; exact HN5.out.symm
        have HR12 : RRAt w12 zr d s' := hR.out.chg st12.chg (fun h => h) (fun h => h)
        have HNY := Lib.hid hny
        clear hE hny HO5 HN5
        refine (rJust_calls (b := b) (y := rootE V X (K.map KR.m)) (e0 := 0) HR12 (by omega) HLE.out HNY.out).mono ?_
        have e9 : (wholeB s' && decide ((0 : Int) = 0) && decide (b = rootE V X (K.map KR.m))) = rtOk b := HF.out.1
        rw [e9]
        clear e9
        have ht12 : HB w12 zt 45 (rtL V X K).toArray := inferInstance
        have hzo12 : HB w12 zo 45 (rtL 0 0 noK).toArray := inferInstance
        cases hOK : rtOk b
        case false =>
          have HNO := Lib.hid hOK
          clear hOK
          rintro e w13 ⟨rfl, rfl⟩
          go_wp2_with (first | ((with_reducible apply wpl_storerow); (exact rfl); (exact rfl); infer_instance; infer_instance; (exact rfl); (exact rfl); (exact rtL_one _ _ _); intro ws _ _) | ((with_reducible apply wpl_build); (exact kb0 _)))
          refine ret_row_ rfl rfl rfl (n := 10) rfl rfl ⟨stepN, 0, 0, noK, 2, rfl, Lib.hid ⟨rfl, ?_⟩, Lib.hid (KsIn.none _ _)⟩
          rw [HM.out, HNO.out]
          rfl
        case true =>
          have HYE : Hid (rtM b = ((V : Int), (X : Int), K.map KR.m, (0 : Int))) := Lib.hid (by rw [HM.out, hOK, HF.out.2 hOK]; rfl)
          clear hOK
          rintro e w13 ⟨rfl, rfl⟩
          go_wp2_with (first | ((with_reducible apply wpl_loadrow); (exact rfl); (exact ht12); infer_instance; (exact hlK)) | ((with_reducible apply wpl_storerow); (exact rfl); (exact rfl); infer_instance; infer_instance; (first | (with_reducible assumption) | (with_reducible exact H32.size _) | kernel_rfl); (first | (with_reducible assumption) | (with_reducible exact H32.size _) | kernel_rfl); (first | (with_reducible exact u8s_one _) | (with_reducible assumption) | kernel_rfl); intro ws _ _))
          refine ret_row_ rfl rfl rfl (n := 10) hlK rfl ⟨stepN, V, X, K, 0, rfl, Lib.hid ⟨hKl.out.1, HYE.out.symm⟩, Lib.hid ?_⟩
          exact KsIn.first (w1 := wzt) (hKs.out.chg (inferInstance : Ch (only zo) wr ws).out (fun x h => by have h' : x = zo := h; omega)) hszt
end Go.Proofs.YthcleccofccbdaaGreat
