/- BkI -/
import Derived.Test.YtegdihpnefoolaaTjBkH
open Go Go.RowKit
namespace Go.Proofs.Ytegdihpnefoolaa
set_option maxRecDepth 100000 in
set_option maxHeartbeats 3200000 in
theorem bkKeep_calls {g p N : Nat} {s : FS} {w : World} (hF : FlashAt w g p N s) {M : Option Addr} {m d : Nat} {mind : List UInt8} [hM : HR w M (bs mind)] (hm : mind.length = m) (hm9 : m ≤ 9223372036854775807) :
    Calls Try.prog 32 #[.pointer (some ⟨g, 0, none⟩), .slice M m d] w fun e w' => e = .returned (.int .i64 ((keepS N s mind).1 : Int)) ∧ Hid (FlashAt w' g p N (keepS N s mind).2) ∧ Step (Two g p) w w' := by
  have HF := Lib.hid hF
  obtain ⟨r, hr⟩ : ∃ r, r = keepS N s mind := ⟨_, rfl⟩
  have hr2 := hr
  unfold keepS at hr2
  rw [hm] at hr2
  rw [← hr]
  obtain ⟨Bq, hBq⟩ : ∃ Bq, Bq = bootS N s := ⟨_, rfl⟩
  have hbl := boot_lens N s
  rw [← hBq] at hr2 hbl
  have HBQ := Lib.hid hBq
  have HR2 := Lib.hid hr2
  have HM := Lib.hid hm
  have HMR := Lib.hid hM.out
  have HBL := Lib.hid hbl
  clear hF hr hr2 hBq hm hbl
  go_enter Try.func32, Try.ntmps32
  go_wp2_with (first | ((with_reducible apply wpl_alloc); intro z wz _ _ _) | ((with_reducible apply wpl_loadrow); (exact rfl); infer_instance; infer_instance; (first | (with_reducible assumption) | (with_reducible exact H32.size _) | kernel_rfl)) | ((with_reducible apply wpl_loadcellN); (exact rfl); infer_instance; (exact rfl)) | ((with_reducible apply wpl_storerow); (exact rfl); (exact rfl); infer_instance; infer_instance; (first | (with_reducible assumption) | (with_reducible exact H32.size _) | kernel_rfl); (first | (with_reducible assumption) | (with_reducible exact H32.size _) | kernel_rfl); (first | (with_reducible exact u8s_one _) | (with_reducible assumption) | kernel_rfl); intro ws _ _) | ((with_reducible apply wpl_storecell); (exact rfl); (exact rfl); infer_instance; (exact rfl); (first | (with_reducible assumption) | omega | (focus (simp; done)) | (focus (simp; omega; done)) | decide); intro ws _ _))
  refine (bkBoot_calls HF.out).mono ?_
  rw [← HBQ.out]
  unfold BootQ
  obtain ⟨D, hD⟩ : ∃ D, D = Bq.1 := ⟨_, rfl⟩
  obtain ⟨E, hE⟩ : ∃ E, E = Bq.2.2 := ⟨_, rfl⟩
  rw [← hD, ← hE]
  have HR3 : Hid (r = if E ≠ 0 then (E, s) else if 2000 < m then (10, s) else saveN N s (BSt.enc { D with mind := mind })) := Lib.hid (by rw [HR2.out, hE, hD])
  have HBL2 : Hid (D.name.length ≤ 2500) := Lib.hid (by rw [hD]; exact HBL.out.1)
  clear HR2 HBL hD hE
  rintro e w2 ⟨Mq, mq, dq, Iq, nq, cq, rfl, _, _, _, _, _, _, _, _, _⟩
  have HF2 : Hid (FlashAt w2 g p N s) := Lib.hid (HF.out.calm (stepN (w0 := w) (w := w2)).chg)
  have hq := bkL_len D.bank D.size D.sum D.cnt (strL D.name) Mq mq dq
  have ho := bkL_one D.bank D.size D.sum D.cnt (strL D.name) Mq mq dq
  have hs0 := bkL_len 0 0 zeroH 0 ⟨#[]⟩ none 0 0
  have n2 : Nw w w2 := inferInstance
  obtain ⟨EI, hEI⟩ : ∃ EI : Int, EI = (E : Int) := ⟨_, rfl⟩
  rw [← hEI]
  by_cases e0 : E = 0
  · have eD : (EI != 0) = false := by simp; omega
    have HR4 := Lib.hid (HR3.out.trans (if_neg (fun h => h e0)))
    clear HR3 hEI e0
    by_cases c1 : 2000 < m
    · have c1I : 2000 < (m : Int) := by omega
      have HX := Lib.hid (HR4.out.trans (if_pos c1))
      clear HR4
      go_wp2_with (first | ((with_reducible apply wpl_storerow); (exact rfl); (exact rfl); infer_instance; infer_instance; (exact hq); (exact hs0); (exact ho); intro wq _ hbq) | ((with_reducible apply (wpl_alloc (dst := some 5))); intro zq wzq _ _ _) | ((with_reducible apply wpl_alloc); intro z wz _ _ _) | ((with_reducible apply wpl_loadrow); (exact rfl); infer_instance; infer_instance; (first | (with_reducible assumption) | (with_reducible exact H32.size _) | kernel_rfl)) | ((with_reducible apply wpl_loadcellN); (exact rfl); infer_instance; (exact rfl)) | ((with_reducible apply wpl_storerow); (exact rfl); (exact rfl); infer_instance; infer_instance; (first | (with_reducible assumption) | (with_reducible exact H32.size _) | kernel_rfl); (first | (with_reducible assumption) | (with_reducible exact H32.size _) | kernel_rfl); (first | (with_reducible exact u8s_one _) | (with_reducible assumption) | kernel_rfl); intro ws _ _) | ((with_reducible apply wpl_storecell); (exact rfl); (exact rfl); infer_instance; (exact rfl); (first | (with_reducible assumption) | omega | (focus (simp; done)) | (focus (simp; omega; done)) | decide); intro ws _ _))
      go_ret
      rw [HX.out]
      exact ⟨rfl, Lib.hid (HF2.out.calm (stepN (w0 := w2)).chg), chg_two stepN⟩
    · have c1I : ¬ 2000 < (m : Int) := by omega
      have HX := Lib.hid (HR4.out.trans (if_neg c1))
      have hk0 : 36 < (bkL D.bank D.size D.sum D.cnt (strL D.name) Mq mq dq).toArray.size := by rw [hq]; decide
      obtain ⟨ec, hec⟩ : ∃ ec, ec = BSt.enc { D with mind := mind } := ⟨_, rfl⟩
      have hecl : ec.length ≤ 3000000 := by
        rw [hec]
        have h1 := HBL2.out
        have h2 := HM.out
        have h3 := enc_size (s := { D with mind := mind }) (by show D.name.length ≤ 1000000; omega) (by show mind.length ≤ 1000000; omega)
        have h4 : ({ D with mind := mind } : BSt).name.length = D.name.length := rfl
        have h5 : ({ D with mind := mind } : BSt).mind.length = mind.length := rfl
        omega
      rw [← hec] at HX
      have HEC := Lib.hid hec
      clear HR4 hec
      go_wp2_with (first | ((with_reducible apply wpl_storerow); (exact rfl); (exact rfl); infer_instance; infer_instance; (exact hq); (exact hs0); (exact ho); intro wq _ hbq) | ((with_reducible apply (wpl_storecell (k := 36) (v := .slice M m d))); (exact rfl); (exact rfl); (exact hbq); (exact rfl); (exact hk0); intro wz _ hbz; have hbz2 : HB wz zq 54 (bkL D.bank D.size D.sum D.cnt (strL D.name) M m d).toArray := ⟨(bk_set36 _ _ _ _ _ _ _ _ _ _ _) ▸ hbz.out⟩) | ((with_reducible apply wpl_loadrow); (exact rfl); (exact hbz2); infer_instance; (exact bkL_len _ _ _ _ _ _ _ _)) | ((with_reducible apply (wpl_alloc (dst := some 5))); intro zq wzq _ _ _) | ((with_reducible apply wpl_alloc); intro z wz _ _ _) | ((with_reducible apply wpl_loadrow); (exact rfl); infer_instance; infer_instance; (first | (with_reducible assumption) | (with_reducible exact H32.size _) | kernel_rfl)) | ((with_reducible apply wpl_loadcellN); (exact rfl); infer_instance; (exact rfl)) | ((with_reducible apply wpl_storerow); (exact rfl); (exact rfl); infer_instance; infer_instance; (first | (with_reducible assumption) | (with_reducible exact H32.size _) | kernel_rfl); (first | (with_reducible assumption) | (with_reducible exact H32.size _) | kernel_rfl); (first | (with_reducible exact u8s_one _) | (with_reducible assumption) | kernel_rfl); intro ws _ _) | ((with_reducible apply wpl_storecell); (exact rfl); (exact rfl); infer_instance; (exact rfl); (first | (with_reducible assumption) | omega | (focus (simp; done)) | (focus (simp; omega; done)) | decide); intro ws _ _))
      have nz : Nw w wz := inferInstance
      have HFz : Hid (FlashAt wz g p N s) := Lib.hid (HF2.out.calm (stepN (w0 := w2) (w := wz)).chg)
      have hMz : HR wz M (bs mind) := ⟨HMR.out.later nz.out⟩
      refine (bkEncode_calls { D with mind := mind } HM.out (by omega) (by have := HBL2.out; show D.name.length ≤ 1000000; omega)).mono ?_
      rw [← HEC.out]
      rintro e w6 ⟨A6, n6, c6, rfl, hl6, hc6, hA6, hnA6, s6⟩
      have HF6 : Hid (FlashAt w6 g p N s) := Lib.hid (HFz.out.calm s6.chg)
      have hr6 : HR w6 A6 (bs ec) := inferInstance
      have HL6 := Lib.hid hl6
      have n6 : Nw w w6 := inferInstance
      clear hl6
      go_wp2_with (first | ((with_reducible apply wpl_alloc); intro z wz _ _ _) | ((with_reducible apply wpl_loadrow); (exact rfl); infer_instance; infer_instance; (first | (with_reducible assumption) | (with_reducible exact H32.size _) | kernel_rfl)) | ((with_reducible apply wpl_loadcellN); (exact rfl); infer_instance; (exact rfl)) | ((with_reducible apply wpl_storerow); (exact rfl); (exact rfl); infer_instance; infer_instance; (first | (with_reducible assumption) | (with_reducible exact H32.size _) | kernel_rfl); (first | (with_reducible assumption) | (with_reducible exact H32.size _) | kernel_rfl); (first | (with_reducible exact u8s_one _) | (with_reducible assumption) | kernel_rfl); intro ws _ _) | ((with_reducible apply wpl_storecell); (exact rfl); (exact rfl); infer_instance; (exact rfl); (first | (with_reducible assumption) | omega | (focus (simp; done)) | (focus (simp; omega; done)) | decide); intro ws _ _))
      refine (pSave_calls (b := ec) HF6.out HL6.out (by have := HL6.out; omega)).mono ?_
      rintro e w7 ⟨rfl, h7, s7⟩
      go_wp2_with (first | ((with_reducible apply wpl_alloc); intro z wz _ _ _) | ((with_reducible apply wpl_loadrow); (exact rfl); infer_instance; infer_instance; (first | (with_reducible assumption) | (with_reducible exact H32.size _) | kernel_rfl)) | ((with_reducible apply wpl_loadcellN); (exact rfl); infer_instance; (exact rfl)) | ((with_reducible apply wpl_storerow); (exact rfl); (exact rfl); infer_instance; infer_instance; (first | (with_reducible assumption) | (with_reducible exact H32.size _) | kernel_rfl); (first | (with_reducible assumption) | (with_reducible exact H32.size _) | kernel_rfl); (first | (with_reducible exact u8s_one _) | (with_reducible assumption) | kernel_rfl); intro ws _ _) | ((with_reducible apply wpl_storecell); (exact rfl); (exact rfl); infer_instance; (exact rfl); (first | (with_reducible assumption) | omega | (focus (simp; done)) | (focus (simp; omega; done)) | decide); intro ws _ _))
      go_ret
      rw [HX.out]
      exact ⟨rfl, h7, ⟨(n6.out.mono (fun _ _ h => h.elim)).trans s7.chg (fun _ _ h => h)⟩⟩
  · have eA : ¬ EI = 0 := by omega
    have eD : (EI != 0) = true := by simp [eA]
    have HX := Lib.hid (HR3.out.trans (if_pos e0))
    have HEI := Lib.hid hEI
    clear HR3 eA hEI e0
    go_wp2_with (first | ((with_reducible apply wpl_storerow); (exact rfl); (exact rfl); infer_instance; infer_instance; (exact hq); (exact hs0); (exact ho); intro wq _ hbq) | ((with_reducible apply (wpl_alloc (dst := some 5))); intro zq wzq _ _ _) | ((with_reducible apply wpl_alloc); intro z wz _ _ _) | ((with_reducible apply wpl_loadrow); (exact rfl); infer_instance; infer_instance; (first | (with_reducible assumption) | (with_reducible exact H32.size _) | kernel_rfl)) | ((with_reducible apply wpl_loadcellN); (exact rfl); infer_instance; (exact rfl)) | ((with_reducible apply wpl_storerow); (exact rfl); (exact rfl); infer_instance; infer_instance; (first | (with_reducible assumption) | (with_reducible exact H32.size _) | kernel_rfl); (first | (with_reducible assumption) | (with_reducible exact H32.size _) | kernel_rfl); (first | (with_reducible exact u8s_one _) | (with_reducible assumption) | kernel_rfl); intro ws _ _) | ((with_reducible apply wpl_storecell); (exact rfl); (exact rfl); infer_instance; (exact rfl); (first | (with_reducible assumption) | omega | (focus (simp; done)) | (focus (simp; omega; done)) | decide); intro ws _ _))
    go_ret
    rw [HX.out, HEI.out]
    exact ⟨rfl, Lib.hid (HF2.out.calm (stepN (w0 := w2)).chg), chg_two stepN⟩
end Go.Proofs.Ytegdihpnefoolaa
