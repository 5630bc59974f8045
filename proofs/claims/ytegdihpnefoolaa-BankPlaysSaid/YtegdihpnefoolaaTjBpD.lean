/- BpD -/
import Derived.Test.YtegdihpnefoolaaTjBpC
import Derived.Test.YtegdihpnefoolaaTjBkH
import Derived.Test.YtegdihpnefoolaaTjSlU
open Go Go.RowKit
namespace Go.Proofs.Ytegdihpnefoolaa
theorem boot_why {N : Nat} {s : FS} : (bootS N s).2.2 = 1 ↔ N < 96 := by
  unfold bootS
  by_cases h : N < 96
  · rw [if_pos h]
    exact ⟨fun _ => h, fun _ => rfl⟩
  · rw [if_neg h]
    refine ⟨fun e => ?_, fun e => absurd e h⟩
    exfalso
    split at e
    · cases e
    · split at e
      · split at e
        · cases e
        · cases e
      · cases e
set_option maxRecDepth 100000 in
set_option maxHeartbeats 6400000 in
theorem rbInstall_calls {x N : Nat} {T : Nat → Prop} {s : FS} {r0 : RFS} {w : World} (hX : RF w x T r0) (hR : Rel s r0 N) (ok : s.ok N) (hT : ∀ k, T k → k < w.heap.size) {I M : Option Addr} {n c m d : Nat} {img mind nm : List UInt8} (cnt : Int) [hI : HR w I (bs img)] (hn : img.length = n) (hnc : n ≤ c) (hn9 : n ≤ 9223372036854775807) (hIa : Apart T I (bs img)) [hM : HR w M (bs mind)] (hm : mind.length = m) (hm9 : m ≤ 9223372036854775807) (hMa : Apart T M (bs mind)) (hnm9 : nm.length ≤ 9223372036854775807) :
    Calls Try.prog 31 #[.pointer (some ⟨x, 0, none⟩), .string (strL nm), .slice I n c, .int .i64 cnt, .slice M m d] w fun e w' => e = .returned (.int .i64 ((instS N s nm img cnt mind).1 : Int)) ∧ Hid (∃ r', RF w' x T r' ∧ Rel (instS N s nm img cnt mind).2 r' N) ∧ Step T w w' := by
  have HF := Lib.hid hX
  have HRL := Lib.hid hR
  have HOK := Lib.hid ok
  have HT := Lib.hid hT
  have hoffE := hR.off
  have hN9 := ok.most
  obtain ⟨r, hr⟩ : ∃ r, r = instS N s nm img cnt mind := ⟨_, rfl⟩
  have hr2 := hr
  unfold instS at hr2
  rw [hn, hm] at hr2
  rw [← hr]
  obtain ⟨Bq, hBq⟩ : ∃ Bq, Bq = bootS N s := ⟨_, rfl⟩
  have hbd0 : Bq.2.2 = 0 → Bq.1.bank < 2 := fun h => by rw [hBq] at h ⊢; exact (boot_facts h).1
  have hwhy : Bq.2.2 = 1 ↔ N < 96 := by rw [hBq]; exact boot_why
  have HBQ := Lib.hid hBq
  rw [← hBq] at hr2
  obtain ⟨ns, hns⟩ : ∃ ns : Nat, ((strL nm).size : Int) = (ns : Int) ∧ nm.length = ns := ⟨nm.length, by
    constructor
    · show ((nm.toArray.size : Nat) : Int) = _
      rw [List.size_toArray]
    · rfl⟩
  rw [hns.2] at hr2
  have hnsz := hns.1
  have hns9 : ns ≤ 9223372036854775807 := by rw [← hns.2]; exact hnm9
  have hnl : nm.length = ns := hns.2
  have HNL := Lib.hid hnl
  have HR2 := Lib.hid hr2
  have HN := Lib.hid hn
  have HM := Lib.hid hm
  have HIR := Lib.hid hI.out
  have HMR := Lib.hid hM.out
  have oI : OffR T I (bs img) := ⟨hIa⟩
  have oM : OffR T M (bs mind) := ⟨hMa⟩
  have HIA := Lib.hid hIa
  obtain ⟨E, hE⟩ : ∃ E, E = Bq.2.2 := ⟨_, rfl⟩
  obtain ⟨Ec, hEc⟩ : ∃ Ec, Ec = Bq.1.cnt := ⟨_, rfl⟩
  obtain ⟨Eb, hEb⟩ : ∃ Eb, Eb = Bq.1.bank := ⟨_, rfl⟩
  have hb2 : E = 0 → Eb < 2 := by rw [hE, hEb]; exact hbd0
  rw [← hE] at hwhy
  have HEc := Lib.hid hEc
  have HEb := Lib.hid hEb
  have HE := Lib.hid hE
  have HB2 := Lib.hid hb2
  have HWHY := Lib.hid hwhy
  clear hX hR ok hT hr hr2 hBq hns hn hm hIa hMa hnl hnm9 hb2 hbd0 hE hEc hEb hwhy
  go_enter Try.func31, Try.ntmps31
  go_wp2_with (first | go_skip | ((with_reducible apply wpl_alloc); intro z wz _ _ _) | ((with_reducible apply (wpl_guard (op := .load _ _))); (exact rfl)) | ((with_reducible apply (wpl_guard (op := .fieldAddr _ _ _))); (exact rfl)) | ((with_reducible apply wpl_loadrow); (exact rfl); infer_instance; infer_instance; (first | (with_reducible assumption) | (with_reducible exact H32.size _) | kernel_rfl)) | ((with_reducible apply wpl_loadcellN); (exact rfl); infer_instance; (exact rfl)) | ((with_reducible apply wpl_storerow); (exact rfl); (exact rfl); infer_instance; infer_instance; (first | (with_reducible assumption) | (with_reducible exact H32.size _) | kernel_rfl); (first | (with_reducible assumption) | (with_reducible exact H32.size _) | kernel_rfl); (first | (with_reducible exact u8s_one _) | (with_reducible assumption) | kernel_rfl); intro ws _ _) | ((with_reducible apply wpl_storecell); (exact rfl); (exact rfl); infer_instance; (exact rfl); (first | (with_reducible assumption) | omega | (focus (simp; done)) | (focus (simp; omega; done)) | decide); intro ws _ _))
  refine (rbBoot_calls HF.out HRL.out HOK.out).mono ?_
  rw [← HBQ.out]
  unfold BootQ
  rw [← HE.out, ← HEc.out, ← HEb.out]
  rintro e w2 ⟨Mq, mq, dq, Iq, nq, cq, rfl, _, _, _, _, _, _, _, _, _⟩
  have hq := bkL_len Eb Bq.1.size Bq.1.sum Ec (strL Bq.1.name) Mq mq dq
  have ho := bkL_one Eb Bq.1.size Bq.1.sum Ec (strL Bq.1.name) Mq mq dq
  have hs0 := bkL_len 0 0 zeroH 0 ⟨#[]⟩ none 0 0
  have n2 : Nw w w2 := inferInstance
  have hI2 : HR w2 I (bs img) := ⟨HIR.out.later n2.out⟩
  have hbx : ∃ A0 k0 c0, HB w2 x 63 #[.slice A0 k0 c0, .int .i64 r0.left, .int .i64 r0.tear, .bool s.dead] := by
    obtain ⟨A0, k0, c0, rows, h1, _⟩ := HF.out.calm n2.out
    exact ⟨A0, k0, c0, ⟨by rw [← hoffE]; exact h1.head⟩⟩
  obtain ⟨A0, k0, c0, hbx⟩ := hbx
  have HNO : Hid (∀ w2, Step nowhere w w2 → Hid (∃ r', RF w2 x T r' ∧ Rel s r' N) ∧ Step T w w2) := Lib.hid fun w2 st => ⟨Lib.hid ⟨r0, HF.out.calm st.chg, HRL.out⟩, ⟨st.chg.mono (fun _ _ h => h.elim)⟩⟩
  obtain ⟨EI, hEI⟩ : ∃ EI : Int, EI = (E : Int) := ⟨_, rfl⟩
  rw [← hEI]
  clear hoffE
  by_cases hN : N < 96
  · have e1 : E = 1 := HWHY.out.2 hN
    have e1I : (EI == 1) = true := by simp; omega
    have HX : Hid (r = (1, s)) := Lib.hid (by rw [HR2.out, if_pos hN])
    clear HR2 hEI e1
    go_wp2_with (first | go_skip | ((with_reducible apply wpl_storerow); (exact rfl); (exact rfl); infer_instance; infer_instance; (exact hq); (exact hs0); (exact ho); intro wq _ hbq) | ((with_reducible apply (wpl_alloc (dst := some 11))); intro zq wzq _ _ _) | ((with_reducible apply wpl_alloc); intro z wz _ _ _) | ((with_reducible apply (wpl_guard (op := .load _ _))); (exact rfl)) | ((with_reducible apply (wpl_guard (op := .fieldAddr _ _ _))); (exact rfl)) | ((with_reducible apply wpl_loadrow); (exact rfl); infer_instance; infer_instance; (first | (with_reducible assumption) | (with_reducible exact H32.size _) | kernel_rfl)) | ((with_reducible apply wpl_loadcellN); (exact rfl); infer_instance; (exact rfl)) | ((with_reducible apply wpl_storerow); (exact rfl); (exact rfl); infer_instance; infer_instance; (first | (with_reducible assumption) | (with_reducible exact H32.size _) | kernel_rfl); (first | (with_reducible assumption) | (with_reducible exact H32.size _) | kernel_rfl); (first | (with_reducible exact u8s_one _) | (with_reducible assumption) | kernel_rfl); intro ws _ _) | ((with_reducible apply wpl_storecell); (exact rfl); (exact rfl); infer_instance; (exact rfl); (first | (with_reducible assumption) | omega | (focus (simp; done)) | (focus (simp; omega; done)) | decide); intro ws _ _))
    go_ret
    rw [HX.out]
    exact ⟨rfl, HNO.out _ stepN⟩
  have e1I : (EI == 1) = false := by
    have h : ¬ E = 1 := fun h => hN (HWHY.out.1 h)
    simp; omega
  have HR3 := Lib.hid (HR2.out.trans (if_neg hN))
  clear HR2
  have HEI := Lib.hid hEI
  clear hEI
  rcases hd : s.dead with _ | _
  case true =>
    rw [hd] at hbx
    have HX : Hid (r = (11, s)) := Lib.hid (by rw [HR3.out, if_pos hd])
    clear HR3
    go_wp2_with (first | go_skip | ((with_reducible apply wpl_storerow); (exact rfl); (exact rfl); infer_instance; infer_instance; (exact hq); (exact hs0); (exact ho); intro wq _ hbq) | ((with_reducible apply (wpl_alloc (dst := some 11))); intro zq wzq _ _ _) | ((with_reducible apply wpl_alloc); intro z wz _ _ _) | ((with_reducible apply (wpl_guard (op := .load _ _))); (exact rfl)) | ((with_reducible apply (wpl_guard (op := .fieldAddr _ _ _))); (exact rfl)) | ((with_reducible apply wpl_loadrow); (exact rfl); infer_instance; infer_instance; (first | (with_reducible assumption) | (with_reducible exact H32.size _) | kernel_rfl)) | ((with_reducible apply wpl_loadcellN); (exact rfl); infer_instance; (exact rfl)) | ((with_reducible apply wpl_storerow); (exact rfl); (exact rfl); infer_instance; infer_instance; (first | (with_reducible assumption) | (with_reducible exact H32.size _) | kernel_rfl); (first | (with_reducible assumption) | (with_reducible exact H32.size _) | kernel_rfl); (first | (with_reducible exact u8s_one _) | (with_reducible assumption) | kernel_rfl); intro ws _ _) | ((with_reducible apply wpl_storecell); (exact rfl); (exact rfl); infer_instance; (exact rfl); (first | (with_reducible assumption) | omega | (focus (simp; done)) | (focus (simp; omega; done)) | decide); intro ws _ _))
    go_ret
    rw [HX.out]
    exact ⟨rfl, HNO.out _ stepN⟩
  rw [hd] at hbx
  have HR4 := Lib.hid (HR3.out.trans (if_neg (by rw [hd]; decide)))
  clear HR3
  by_cases c1 : 512 < n
  · have c1I : 512 < (n : Int) := by omega
    have HX : Hid (r = (10, s)) := Lib.hid (by rw [HR4.out, if_pos (.inl c1)])
    clear HR4
    go_wp2_with (first | go_skip | ((with_reducible apply wpl_storerow); (exact rfl); (exact rfl); infer_instance; infer_instance; (exact hq); (exact hs0); (exact ho); intro wq _ hbq) | ((with_reducible apply (wpl_alloc (dst := some 11))); intro zq wzq _ _ _) | ((with_reducible apply wpl_alloc); intro z wz _ _ _) | ((with_reducible apply (wpl_guard (op := .load _ _))); (exact rfl)) | ((with_reducible apply (wpl_guard (op := .fieldAddr _ _ _))); (exact rfl)) | ((with_reducible apply wpl_loadrow); (exact rfl); infer_instance; infer_instance; (first | (with_reducible assumption) | (with_reducible exact H32.size _) | kernel_rfl)) | ((with_reducible apply wpl_loadcellN); (exact rfl); infer_instance; (exact rfl)) | ((with_reducible apply wpl_storerow); (exact rfl); (exact rfl); infer_instance; infer_instance; (first | (with_reducible assumption) | (with_reducible exact H32.size _) | kernel_rfl); (first | (with_reducible assumption) | (with_reducible exact H32.size _) | kernel_rfl); (first | (with_reducible exact u8s_one _) | (with_reducible assumption) | kernel_rfl); intro ws _ _) | ((with_reducible apply wpl_storecell); (exact rfl); (exact rfl); infer_instance; (exact rfl); (first | (with_reducible assumption) | omega | (focus (simp; done)) | (focus (simp; omega; done)) | decide); intro ws _ _))
    go_ret
    rw [HX.out]
    exact ⟨rfl, HNO.out _ stepN⟩
  have c1I : ¬ 512 < (n : Int) := by omega
  by_cases c2 : 12 < ns
  · have c2I : 12 < (ns : Int) := by omega
    have HX : Hid (r = (10, s)) := Lib.hid (by rw [HR4.out, if_pos (.inr (.inl c2))])
    clear HR4
    go_wp2_with (first | go_skip | ((with_reducible apply wpl_storerow); (exact rfl); (exact rfl); infer_instance; infer_instance; (exact hq); (exact hs0); (exact ho); intro wq _ hbq) | ((with_reducible apply (wpl_alloc (dst := some 11))); intro zq wzq _ _ _) | ((with_reducible apply wpl_alloc); intro z wz _ _ _) | ((with_reducible apply (wpl_guard (op := .load _ _))); (exact rfl)) | ((with_reducible apply (wpl_guard (op := .fieldAddr _ _ _))); (exact rfl)) | ((with_reducible apply wpl_loadrow); (exact rfl); infer_instance; infer_instance; (first | (with_reducible assumption) | (with_reducible exact H32.size _) | kernel_rfl)) | ((with_reducible apply wpl_loadcellN); (exact rfl); infer_instance; (exact rfl)) | ((with_reducible apply wpl_storerow); (exact rfl); (exact rfl); infer_instance; infer_instance; (first | (with_reducible assumption) | (with_reducible exact H32.size _) | kernel_rfl); (first | (with_reducible assumption) | (with_reducible exact H32.size _) | kernel_rfl); (first | (with_reducible exact u8s_one _) | (with_reducible assumption) | kernel_rfl); intro ws _ _) | ((with_reducible apply wpl_storecell); (exact rfl); (exact rfl); infer_instance; (exact rfl); (first | (with_reducible assumption) | omega | (focus (simp; done)) | (focus (simp; omega; done)) | decide); intro ws _ _))
    go_ret
    rw [HX.out]
    exact ⟨rfl, HNO.out _ stepN⟩
  have c2I : ¬ 12 < (ns : Int) := by omega
  by_cases c3 : 2000 < m
  · have c3I : 2000 < (m : Int) := by omega
    have HX : Hid (r = (10, s)) := Lib.hid (by rw [HR4.out, if_pos (.inr (.inr c3))])
    clear HR4
    go_wp2_with (first | go_skip | ((with_reducible apply wpl_storerow); (exact rfl); (exact rfl); infer_instance; infer_instance; (exact hq); (exact hs0); (exact ho); intro wq _ hbq) | ((with_reducible apply (wpl_alloc (dst := some 11))); intro zq wzq _ _ _) | ((with_reducible apply wpl_alloc); intro z wz _ _ _) | ((with_reducible apply (wpl_guard (op := .load _ _))); (exact rfl)) | ((with_reducible apply (wpl_guard (op := .fieldAddr _ _ _))); (exact rfl)) | ((with_reducible apply wpl_loadrow); (exact rfl); infer_instance; infer_instance; (first | (with_reducible assumption) | (with_reducible exact H32.size _) | kernel_rfl)) | ((with_reducible apply wpl_loadcellN); (exact rfl); infer_instance; (exact rfl)) | ((with_reducible apply wpl_storerow); (exact rfl); (exact rfl); infer_instance; infer_instance; (first | (with_reducible assumption) | (with_reducible exact H32.size _) | kernel_rfl); (first | (with_reducible assumption) | (with_reducible exact H32.size _) | kernel_rfl); (first | (with_reducible exact u8s_one _) | (with_reducible assumption) | kernel_rfl); intro ws _ _) | ((with_reducible apply wpl_storecell); (exact rfl); (exact rfl); infer_instance; (exact rfl); (first | (with_reducible assumption) | omega | (focus (simp; done)) | (focus (simp; omega; done)) | decide); intro ws _ _))
    go_ret
    rw [HX.out]
    exact ⟨rfl, HNO.out _ stepN⟩
  have c3I : ¬ 2000 < (m : Int) := by omega
  have HR5 := Lib.hid (HR4.out.trans (if_neg (by omega)))
  clear HR4
  by_cases c4 : cnt < 0
  · have HX : Hid (r = (1, s)) := Lib.hid (by rw [HR5.out, if_pos (.inl c4)])
    clear HR5
    go_wp2_with (first | go_skip | ((with_reducible apply wpl_storerow); (exact rfl); (exact rfl); infer_instance; infer_instance; (exact hq); (exact hs0); (exact ho); intro wq _ hbq) | ((with_reducible apply (wpl_alloc (dst := some 11))); intro zq wzq _ _ _) | ((with_reducible apply wpl_alloc); intro z wz _ _ _) | ((with_reducible apply (wpl_guard (op := .load _ _))); (exact rfl)) | ((with_reducible apply (wpl_guard (op := .fieldAddr _ _ _))); (exact rfl)) | ((with_reducible apply wpl_loadrow); (exact rfl); infer_instance; infer_instance; (first | (with_reducible assumption) | (with_reducible exact H32.size _) | kernel_rfl)) | ((with_reducible apply wpl_loadcellN); (exact rfl); infer_instance; (exact rfl)) | ((with_reducible apply wpl_storerow); (exact rfl); (exact rfl); infer_instance; infer_instance; (first | (with_reducible assumption) | (with_reducible exact H32.size _) | kernel_rfl); (first | (with_reducible assumption) | (with_reducible exact H32.size _) | kernel_rfl); (first | (with_reducible exact u8s_one _) | (with_reducible assumption) | kernel_rfl); intro ws _ _) | ((with_reducible apply wpl_storecell); (exact rfl); (exact rfl); infer_instance; (exact rfl); (first | (with_reducible assumption) | omega | (focus (simp; done)) | (focus (simp; omega; done)) | decide); intro ws _ _))
    go_ret
    rw [HX.out]
    exact ⟨rfl, HNO.out _ stepN⟩
  by_cases c5 : 1073741824 < cnt
  · have HX : Hid (r = (1, s)) := Lib.hid (by rw [HR5.out, if_pos (.inr c5)])
    clear HR5
    go_wp2_with (first | go_skip | ((with_reducible apply wpl_storerow); (exact rfl); (exact rfl); infer_instance; infer_instance; (exact hq); (exact hs0); (exact ho); intro wq _ hbq) | ((with_reducible apply (wpl_alloc (dst := some 11))); intro zq wzq _ _ _) | ((with_reducible apply wpl_alloc); intro z wz _ _ _) | ((with_reducible apply (wpl_guard (op := .load _ _))); (exact rfl)) | ((with_reducible apply (wpl_guard (op := .fieldAddr _ _ _))); (exact rfl)) | ((with_reducible apply wpl_loadrow); (exact rfl); infer_instance; infer_instance; (first | (with_reducible assumption) | (with_reducible exact H32.size _) | kernel_rfl)) | ((with_reducible apply wpl_loadcellN); (exact rfl); infer_instance; (exact rfl)) | ((with_reducible apply wpl_storerow); (exact rfl); (exact rfl); infer_instance; infer_instance; (first | (with_reducible assumption) | (with_reducible exact H32.size _) | kernel_rfl); (first | (with_reducible assumption) | (with_reducible exact H32.size _) | kernel_rfl); (first | (with_reducible exact u8s_one _) | (with_reducible assumption) | kernel_rfl); intro ws _ _) | ((with_reducible apply wpl_storecell); (exact rfl); (exact rfl); infer_instance; (exact rfl); (first | (with_reducible assumption) | omega | (focus (simp; done)) | (focus (simp; omega; done)) | decide); intro ws _ _))
    go_ret
    rw [HX.out]
    exact ⟨rfl, HNO.out _ stepN⟩
  have HR6 := Lib.hid (HR5.out.trans (if_neg (by omega)))
  clear HR5
  obtain ⟨cn, rfl⟩ : ∃ cn : Nat, cnt = (cn : Int) := ⟨cnt.toNat, by omega⟩
  obtain ⟨S, hS⟩ : ∃ S : H32, S = ⟨sha img, sha_len _⟩ := ⟨_, rfl⟩
  have hSl : S.l = sha img := by rw [hS]
  have hnb : nextBank N s = if E = 0 then 1 - Eb else 0 := by rw [nextBank, ← HBQ.out, ← HE.out, ← HEb.out]
  have hns : nextSt N s nm img (cn : Int) mind = ⟨nextBank N s, n, S, cn, nm, mind⟩ := by
    rw [nextSt, ← hS, HN.out]
    rfl
  have hr6 := HR6.out
  rw [hns, hnb, ← HE.out, ← HEc.out] at hr6
  have HSL := Lib.hid hSl
  have HR7 := Lib.hid hr6
  have kbs := run_bkR (n : Int) (cn : Int) S (strL nm) M m d
  have hs1 := bkL_len 0 n S cn (strL nm) M m d
  have ho1 := bkL_one 0 n S cn (strL nm) M m d
  clear hS hSl hnb hns hr6 HR6
  by_cases e1 : E ≠ 0 ∧ E ≠ 9
  · have eA : ¬ EI = 0 := by have := HEI.out; omega
    have eB : ¬ EI = 9 := by have := HEI.out; omega
    have e0b : (EI == 0) = false := by simp [eA]
    have eC : (EI != 0) = true := by simp [eA]
    have eD : (EI != 9) = true := by simp [eB]
    have HX : Hid (r = (E, s)) := Lib.hid (by rw [HR7.out, if_pos e1])
    clear HR7 eA eB e1
    go_wp2_with (first | go_skip | ((with_reducible apply wpl_storerow); (exact rfl); (exact rfl); infer_instance; infer_instance; (exact hq); (exact hs0); (exact ho); intro wq _ hbq) | ((with_reducible apply (wpl_alloc (dst := some 11))); intro zq wzq _ _ _) | ((with_reducible apply wpl_alloc); intro z wz _ _ _) | ((with_reducible apply (wpl_guard (op := .load _ _))); (exact rfl)) | ((with_reducible apply (wpl_guard (op := .fieldAddr _ _ _))); (exact rfl)) | ((with_reducible apply wpl_loadrow); (exact rfl); infer_instance; infer_instance; (first | (with_reducible assumption) | (with_reducible exact H32.size _) | kernel_rfl)) | ((with_reducible apply wpl_loadcellN); (exact rfl); infer_instance; (exact rfl)) | ((with_reducible apply wpl_storerow); (exact rfl); (exact rfl); infer_instance; infer_instance; (first | (with_reducible assumption) | (with_reducible exact H32.size _) | kernel_rfl); (first | (with_reducible assumption) | (with_reducible exact H32.size _) | kernel_rfl); (first | (with_reducible exact u8s_one _) | (with_reducible assumption) | kernel_rfl); intro ws _ _) | ((with_reducible apply wpl_storecell); (exact rfl); (exact rfl); infer_instance; (exact rfl); (first | (with_reducible assumption) | omega | (focus (simp; done)) | (focus (simp; omega; done)) | decide); intro ws _ _))
    go_ret
    rw [HX.out, HEI.out]
    exact ⟨rfl, HNO.out _ stepN⟩
  have HR8 := Lib.hid (HR7.out.trans (if_neg e1))
  clear HR7
  by_cases e0 : E = 0
  · have e0b : (EI == 0) = true := by have := HEI.out; simp; omega
    have eC : (EI != 0) = false := by have := HEI.out; simp; omega
    have hEb2 := HB2.out e0
    have HR7b : Hid (r = if (cn : Int) < (Ec : Int) then (5, s) else if (layS N s (80 + (1 - Eb) * 8) img).1 ≠ 0 then layS N s (80 + (1 - Eb) * 8) img else saveN N (layS N s (80 + (1 - Eb) * 8) img).2 (BSt.enc ⟨1 - Eb, n, S, cn, nm, mind⟩)) := Lib.hid (by
      rw [HR8.out, if_pos e0]
      by_cases h : (cn : Int) < (Ec : Int)
      · rw [if_pos h, if_pos ⟨e0, h⟩]
      · rw [if_neg h, if_neg (fun h2 => h h2.2)])
    clear HR8 e0 e1
    by_cases c6 : cn < Ec
    · have c6I : (cn : Int) < (Ec : Int) := by omega
      have HX : Hid (r = (5, s)) := Lib.hid (by rw [HR7b.out, if_pos c6I])
      clear HR7b
      go_wp2_with (first | go_skip | ((with_reducible apply wpl_storerow); (exact rfl); (exact rfl); infer_instance; infer_instance; (exact hq); (exact hs0); (exact ho); intro wq _ hbq) | ((with_reducible apply (wpl_loadcell (k := 34))); (exact rfl); (exact (inferInstance : HB wq zq 57 (bkL Eb Bq.1.size Bq.1.sum Ec (strL Bq.1.name) Mq mq dq).toArray)); (exact bk_get34 _ _ _ _ _ _ _ _)) | ((with_reducible apply (wpl_alloc (dst := some 11))); intro zq wzq _ _ _) | ((with_reducible apply wpl_alloc); intro z wz _ _ _) | ((with_reducible apply (wpl_guard (op := .load _ _))); (exact rfl)) | ((with_reducible apply (wpl_guard (op := .fieldAddr _ _ _))); (exact rfl)) | ((with_reducible apply wpl_loadrow); (exact rfl); infer_instance; infer_instance; (first | (with_reducible assumption) | (with_reducible exact H32.size _) | kernel_rfl)) | ((with_reducible apply wpl_loadcellN); (exact rfl); infer_instance; (exact rfl)) | ((with_reducible apply wpl_storerow); (exact rfl); (exact rfl); infer_instance; infer_instance; (first | (with_reducible assumption) | (with_reducible exact H32.size _) | kernel_rfl); (first | (with_reducible assumption) | (with_reducible exact H32.size _) | kernel_rfl); (first | (with_reducible exact u8s_one _) | (with_reducible assumption) | kernel_rfl); intro ws _ _) | ((with_reducible apply wpl_storecell); (exact rfl); (exact rfl); infer_instance; (exact rfl); (first | (with_reducible assumption) | omega | (focus (simp; done)) | (focus (simp; omega; done)) | decide); intro ws _ _))
      go_ret
      rw [HX.out]
      exact ⟨rfl, HNO.out _ stepN⟩
    have c6I : ¬ (cn : Int) < (Ec : Int) := by omega
    have HRA := Lib.hid (HR7b.out.trans (if_neg c6I))
    clear HR7b
    obtain ⟨NB, hNB⟩ : ∃ NB, NB = 1 - Eb := ⟨_, rfl⟩
    have hsub : (1 : Int) - (Eb : Int) = (NB : Int) := by omega
    have hNB2 : NB < 2 := by omega
    rw [← hNB] at HRA
    have hk0 : 0 < (bkL 0 n S cn (strL nm) M m d).toArray.size := by rw [hs1]; decide
    clear hNB
    go_wp2_with (first | go_skip | ((with_reducible apply wpl_storerow); (exact rfl); (exact rfl); infer_instance; infer_instance; (exact hq); (exact hs0); (exact ho); intro wq _ hbq) | ((with_reducible apply (wpl_loadcell (k := 34))); (exact rfl); (exact (inferInstance : HB wq zq 57 (bkL Eb Bq.1.size Bq.1.sum Ec (strL Bq.1.name) Mq mq dq).toArray)); (exact bk_get34 _ _ _ _ _ _ _ _)) | ((with_reducible apply (wpl_alloc (dst := some 11))); intro zq wzq _ _ _) | ((with_reducible apply wpl_alloc); intro z wz _ _ _) | ((with_reducible apply (wpl_guard (op := .load _ _))); (exact rfl)) | ((with_reducible apply (wpl_guard (op := .fieldAddr _ _ _))); (exact rfl)) | ((with_reducible apply wpl_loadrow); (exact rfl); infer_instance; infer_instance; (first | (with_reducible assumption) | (with_reducible exact H32.size _) | kernel_rfl)) | ((with_reducible apply wpl_loadcellN); (exact rfl); infer_instance; (exact rfl)) | ((with_reducible apply wpl_storerow); (exact rfl); (exact rfl); infer_instance; infer_instance; (first | (with_reducible assumption) | (with_reducible exact H32.size _) | kernel_rfl); (first | (with_reducible assumption) | (with_reducible exact H32.size _) | kernel_rfl); (first | (with_reducible exact u8s_one _) | (with_reducible assumption) | kernel_rfl); intro ws _ _) | ((with_reducible apply wpl_storecell); (exact rfl); (exact rfl); infer_instance; (exact rfl); (first | (with_reducible assumption) | omega | (focus (simp; done)) | (focus (simp; omega; done)) | decide); intro ws _ _))
    have nq' : Nw w wq := inferInstance
    have hIq : HR wq I (bs img) := ⟨HIR.out.later nq'.out⟩
    have hbq2 : HB wq zq 57 (bkL Eb Bq.1.size Bq.1.sum Ec (strL Bq.1.name) Mq mq dq).toArray := hbq
    refine (dRefSum_calls I n c img wq hIq.out HN.out (by omega)).mono ?_
    rw [← HSL.out]
    rintro e w3 ⟨rfl, hc3⟩
    have s3 : Step nowhere wq w3 := ⟨hc3.out⟩
    clear hc3
    obtain ⟨many, hmany⟩ : ∃ many, many = manyC n := ⟨_, rfl⟩
    have hmn2 : many ≤ 8 := by rw [hmany]; unfold manyC; omega
    have hquo : ((n : Int) + 64 - 1).tdiv 64 = (many : Int) := by
      rw [hmany, manyC, Int.tdiv_eq_ediv_of_nonneg (by omega)]
      omega
    have HMANY := Lib.hid hmany
    clear hmany
    go_wp2_with (first | go_skip | ((with_reducible apply (stop_dst (dst := some 80))); (try simp only [Act.put, sA, sB, sC]); ((with_reducible apply (wpl_build (dst := some 80))); (exact kbs _))) | ((with_reducible apply wpl_storerow); (exact rfl); (exact rfl); infer_instance; infer_instance; (exact hs1); (exact hs0); (exact ho1); intro wn _ hbn) | ((with_reducible apply (wpl_loadcell (k := 0))); (exact rfl); (exact (inferInstance : HB wn zq 57 (bkL Eb Bq.1.size Bq.1.sum Ec (strL Bq.1.name) Mq mq dq).toArray)); (exact bk_get0 _ _ _ _ _ _ _ _)) | ((with_reducible apply (wpl_storecell (k := 0) (v := .int .i64 (NB : Int)))); (exact rfl); (exact rfl); (exact hbn); (exact rfl); (exact hk0); intro wz _ hbz; have hzg : HB wz zn 57 (bkL NB n S cn (strL nm) M m d).toArray := ⟨(bk_set0 _ _ _ _ _ _ _ _ _) ▸ hbz.out⟩) | ((with_reducible apply (wpl_loadcell (k := 0))); (exact rfl); (exact hzg); (exact bk_get0 _ _ _ _ _ _ _ _)) | ((with_reducible apply (wpl_alloc (dst := some 14))); intro zn wzn _ _ _) | ((with_reducible apply wpl_alloc); intro z wz _ _ _) | ((with_reducible apply (wpl_guard (op := .load _ _))); (exact rfl)) | ((with_reducible apply (wpl_guard (op := .fieldAddr _ _ _))); (exact rfl)) | ((with_reducible apply wpl_loadrow); (exact rfl); infer_instance; infer_instance; (first | (with_reducible assumption) | (with_reducible exact H32.size _) | kernel_rfl)) | ((with_reducible apply wpl_loadcellN); (exact rfl); infer_instance; (exact rfl)) | ((with_reducible apply wpl_storerow); (exact rfl); (exact rfl); infer_instance; infer_instance; (first | (with_reducible assumption) | (with_reducible exact H32.size _) | kernel_rfl); (first | (with_reducible assumption) | (with_reducible exact H32.size _) | kernel_rfl); (first | (with_reducible exact u8s_one _) | (with_reducible assumption) | kernel_rfl); intro ws _ _) | ((with_reducible apply wpl_storecell); (exact rfl); (exact rfl); infer_instance; (exact rfl); (first | (with_reducible assumption) | omega | (focus (simp; done)) | (focus (simp; omega; done)) | decide); intro ws _ _))
    have nx : Nw w wz := inferInstance
    have ozn : OffB T zn := ⟨fun h => by
      have h1 := HT.out _ h
      have h2 := (inferInstance : SzLe w w3).out
      have h3 := (inferInstance : Born w3 zn).eq
      omega⟩
    have hIz : HR wz I (bs img) := ⟨HIR.out.later nx.out⟩
    have hMz : HR wz M (bs mind) := ⟨HMR.out.later nx.out⟩
    obtain ⟨L, hL⟩ : ∃ L, L = layS N s (80 + NB * 8) img := ⟨_, rfl⟩
    have hmc : manyC img.length = many := by rw [HN.out]; exact HMANY.out.symm
    have HWE : Hid (∀ k, k ≤ many → (eraseK N s (80 + NB * 8) k).1 ≠ 0 → L = eraseK N s (80 + NB * 8) k) := Lib.hid (fun k hk h => by rw [hL]; exact lay_erase (by rw [hmc]; exact hk) h)
    have HWP : Hid (∀ k, k ≤ many → (progA N (eraseK N s (80 + NB * 8) many) (80 + NB * 8) img k).1 ≠ 0 → L = progA N (eraseK N s (80 + NB * 8) many) (80 + NB * 8) img k) := Lib.hid (fun k hk h => by
      rw [hL]
      have := lay_prog (N := N) (s := s) (first := 80 + NB * 8) (k := k) (b := img) (by rw [hmc]; exact hk) (by rw [hmc]; exact h)
      rw [hmc] at this
      exact this)
    have HWF : Hid (L = progA N (eraseK N s (80 + NB * 8) many) (80 + NB * 8) img many) := Lib.hid (by rw [hL, layS, hmc])
    have HLok : Hid (L.2.ok N) := Lib.hid (by rw [hL]; exact layS_ok _ _ HOK.out)
    have HRB : Hid (r = if L.1 ≠ 0 then L else saveN N L.2 (BSt.enc ⟨NB, n, S, cn, nm, mind⟩)) := Lib.hid (by rw [HRA.out, hL])
    clear hL hmc HRA
    go_loopw [17] (fun iv wr => ∃ k : Nat, k ≤ many ∧ iv = .int .i64 (k : Int) ∧ Step T w wr ∧ HR wr I (bs img) ∧ HR wr M (bs mind) ∧ HB wr zn 57 (bkL NB n S cn (strL nm) M m d).toArray ∧ Hid ((eraseK N s (80 + NB * 8) k).1 = 0) ∧ Hid (∃ r', RF wr x T r' ∧ Rel (eraseK N s (80 + NB * 8) k).2 r' N)) (fun iv _ => many - (intOf iv).toNat)
    case atStart => exact ⟨0, Nat.zero_le _, rfl, ⟨nx.out.mono (fun _ _ h => h.elim)⟩, hIz, hMz, hzg, Lib.hid rfl, Lib.hid ⟨r0, HF.out.calm nx.out, HRL.out⟩⟩
    case round =>
      obtain ⟨k, hk, rfl, st, hIr, hMr, hzr, HE0, HFr⟩ := hrel
      by_cases hlt : k < many
      · have hltI : (k : Int) < many := by omega
        obtain ⟨q, hqq⟩ : ∃ q, q = (eraseK N s (80 + NB * 8) k).2.change N ((80 + NB * 8 + k : Nat) : Int) 64 erD := ⟨_, rfl⟩
        have hq2 : eraseK N s (80 + NB * 8) (k + 1) = q := by rw [hqq, eraseK, if_pos HE0.out]
        have HQ2 := Lib.hid hq2
        have HQ1 := Lib.hid hqq
        have okk := Lib.hid (eraseK_ok (80 + NB * 8) HOK.out k)
        clear hqq hq2
        obtain ⟨r', hRF, hRl⟩ := HFr.out
        have HRF := Lib.hid hRF
        have HRl := Lib.hid hRl
        clear hRF hRl
        go_wp2_with (first | go_skip | ((with_reducible apply wpl_alloc); intro z wz _ _ _) | ((with_reducible apply (wpl_guard (op := .load _ _))); (exact rfl)) | ((with_reducible apply (wpl_guard (op := .fieldAddr _ _ _))); (exact rfl)) | ((with_reducible apply wpl_loadrow); (exact rfl); infer_instance; infer_instance; (first | (with_reducible assumption) | (with_reducible exact H32.size _) | kernel_rfl)) | ((with_reducible apply wpl_loadcellN); (exact rfl); infer_instance; (exact rfl)) | ((with_reducible apply wpl_storerow); (exact rfl); (exact rfl); infer_instance; infer_instance; (first | (with_reducible assumption) | (with_reducible exact H32.size _) | kernel_rfl); (first | (with_reducible assumption) | (with_reducible exact H32.size _) | kernel_rfl); (first | (with_reducible exact u8s_one _) | (with_reducible assumption) | kernel_rfl); intro ws _ _) | ((with_reducible apply wpl_storecell); (exact rfl); (exact rfl); infer_instance; (exact rfl); (first | (with_reducible assumption) | omega | (focus (simp; done)) | (focus (simp; omega; done)) | decide); intro ws _ _))
        refine (rErase_at _ (80 + NB * 8 + k) (by omega) HRF.out HRl.out okk.out).mono ?_
        rw [← HQ1.out]
        rintro e w5 ⟨rfl, H5, s5⟩
        have sw5 : Step T w w5 := ⟨st.chg.trans s5.chg (fun _ _ h => h)⟩
        by_cases hz0 : q.1 = 0
        · have e1 : ((q.1 : Int) != 0) = false := by simp [hz0]
          have HZ0 := Lib.hid hz0
          clear hz0
          go_wp2_with (first | go_skip | ((with_reducible apply wpl_alloc); intro z wz _ _ _) | ((with_reducible apply (wpl_guard (op := .load _ _))); (exact rfl)) | ((with_reducible apply (wpl_guard (op := .fieldAddr _ _ _))); (exact rfl)) | ((with_reducible apply wpl_loadrow); (exact rfl); infer_instance; infer_instance; (first | (with_reducible assumption) | (with_reducible exact H32.size _) | kernel_rfl)) | ((with_reducible apply wpl_loadcellN); (exact rfl); infer_instance; (exact rfl)) | ((with_reducible apply wpl_storerow); (exact rfl); (exact rfl); infer_instance; infer_instance; (first | (with_reducible assumption) | (with_reducible exact H32.size _) | kernel_rfl); (first | (with_reducible assumption) | (with_reducible exact H32.size _) | kernel_rfl); (first | (with_reducible exact u8s_one _) | (with_reducible assumption) | kernel_rfl); intro ws _ _) | ((with_reducible apply wpl_storecell); (exact rfl); (exact rfl); infer_instance; (exact rfl); (first | (with_reducible assumption) | omega | (focus (simp; done)) | (focus (simp; omega; done)) | decide); intro ws _ _))
          exact ⟨⟨k + 1, by omega, by go_num, sw5, inferInstance, inferInstance, inferInstance, Lib.hid (by rw [HQ2.out]; exact HZ0.out), Lib.hid (by rw [HQ2.out]; exact H5.out)⟩, by simp [intOf]; omega⟩
        · have e1 : ((q.1 : Int) != 0) = true := by simp [hz0]
          have hwr : r = q := by
            have h := HWE.out (k + 1) (by omega) (by rw [HQ2.out]; exact hz0)
            rw [HQ2.out] at h
            rw [HRB.out, h, if_pos hz0]
          have HWR := Lib.hid hwr
          clear hz0 hwr
          go_wp2_with (first | go_skip | ((with_reducible apply wpl_alloc); intro z wz _ _ _) | ((with_reducible apply (wpl_guard (op := .load _ _))); (exact rfl)) | ((with_reducible apply (wpl_guard (op := .fieldAddr _ _ _))); (exact rfl)) | ((with_reducible apply wpl_loadrow); (exact rfl); infer_instance; infer_instance; (first | (with_reducible assumption) | (with_reducible exact H32.size _) | kernel_rfl)) | ((with_reducible apply wpl_loadcellN); (exact rfl); infer_instance; (exact rfl)) | ((with_reducible apply wpl_storerow); (exact rfl); (exact rfl); infer_instance; infer_instance; (first | (with_reducible assumption) | (with_reducible exact H32.size _) | kernel_rfl); (first | (with_reducible assumption) | (with_reducible exact H32.size _) | kernel_rfl); (first | (with_reducible exact u8s_one _) | (with_reducible assumption) | kernel_rfl); intro ws _ _) | ((with_reducible apply wpl_storecell); (exact rfl); (exact rfl); infer_instance; (exact rfl); (first | (with_reducible assumption) | omega | (focus (simp; done)) | (focus (simp; omega; done)) | decide); intro ws _ _))
          go_ret
          rw [HWR.out]
          exact ⟨rfl, H5.out, sw5⟩
      · have hltI : ¬ (k : Int) < many := by omega
        obtain rfl : k = many := by omega
        obtain ⟨G, hG⟩ : ∃ G, G = eraseK N s (80 + NB * 8) k := ⟨_, rfl⟩
        have HWP2 : Hid (∀ j, j ≤ k → (progA N G (80 + NB * 8) img j).1 ≠ 0 → L = progA N G (80 + NB * 8) img j) := Lib.hid (by rw [hG]; exact HWP.out)
        have HWF2 : Hid (L = progA N G (80 + NB * 8) img k) := Lib.hid (by rw [hG]; exact HWF.out)
        have HGok : Hid (G.2.ok N) := Lib.hid (by rw [hG]; exact eraseK_ok (80 + NB * 8) HOK.out k)
        rw [← hG] at HE0 HFr
        clear hG HWE HWP HWF
        go_wp2_with (first | go_skip | ((with_reducible apply wpl_alloc); intro z wz _ _ _) | ((with_reducible apply (wpl_guard (op := .load _ _))); (exact rfl)) | ((with_reducible apply (wpl_guard (op := .fieldAddr _ _ _))); (exact rfl)) | ((with_reducible apply wpl_loadrow); (exact rfl); infer_instance; infer_instance; (first | (with_reducible assumption) | (with_reducible exact H32.size _) | kernel_rfl)) | ((with_reducible apply wpl_loadcellN); (exact rfl); infer_instance; (exact rfl)) | ((with_reducible apply wpl_storerow); (exact rfl); (exact rfl); infer_instance; infer_instance; (first | (with_reducible assumption) | (with_reducible exact H32.size _) | kernel_rfl); (first | (with_reducible assumption) | (with_reducible exact H32.size _) | kernel_rfl); (first | (with_reducible exact u8s_one _) | (with_reducible assumption) | kernel_rfl); intro ws _ _) | ((with_reducible apply wpl_storecell); (exact rfl); (exact rfl); infer_instance; (exact rfl); (first | (with_reducible assumption) | omega | (focus (simp; done)) | (focus (simp; omega; done)) | decide); intro ws _ _))
        go_loopw [19] (fun iv wt => ∃ j : Nat, j ≤ k ∧ iv = .int .i64 (j : Int) ∧ Step T w wt ∧ HR wt I (bs img) ∧ HR wt M (bs mind) ∧ HB wt zn 57 (bkL NB n S cn (strL nm) M m d).toArray ∧ Hid ((progA N G (80 + NB * 8) img j).1 = 0) ∧ Hid (∃ r', RF wt x T r' ∧ Rel (progA N G (80 + NB * 8) img j).2 r' N)) (fun iv _ => k - (intOf iv).toNat)
        case atStart => exact ⟨0, Nat.zero_le _, rfl, st, hIr, hMr, hzr, HE0, HFr⟩
        case round =>
          obtain ⟨j, hj, rfl, st2, hIt, hMt, hzt, HP0, HFt⟩ := hrel
          by_cases hlt2 : j < k
          · have hlt2I : (j : Int) < (k : Int) := by omega
            have hjn : j * 64 < n := by have := HMANY.out; unfold manyC at this; omega
            obtain ⟨mm, hmm⟩ : ∃ mm : Nat, min (n : Int) (((j : Int) + 1) * 64) = (mm : Int) := ⟨min n ((j + 1) * 64), by omega⟩
            have hm1 : mm ≤ c := by omega
            have hm2 : j * 64 ≤ mm := by omega
            have hm3 : mm ≤ n := by omega
            have HMM := Lib.hid hmm
            have hrp : HR wr (cutA I (j * 64) c 1) (bs (pieceB img j)) := by
              have h := hIt.cutS HN.out hnc (j * 64)
              have h2 := h.out.take 64
              rw [bs, ← List.map_take] at h2
              rw [pieceB, Nat.mul_comm 64 j]
              exact ⟨h2⟩
            have hpl : (pieceB img j).length = mm - j * 64 := by rw [pieceB, List.length_take, List.length_drop, HN.out]; omega
            have HAP : Hid (Apart T (cutA I (j * 64) c 1) (bs (pieceB img j))) := Lib.hid (fun _ ad e h => by
              obtain ⟨ad0, e0, e1⟩ := cutS_block e
              rw [e1] at h
              exact HIA.out (fun h2 => by have h3 := congrArg List.length h2; rw [bs_length, HN.out] at h3; simp at h3; omega) ad0 e0 h)
            have HPL7 := Lib.hid hpl
            obtain ⟨q, hqq⟩ : ∃ q, q = (progA N G (80 + NB * 8) img j).2.change N ((80 + NB * 8 + j : Nat) : Int) (pieceB img j).length (prD (pieceB img j)) := ⟨_, rfl⟩
            have hq2 : progA N G (80 + NB * 8) img (j + 1) = q := by rw [hqq, progA, if_pos HP0.out]
            have HQ2 := Lib.hid hq2
            have HQ1 := Lib.hid hqq
            have okj := Lib.hid (progA_ok (80 + NB * 8) img HGok.out j)
            obtain ⟨r', hRF, hRl⟩ := HFt.out
            have HRF := Lib.hid hRF
            have HRl := Lib.hid hRl
            clear hqq hq2 hRF hRl hmm hpl
            go_wp2_with (first | go_skip | ((with_reducible apply wpl_mineq); (exact rfl); (exact rfl); (exact HMM.out)) | ((with_reducible apply (wpl_sl_lhS (j * 64) mm)); (exact rfl); (exact rfl); (exact rfl); (first | omega | go_num); (first | omega | go_num); infer_instance; (exact hm2); (exact hm1)) | ((with_reducible apply wpl_alloc); intro z wz _ _ _) | ((with_reducible apply (wpl_guard (op := .load _ _))); (exact rfl)) | ((with_reducible apply (wpl_guard (op := .fieldAddr _ _ _))); (exact rfl)) | ((with_reducible apply wpl_loadrow); (exact rfl); infer_instance; infer_instance; (first | (with_reducible assumption) | (with_reducible exact H32.size _) | kernel_rfl)) | ((with_reducible apply wpl_loadcellN); (exact rfl); infer_instance; (exact rfl)) | ((with_reducible apply wpl_storerow); (exact rfl); (exact rfl); infer_instance; infer_instance; (first | (with_reducible assumption) | (with_reducible exact H32.size _) | kernel_rfl); (first | (with_reducible assumption) | (with_reducible exact H32.size _) | kernel_rfl); (first | (with_reducible exact u8s_one _) | (with_reducible assumption) | kernel_rfl); intro ws _ _) | ((with_reducible apply wpl_storecell); (exact rfl); (exact rfl); infer_instance; (exact rfl); (first | (with_reducible assumption) | omega | (focus (simp; done)) | (focus (simp; omega; done)) | decide); intro ws _ _))
            refine (rProg_at _ (80 + NB * 8 + j) (by omega) HRF.out HRl.out okj.out HPL7.out HAP.out (by omega)).mono ?_
            rw [← HQ1.out]
            rintro e w7 ⟨rfl, H7, s7⟩
            have sw7 : Step T w w7 := ⟨st2.chg.trans s7.chg (fun _ _ h => h)⟩
            by_cases hz0 : q.1 = 0
            · have e1 : ((q.1 : Int) != 0) = false := by simp [hz0]
              have HZ0 := Lib.hid hz0
              clear hz0
              go_wp2_with (first | go_skip | ((with_reducible apply wpl_alloc); intro z wz _ _ _) | ((with_reducible apply (wpl_guard (op := .load _ _))); (exact rfl)) | ((with_reducible apply (wpl_guard (op := .fieldAddr _ _ _))); (exact rfl)) | ((with_reducible apply wpl_loadrow); (exact rfl); infer_instance; infer_instance; (first | (with_reducible assumption) | (with_reducible exact H32.size _) | kernel_rfl)) | ((with_reducible apply wpl_loadcellN); (exact rfl); infer_instance; (exact rfl)) | ((with_reducible apply wpl_storerow); (exact rfl); (exact rfl); infer_instance; infer_instance; (first | (with_reducible assumption) | (with_reducible exact H32.size _) | kernel_rfl); (first | (with_reducible assumption) | (with_reducible exact H32.size _) | kernel_rfl); (first | (with_reducible exact u8s_one _) | (with_reducible assumption) | kernel_rfl); intro ws _ _) | ((with_reducible apply wpl_storecell); (exact rfl); (exact rfl); infer_instance; (exact rfl); (first | (with_reducible assumption) | omega | (focus (simp; done)) | (focus (simp; omega; done)) | decide); intro ws _ _))
              exact ⟨⟨j + 1, by omega, by go_num, sw7, inferInstance, inferInstance, inferInstance, Lib.hid (by rw [HQ2.out]; exact HZ0.out), Lib.hid (by rw [HQ2.out]; exact H7.out)⟩, by simp [intOf]; omega⟩
            · have e1 : ((q.1 : Int) != 0) = true := by simp [hz0]
              have hwr : r = q := by
                have h := HWP2.out (j + 1) (by omega) (by rw [HQ2.out]; exact hz0)
                rw [HQ2.out] at h
                rw [HRB.out, h, if_pos hz0]
              have HWR := Lib.hid hwr
              clear hz0 hwr
              go_wp2_with (first | go_skip | ((with_reducible apply wpl_alloc); intro z wz _ _ _) | ((with_reducible apply (wpl_guard (op := .load _ _))); (exact rfl)) | ((with_reducible apply (wpl_guard (op := .fieldAddr _ _ _))); (exact rfl)) | ((with_reducible apply wpl_loadrow); (exact rfl); infer_instance; infer_instance; (first | (with_reducible assumption) | (with_reducible exact H32.size _) | kernel_rfl)) | ((with_reducible apply wpl_loadcellN); (exact rfl); infer_instance; (exact rfl)) | ((with_reducible apply wpl_storerow); (exact rfl); (exact rfl); infer_instance; infer_instance; (first | (with_reducible assumption) | (with_reducible exact H32.size _) | kernel_rfl); (first | (with_reducible assumption) | (with_reducible exact H32.size _) | kernel_rfl); (first | (with_reducible exact u8s_one _) | (with_reducible assumption) | kernel_rfl); intro ws _ _) | ((with_reducible apply wpl_storecell); (exact rfl); (exact rfl); infer_instance; (exact rfl); (first | (with_reducible assumption) | omega | (focus (simp; done)) | (focus (simp; omega; done)) | decide); intro ws _ _))
              go_ret
              rw [HWR.out]
              exact ⟨rfl, H7.out, sw7⟩
          · have hlt2I : ¬ (j : Int) < (k : Int) := by omega
            obtain rfl : j = k := by omega
            have HX : Hid (r = saveN N L.2 (BSt.enc ⟨NB, n, S, cn, nm, mind⟩)) := Lib.hid (by
              have h0 : L.1 = 0 := by rw [HWF2.out]; exact HP0.out
              rw [HRB.out, if_neg (by rw [h0]; decide)])
            obtain ⟨ec, hec⟩ : ∃ ec, ec = BSt.enc ⟨NB, n, S, cn, nm, mind⟩ := ⟨_, rfl⟩
            have hecl : ec.length ≤ 3000000 := by
              rw [hec]
              have h1 := HNL.out
              have h2 := HM.out
              have h3 := enc_size (s := ⟨NB, n, S, cn, nm, mind⟩) (by show nm.length ≤ 1000000; omega) (by show mind.length ≤ 1000000; omega)
              have h4 : (BSt.mk NB n S cn nm mind).name.length = nm.length := rfl
              have h5 : (BSt.mk NB n S cn nm mind).mind.length = mind.length := rfl
              omega
            rw [← hec] at HX
            have HEC := Lib.hid hec
            have HFL : Hid (∃ r', RF wr x T r' ∧ Rel L.2 r' N) := Lib.hid (by rw [HWF2.out]; exact HFt.out)
            obtain ⟨r', hRF, hRl⟩ := HFL.out
            have HRF := Lib.hid hRF
            have HRl := Lib.hid hRl
            clear hec hRF hRl HFt HFL
            go_wp2_with (first | go_skip | ((with_reducible apply wpl_loadrow); (exact rfl); (exact hzt); infer_instance; (exact bkL_len _ _ _ _ _ _ _ _)) | ((with_reducible apply wpl_alloc); intro z wz _ _ _) | ((with_reducible apply (wpl_guard (op := .load _ _))); (exact rfl)) | ((with_reducible apply (wpl_guard (op := .fieldAddr _ _ _))); (exact rfl)) | ((with_reducible apply wpl_loadrow); (exact rfl); infer_instance; infer_instance; (first | (with_reducible assumption) | (with_reducible exact H32.size _) | kernel_rfl)) | ((with_reducible apply wpl_loadcellN); (exact rfl); infer_instance; (exact rfl)) | ((with_reducible apply wpl_storerow); (exact rfl); (exact rfl); infer_instance; infer_instance; (first | (with_reducible assumption) | (with_reducible exact H32.size _) | kernel_rfl); (first | (with_reducible assumption) | (with_reducible exact H32.size _) | kernel_rfl); (first | (with_reducible exact u8s_one _) | (with_reducible assumption) | kernel_rfl); intro ws _ _) | ((with_reducible apply wpl_storecell); (exact rfl); (exact rfl); infer_instance; (exact rfl); (first | (with_reducible assumption) | omega | (focus (simp; done)) | (focus (simp; omega; done)) | decide); intro ws _ _))
            refine (rbRecord_calls ⟨NB, n, S, cn, nm, mind⟩ HM.out (by omega) (by have := HNL.out; show nm.length ≤ 1000000; omega)).mono ?_
            rw [← HEC.out]
            rintro e w6 ⟨A6, n6, c6, rfl, hl6, hA6, hnA6, s6⟩
            have hr6 : HR w6 A6 (bs ec) := inferInstance
            have HL6 := Lib.hid hl6
            clear hl6
            go_wp2_with (first | go_skip | ((with_reducible apply wpl_alloc); intro z wz _ _ _) | ((with_reducible apply (wpl_guard (op := .load _ _))); (exact rfl)) | ((with_reducible apply (wpl_guard (op := .fieldAddr _ _ _))); (exact rfl)) | ((with_reducible apply wpl_loadrow); (exact rfl); infer_instance; infer_instance; (first | (with_reducible assumption) | (with_reducible exact H32.size _) | kernel_rfl)) | ((with_reducible apply wpl_loadcellN); (exact rfl); infer_instance; (exact rfl)) | ((with_reducible apply wpl_storerow); (exact rfl); (exact rfl); infer_instance; infer_instance; (first | (with_reducible assumption) | (with_reducible exact H32.size _) | kernel_rfl); (first | (with_reducible assumption) | (with_reducible exact H32.size _) | kernel_rfl); (first | (with_reducible exact u8s_one _) | (with_reducible assumption) | kernel_rfl); intro ws _ _) | ((with_reducible apply wpl_storecell); (exact rfl); (exact rfl); infer_instance; (exact rfl); (first | (with_reducible assumption) | omega | (focus (simp; done)) | (focus (simp; omega; done)) | decide); intro ws _ _))
            refine (rSave_calls (b := ec) (HRF.out.calm s6.chg) HRl.out HLok.out (fun y hy => Nat.lt_of_lt_of_le (HT.out y hy) (Nat.le_trans st2.chg.size s6.chg.size)) HL6.out (by have := HL6.out; omega)).mono ?_
            rintro e w7 ⟨rfl, h7, s7⟩
            go_wp2_with (first | go_skip | ((with_reducible apply wpl_alloc); intro z wz _ _ _) | ((with_reducible apply (wpl_guard (op := .load _ _))); (exact rfl)) | ((with_reducible apply (wpl_guard (op := .fieldAddr _ _ _))); (exact rfl)) | ((with_reducible apply wpl_loadrow); (exact rfl); infer_instance; infer_instance; (first | (with_reducible assumption) | (with_reducible exact H32.size _) | kernel_rfl)) | ((with_reducible apply wpl_loadcellN); (exact rfl); infer_instance; (exact rfl)) | ((with_reducible apply wpl_storerow); (exact rfl); (exact rfl); infer_instance; infer_instance; (first | (with_reducible assumption) | (with_reducible exact H32.size _) | kernel_rfl); (first | (with_reducible assumption) | (with_reducible exact H32.size _) | kernel_rfl); (first | (with_reducible exact u8s_one _) | (with_reducible assumption) | kernel_rfl); intro ws _ _) | ((with_reducible apply wpl_storecell); (exact rfl); (exact rfl); infer_instance; (exact rfl); (first | (with_reducible assumption) | omega | (focus (simp; done)) | (focus (simp; omega; done)) | decide); intro ws _ _))
            go_ret
            rw [HX.out]
            exact ⟨rfl, h7, ⟨(st2.chg.trans s6.chg (fun _ _ h => h.elim)).trans s7.chg (fun _ _ h => h)⟩⟩
  · have e0b : (EI == 0) = false := by have := HEI.out; simp; omega
    have eC : (EI != 0) = true := by have := HEI.out; simp; omega
    have eD : (EI != 9) = false := by have := HEI.out; simp; omega
    obtain ⟨NB, hNB⟩ : ∃ NB : Nat, NB = 0 := ⟨_, rfl⟩
    have hNB2 : NB < 2 := by omega
    have HRA : Hid (r = if (layS N s (80 + NB * 8) img).1 ≠ 0 then layS N s (80 + NB * 8) img else saveN N (layS N s (80 + NB * 8) img).2 (BSt.enc ⟨NB, n, S, cn, nm, mind⟩)) := Lib.hid (by
      rw [HR8.out, if_neg e0, if_neg (fun h2 => e0 h2.1), hNB])
    have HNB := Lib.hid hNB
    clear HR8 e0 e1 hNB
    go_wp2_with (first | go_skip | ((with_reducible apply wpl_storerow); (exact rfl); (exact rfl); infer_instance; infer_instance; (exact hq); (exact hs0); (exact ho); intro wq _ hbq) | ((with_reducible apply (wpl_alloc (dst := some 11))); intro zq wzq _ _ _) | ((with_reducible apply wpl_alloc); intro z wz _ _ _) | ((with_reducible apply (wpl_guard (op := .load _ _))); (exact rfl)) | ((with_reducible apply (wpl_guard (op := .fieldAddr _ _ _))); (exact rfl)) | ((with_reducible apply wpl_loadrow); (exact rfl); infer_instance; infer_instance; (first | (with_reducible assumption) | (with_reducible exact H32.size _) | kernel_rfl)) | ((with_reducible apply wpl_loadcellN); (exact rfl); infer_instance; (exact rfl)) | ((with_reducible apply wpl_storerow); (exact rfl); (exact rfl); infer_instance; infer_instance; (first | (with_reducible assumption) | (with_reducible exact H32.size _) | kernel_rfl); (first | (with_reducible assumption) | (with_reducible exact H32.size _) | kernel_rfl); (first | (with_reducible exact u8s_one _) | (with_reducible assumption) | kernel_rfl); intro ws _ _) | ((with_reducible apply wpl_storecell); (exact rfl); (exact rfl); infer_instance; (exact rfl); (first | (with_reducible assumption) | omega | (focus (simp; done)) | (focus (simp; omega; done)) | decide); intro ws _ _))
    have nq' : Nw w wq := inferInstance
    have hIq : HR wq I (bs img) := ⟨HIR.out.later nq'.out⟩
    have hbq2 : HB wq zq 57 (bkL Eb Bq.1.size Bq.1.sum Ec (strL Bq.1.name) Mq mq dq).toArray := hbq
    refine (dRefSum_calls I n c img wq hIq.out HN.out (by omega)).mono ?_
    rw [← HSL.out]
    rintro e w3 ⟨rfl, hc3⟩
    have s3 : Step nowhere wq w3 := ⟨hc3.out⟩
    clear hc3
    obtain ⟨many, hmany⟩ : ∃ many, many = manyC n := ⟨_, rfl⟩
    have hmn2 : many ≤ 8 := by rw [hmany]; unfold manyC; omega
    have hquo : ((n : Int) + 64 - 1).tdiv 64 = (many : Int) := by
      rw [hmany, manyC, Int.tdiv_eq_ediv_of_nonneg (by omega)]
      omega
    have HMANY := Lib.hid hmany
    clear hmany
    go_wp2_with (first | go_skip | ((with_reducible apply (stop_dst (dst := some 80))); (try simp only [Act.put, sA, sB, sC]); ((with_reducible apply (wpl_build (dst := some 80))); (exact kbs _))) | ((with_reducible apply wpl_storerow); (exact rfl); (exact rfl); infer_instance; infer_instance; (exact hs1); (exact hs0); (exact ho1); intro wz _ hbn; have hzg : HB wz zn 57 (bkL NB n S cn (strL nm) M m d).toArray := ⟨by rw [HNB.out]; exact hbn.out⟩) | ((with_reducible apply (wpl_loadcell (k := 0))); (exact rfl); (exact hzg); (exact bk_get0 _ _ _ _ _ _ _ _)) | ((with_reducible apply (wpl_alloc (dst := some 14))); intro zn wzn _ _ _) | ((with_reducible apply wpl_alloc); intro z wz _ _ _) | ((with_reducible apply (wpl_guard (op := .load _ _))); (exact rfl)) | ((with_reducible apply (wpl_guard (op := .fieldAddr _ _ _))); (exact rfl)) | ((with_reducible apply wpl_loadrow); (exact rfl); infer_instance; infer_instance; (first | (with_reducible assumption) | (with_reducible exact H32.size _) | kernel_rfl)) | ((with_reducible apply wpl_loadcellN); (exact rfl); infer_instance; (exact rfl)) | ((with_reducible apply wpl_storerow); (exact rfl); (exact rfl); infer_instance; infer_instance; (first | (with_reducible assumption) | (with_reducible exact H32.size _) | kernel_rfl); (first | (with_reducible assumption) | (with_reducible exact H32.size _) | kernel_rfl); (first | (with_reducible exact u8s_one _) | (with_reducible assumption) | kernel_rfl); intro ws _ _) | ((with_reducible apply wpl_storecell); (exact rfl); (exact rfl); infer_instance; (exact rfl); (first | (with_reducible assumption) | omega | (focus (simp; done)) | (focus (simp; omega; done)) | decide); intro ws _ _))
    have nx : Nw w wz := inferInstance
    have ozn : OffB T zn := ⟨fun h => by
      have h1 := HT.out _ h
      have h2 := (inferInstance : SzLe w w3).out
      have h3 := (inferInstance : Born w3 zn).eq
      omega⟩
    have hIz : HR wz I (bs img) := ⟨HIR.out.later nx.out⟩
    have hMz : HR wz M (bs mind) := ⟨HMR.out.later nx.out⟩
    obtain ⟨L, hL⟩ : ∃ L, L = layS N s (80 + NB * 8) img := ⟨_, rfl⟩
    have hmc : manyC img.length = many := by rw [HN.out]; exact HMANY.out.symm
    have HWE : Hid (∀ k, k ≤ many → (eraseK N s (80 + NB * 8) k).1 ≠ 0 → L = eraseK N s (80 + NB * 8) k) := Lib.hid (fun k hk h => by rw [hL]; exact lay_erase (by rw [hmc]; exact hk) h)
    have HWP : Hid (∀ k, k ≤ many → (progA N (eraseK N s (80 + NB * 8) many) (80 + NB * 8) img k).1 ≠ 0 → L = progA N (eraseK N s (80 + NB * 8) many) (80 + NB * 8) img k) := Lib.hid (fun k hk h => by
      rw [hL]
      have := lay_prog (N := N) (s := s) (first := 80 + NB * 8) (k := k) (b := img) (by rw [hmc]; exact hk) (by rw [hmc]; exact h)
      rw [hmc] at this
      exact this)
    have HWF : Hid (L = progA N (eraseK N s (80 + NB * 8) many) (80 + NB * 8) img many) := Lib.hid (by rw [hL, layS, hmc])
    have HLok : Hid (L.2.ok N) := Lib.hid (by rw [hL]; exact layS_ok _ _ HOK.out)
    have HRB : Hid (r = if L.1 ≠ 0 then L else saveN N L.2 (BSt.enc ⟨NB, n, S, cn, nm, mind⟩)) := Lib.hid (by rw [HRA.out, hL])
    clear hL hmc HRA
    go_loopw [17] (fun iv wr => ∃ k : Nat, k ≤ many ∧ iv = .int .i64 (k : Int) ∧ Step T w wr ∧ HR wr I (bs img) ∧ HR wr M (bs mind) ∧ HB wr zn 57 (bkL NB n S cn (strL nm) M m d).toArray ∧ Hid ((eraseK N s (80 + NB * 8) k).1 = 0) ∧ Hid (∃ r', RF wr x T r' ∧ Rel (eraseK N s (80 + NB * 8) k).2 r' N)) (fun iv _ => many - (intOf iv).toNat)
    case atStart => exact ⟨0, Nat.zero_le _, rfl, ⟨nx.out.mono (fun _ _ h => h.elim)⟩, hIz, hMz, hzg, Lib.hid rfl, Lib.hid ⟨r0, HF.out.calm nx.out, HRL.out⟩⟩
    case round =>
      obtain ⟨k, hk, rfl, st, hIr, hMr, hzr, HE0, HFr⟩ := hrel
      by_cases hlt : k < many
      · have hltI : (k : Int) < many := by omega
        obtain ⟨q, hqq⟩ : ∃ q, q = (eraseK N s (80 + NB * 8) k).2.change N ((80 + NB * 8 + k : Nat) : Int) 64 erD := ⟨_, rfl⟩
        have hq2 : eraseK N s (80 + NB * 8) (k + 1) = q := by rw [hqq, eraseK, if_pos HE0.out]
        have HQ2 := Lib.hid hq2
        have HQ1 := Lib.hid hqq
        have okk := Lib.hid (eraseK_ok (80 + NB * 8) HOK.out k)
        clear hqq hq2
        obtain ⟨r', hRF, hRl⟩ := HFr.out
        have HRF := Lib.hid hRF
        have HRl := Lib.hid hRl
        clear hRF hRl
        go_wp2_with (first | go_skip | ((with_reducible apply wpl_alloc); intro z wz _ _ _) | ((with_reducible apply (wpl_guard (op := .load _ _))); (exact rfl)) | ((with_reducible apply (wpl_guard (op := .fieldAddr _ _ _))); (exact rfl)) | ((with_reducible apply wpl_loadrow); (exact rfl); infer_instance; infer_instance; (first | (with_reducible assumption) | (with_reducible exact H32.size _) | kernel_rfl)) | ((with_reducible apply wpl_loadcellN); (exact rfl); infer_instance; (exact rfl)) | ((with_reducible apply wpl_storerow); (exact rfl); (exact rfl); infer_instance; infer_instance; (first | (with_reducible assumption) | (with_reducible exact H32.size _) | kernel_rfl); (first | (with_reducible assumption) | (with_reducible exact H32.size _) | kernel_rfl); (first | (with_reducible exact u8s_one _) | (with_reducible assumption) | kernel_rfl); intro ws _ _) | ((with_reducible apply wpl_storecell); (exact rfl); (exact rfl); infer_instance; (exact rfl); (first | (with_reducible assumption) | omega | (focus (simp; done)) | (focus (simp; omega; done)) | decide); intro ws _ _))
        refine (rErase_at _ (80 + NB * 8 + k) (by omega) HRF.out HRl.out okk.out).mono ?_
        rw [← HQ1.out]
        rintro e w5 ⟨rfl, H5, s5⟩
        have sw5 : Step T w w5 := ⟨st.chg.trans s5.chg (fun _ _ h => h)⟩
        by_cases hz0 : q.1 = 0
        · have e1 : ((q.1 : Int) != 0) = false := by simp [hz0]
          have HZ0 := Lib.hid hz0
          clear hz0
          go_wp2_with (first | go_skip | ((with_reducible apply wpl_alloc); intro z wz _ _ _) | ((with_reducible apply (wpl_guard (op := .load _ _))); (exact rfl)) | ((with_reducible apply (wpl_guard (op := .fieldAddr _ _ _))); (exact rfl)) | ((with_reducible apply wpl_loadrow); (exact rfl); infer_instance; infer_instance; (first | (with_reducible assumption) | (with_reducible exact H32.size _) | kernel_rfl)) | ((with_reducible apply wpl_loadcellN); (exact rfl); infer_instance; (exact rfl)) | ((with_reducible apply wpl_storerow); (exact rfl); (exact rfl); infer_instance; infer_instance; (first | (with_reducible assumption) | (with_reducible exact H32.size _) | kernel_rfl); (first | (with_reducible assumption) | (with_reducible exact H32.size _) | kernel_rfl); (first | (with_reducible exact u8s_one _) | (with_reducible assumption) | kernel_rfl); intro ws _ _) | ((with_reducible apply wpl_storecell); (exact rfl); (exact rfl); infer_instance; (exact rfl); (first | (with_reducible assumption) | omega | (focus (simp; done)) | (focus (simp; omega; done)) | decide); intro ws _ _))
          exact ⟨⟨k + 1, by omega, by go_num, sw5, inferInstance, inferInstance, inferInstance, Lib.hid (by rw [HQ2.out]; exact HZ0.out), Lib.hid (by rw [HQ2.out]; exact H5.out)⟩, by simp [intOf]; omega⟩
        · have e1 : ((q.1 : Int) != 0) = true := by simp [hz0]
          have hwr : r = q := by
            have h := HWE.out (k + 1) (by omega) (by rw [HQ2.out]; exact hz0)
            rw [HQ2.out] at h
            rw [HRB.out, h, if_pos hz0]
          have HWR := Lib.hid hwr
          clear hz0 hwr
          go_wp2_with (first | go_skip | ((with_reducible apply wpl_alloc); intro z wz _ _ _) | ((with_reducible apply (wpl_guard (op := .load _ _))); (exact rfl)) | ((with_reducible apply (wpl_guard (op := .fieldAddr _ _ _))); (exact rfl)) | ((with_reducible apply wpl_loadrow); (exact rfl); infer_instance; infer_instance; (first | (with_reducible assumption) | (with_reducible exact H32.size _) | kernel_rfl)) | ((with_reducible apply wpl_loadcellN); (exact rfl); infer_instance; (exact rfl)) | ((with_reducible apply wpl_storerow); (exact rfl); (exact rfl); infer_instance; infer_instance; (first | (with_reducible assumption) | (with_reducible exact H32.size _) | kernel_rfl); (first | (with_reducible assumption) | (with_reducible exact H32.size _) | kernel_rfl); (first | (with_reducible exact u8s_one _) | (with_reducible assumption) | kernel_rfl); intro ws _ _) | ((with_reducible apply wpl_storecell); (exact rfl); (exact rfl); infer_instance; (exact rfl); (first | (with_reducible assumption) | omega | (focus (simp; done)) | (focus (simp; omega; done)) | decide); intro ws _ _))
          go_ret
          rw [HWR.out]
          exact ⟨rfl, H5.out, sw5⟩
      · have hltI : ¬ (k : Int) < many := by omega
        obtain rfl : k = many := by omega
        obtain ⟨G, hG⟩ : ∃ G, G = eraseK N s (80 + NB * 8) k := ⟨_, rfl⟩
        have HWP2 : Hid (∀ j, j ≤ k → (progA N G (80 + NB * 8) img j).1 ≠ 0 → L = progA N G (80 + NB * 8) img j) := Lib.hid (by rw [hG]; exact HWP.out)
        have HWF2 : Hid (L = progA N G (80 + NB * 8) img k) := Lib.hid (by rw [hG]; exact HWF.out)
        have HGok : Hid (G.2.ok N) := Lib.hid (by rw [hG]; exact eraseK_ok (80 + NB * 8) HOK.out k)
        rw [← hG] at HE0 HFr
        clear hG HWE HWP HWF
        go_wp2_with (first | go_skip | ((with_reducible apply wpl_alloc); intro z wz _ _ _) | ((with_reducible apply (wpl_guard (op := .load _ _))); (exact rfl)) | ((with_reducible apply (wpl_guard (op := .fieldAddr _ _ _))); (exact rfl)) | ((with_reducible apply wpl_loadrow); (exact rfl); infer_instance; infer_instance; (first | (with_reducible assumption) | (with_reducible exact H32.size _) | kernel_rfl)) | ((with_reducible apply wpl_loadcellN); (exact rfl); infer_instance; (exact rfl)) | ((with_reducible apply wpl_storerow); (exact rfl); (exact rfl); infer_instance; infer_instance; (first | (with_reducible assumption) | (with_reducible exact H32.size _) | kernel_rfl); (first | (with_reducible assumption) | (with_reducible exact H32.size _) | kernel_rfl); (first | (with_reducible exact u8s_one _) | (with_reducible assumption) | kernel_rfl); intro ws _ _) | ((with_reducible apply wpl_storecell); (exact rfl); (exact rfl); infer_instance; (exact rfl); (first | (with_reducible assumption) | omega | (focus (simp; done)) | (focus (simp; omega; done)) | decide); intro ws _ _))
        go_loopw [19] (fun iv wt => ∃ j : Nat, j ≤ k ∧ iv = .int .i64 (j : Int) ∧ Step T w wt ∧ HR wt I (bs img) ∧ HR wt M (bs mind) ∧ HB wt zn 57 (bkL NB n S cn (strL nm) M m d).toArray ∧ Hid ((progA N G (80 + NB * 8) img j).1 = 0) ∧ Hid (∃ r', RF wt x T r' ∧ Rel (progA N G (80 + NB * 8) img j).2 r' N)) (fun iv _ => k - (intOf iv).toNat)
        case atStart => exact ⟨0, Nat.zero_le _, rfl, st, hIr, hMr, hzr, HE0, HFr⟩
        case round =>
          obtain ⟨j, hj, rfl, st2, hIt, hMt, hzt, HP0, HFt⟩ := hrel
          by_cases hlt2 : j < k
          · have hlt2I : (j : Int) < (k : Int) := by omega
            have hjn : j * 64 < n := by have := HMANY.out; unfold manyC at this; omega
            obtain ⟨mm, hmm⟩ : ∃ mm : Nat, min (n : Int) (((j : Int) + 1) * 64) = (mm : Int) := ⟨min n ((j + 1) * 64), by omega⟩
            have hm1 : mm ≤ c := by omega
            have hm2 : j * 64 ≤ mm := by omega
            have hm3 : mm ≤ n := by omega
            have HMM := Lib.hid hmm
            have hrp : HR wr (cutA I (j * 64) c 1) (bs (pieceB img j)) := by
              have h := hIt.cutS HN.out hnc (j * 64)
              have h2 := h.out.take 64
              rw [bs, ← List.map_take] at h2
              rw [pieceB, Nat.mul_comm 64 j]
              exact ⟨h2⟩
            have hpl : (pieceB img j).length = mm - j * 64 := by rw [pieceB, List.length_take, List.length_drop, HN.out]; omega
            have HAP : Hid (Apart T (cutA I (j * 64) c 1) (bs (pieceB img j))) := Lib.hid (fun _ ad e h => by
              obtain ⟨ad0, e0, e1⟩ := cutS_block e
              rw [e1] at h
              exact HIA.out (fun h2 => by have h3 := congrArg List.length h2; rw [bs_length, HN.out] at h3; simp at h3; omega) ad0 e0 h)
            have HPL7 := Lib.hid hpl
            obtain ⟨q, hqq⟩ : ∃ q, q = (progA N G (80 + NB * 8) img j).2.change N ((80 + NB * 8 + j : Nat) : Int) (pieceB img j).length (prD (pieceB img j)) := ⟨_, rfl⟩
            have hq2 : progA N G (80 + NB * 8) img (j + 1) = q := by rw [hqq, progA, if_pos HP0.out]
            have HQ2 := Lib.hid hq2
            have HQ1 := Lib.hid hqq
            have okj := Lib.hid (progA_ok (80 + NB * 8) img HGok.out j)
            obtain ⟨r', hRF, hRl⟩ := HFt.out
            have HRF := Lib.hid hRF
            have HRl := Lib.hid hRl
            clear hqq hq2 hRF hRl hmm hpl
            go_wp2_with (first | go_skip | ((with_reducible apply wpl_mineq); (exact rfl); (exact rfl); (exact HMM.out)) | ((with_reducible apply (wpl_sl_lhS (j * 64) mm)); (exact rfl); (exact rfl); (exact rfl); (first | omega | go_num); (first | omega | go_num); infer_instance; (exact hm2); (exact hm1)) | ((with_reducible apply wpl_alloc); intro z wz _ _ _) | ((with_reducible apply (wpl_guard (op := .load _ _))); (exact rfl)) | ((with_reducible apply (wpl_guard (op := .fieldAddr _ _ _))); (exact rfl)) | ((with_reducible apply wpl_loadrow); (exact rfl); infer_instance; infer_instance; (first | (with_reducible assumption) | (with_reducible exact H32.size _) | kernel_rfl)) | ((with_reducible apply wpl_loadcellN); (exact rfl); infer_instance; (exact rfl)) | ((with_reducible apply wpl_storerow); (exact rfl); (exact rfl); infer_instance; infer_instance; (first | (with_reducible assumption) | (with_reducible exact H32.size _) | kernel_rfl); (first | (with_reducible assumption) | (with_reducible exact H32.size _) | kernel_rfl); (first | (with_reducible exact u8s_one _) | (with_reducible assumption) | kernel_rfl); intro ws _ _) | ((with_reducible apply wpl_storecell); (exact rfl); (exact rfl); infer_instance; (exact rfl); (first | (with_reducible assumption) | omega | (focus (simp; done)) | (focus (simp; omega; done)) | decide); intro ws _ _))
            refine (rProg_at _ (80 + NB * 8 + j) (by omega) HRF.out HRl.out okj.out HPL7.out HAP.out (by omega)).mono ?_
            rw [← HQ1.out]
            rintro e w7 ⟨rfl, H7, s7⟩
            have sw7 : Step T w w7 := ⟨st2.chg.trans s7.chg (fun _ _ h => h)⟩
            by_cases hz0 : q.1 = 0
            · have e1 : ((q.1 : Int) != 0) = false := by simp [hz0]
              have HZ0 := Lib.hid hz0
              clear hz0
              go_wp2_with (first | go_skip | ((with_reducible apply wpl_alloc); intro z wz _ _ _) | ((with_reducible apply (wpl_guard (op := .load _ _))); (exact rfl)) | ((with_reducible apply (wpl_guard (op := .fieldAddr _ _ _))); (exact rfl)) | ((with_reducible apply wpl_loadrow); (exact rfl); infer_instance; infer_instance; (first | (with_reducible assumption) | (with_reducible exact H32.size _) | kernel_rfl)) | ((with_reducible apply wpl_loadcellN); (exact rfl); infer_instance; (exact rfl)) | ((with_reducible apply wpl_storerow); (exact rfl); (exact rfl); infer_instance; infer_instance; (first | (with_reducible assumption) | (with_reducible exact H32.size _) | kernel_rfl); (first | (with_reducible assumption) | (with_reducible exact H32.size _) | kernel_rfl); (first | (with_reducible exact u8s_one _) | (with_reducible assumption) | kernel_rfl); intro ws _ _) | ((with_reducible apply wpl_storecell); (exact rfl); (exact rfl); infer_instance; (exact rfl); (first | (with_reducible assumption) | omega | (focus (simp; done)) | (focus (simp; omega; done)) | decide); intro ws _ _))
              exact ⟨⟨j + 1, by omega, by go_num, sw7, inferInstance, inferInstance, inferInstance, Lib.hid (by rw [HQ2.out]; exact HZ0.out), Lib.hid (by rw [HQ2.out]; exact H7.out)⟩, by simp [intOf]; omega⟩
            · have e1 : ((q.1 : Int) != 0) = true := by simp [hz0]
              have hwr : r = q := by
                have h := HWP2.out (j + 1) (by omega) (by rw [HQ2.out]; exact hz0)
                rw [HQ2.out] at h
                rw [HRB.out, h, if_pos hz0]
              have HWR := Lib.hid hwr
              clear hz0 hwr
              go_wp2_with (first | go_skip | ((with_reducible apply wpl_alloc); intro z wz _ _ _) | ((with_reducible apply (wpl_guard (op := .load _ _))); (exact rfl)) | ((with_reducible apply (wpl_guard (op := .fieldAddr _ _ _))); (exact rfl)) | ((with_reducible apply wpl_loadrow); (exact rfl); infer_instance; infer_instance; (first | (with_reducible assumption) | (with_reducible exact H32.size _) | kernel_rfl)) | ((with_reducible apply wpl_loadcellN); (exact rfl); infer_instance; (exact rfl)) | ((with_reducible apply wpl_storerow); (exact rfl); (exact rfl); infer_instance; infer_instance; (first | (with_reducible assumption) | (with_reducible exact H32.size _) | kernel_rfl); (first | (with_reducible assumption) | (with_reducible exact H32.size _) | kernel_rfl); (first | (with_reducible exact u8s_one _) | (with_reducible assumption) | kernel_rfl); intro ws _ _) | ((with_reducible apply wpl_storecell); (exact rfl); (exact rfl); infer_instance; (exact rfl); (first | (with_reducible assumption) | omega | (focus (simp; done)) | (focus (simp; omega; done)) | decide); intro ws _ _))
              go_ret
              rw [HWR.out]
              exact ⟨rfl, H7.out, sw7⟩
          · have hlt2I : ¬ (j : Int) < (k : Int) := by omega
            obtain rfl : j = k := by omega
            have HX : Hid (r = saveN N L.2 (BSt.enc ⟨NB, n, S, cn, nm, mind⟩)) := Lib.hid (by
              have h0 : L.1 = 0 := by rw [HWF2.out]; exact HP0.out
              rw [HRB.out, if_neg (by rw [h0]; decide)])
            obtain ⟨ec, hec⟩ : ∃ ec, ec = BSt.enc ⟨NB, n, S, cn, nm, mind⟩ := ⟨_, rfl⟩
            have hecl : ec.length ≤ 3000000 := by
              rw [hec]
              have h1 := HNL.out
              have h2 := HM.out
              have h3 := enc_size (s := ⟨NB, n, S, cn, nm, mind⟩) (by show nm.length ≤ 1000000; omega) (by show mind.length ≤ 1000000; omega)
              have h4 : (BSt.mk NB n S cn nm mind).name.length = nm.length := rfl
              have h5 : (BSt.mk NB n S cn nm mind).mind.length = mind.length := rfl
              omega
            rw [← hec] at HX
            have HEC := Lib.hid hec
            have HFL : Hid (∃ r', RF wr x T r' ∧ Rel L.2 r' N) := Lib.hid (by rw [HWF2.out]; exact HFt.out)
            obtain ⟨r', hRF, hRl⟩ := HFL.out
            have HRF := Lib.hid hRF
            have HRl := Lib.hid hRl
            clear hec hRF hRl HFt HFL
            go_wp2_with (first | go_skip | ((with_reducible apply wpl_loadrow); (exact rfl); (exact hzt); infer_instance; (exact bkL_len _ _ _ _ _ _ _ _)) | ((with_reducible apply wpl_alloc); intro z wz _ _ _) | ((with_reducible apply (wpl_guard (op := .load _ _))); (exact rfl)) | ((with_reducible apply (wpl_guard (op := .fieldAddr _ _ _))); (exact rfl)) | ((with_reducible apply wpl_loadrow); (exact rfl); infer_instance; infer_instance; (first | (with_reducible assumption) | (with_reducible exact H32.size _) | kernel_rfl)) | ((with_reducible apply wpl_loadcellN); (exact rfl); infer_instance; (exact rfl)) | ((with_reducible apply wpl_storerow); (exact rfl); (exact rfl); infer_instance; infer_instance; (first | (with_reducible assumption) | (with_reducible exact H32.size _) | kernel_rfl); (first | (with_reducible assumption) | (with_reducible exact H32.size _) | kernel_rfl); (first | (with_reducible exact u8s_one _) | (with_reducible assumption) | kernel_rfl); intro ws _ _) | ((with_reducible apply wpl_storecell); (exact rfl); (exact rfl); infer_instance; (exact rfl); (first | (with_reducible assumption) | omega | (focus (simp; done)) | (focus (simp; omega; done)) | decide); intro ws _ _))
            refine (rbRecord_calls ⟨NB, n, S, cn, nm, mind⟩ HM.out (by omega) (by have := HNL.out; show nm.length ≤ 1000000; omega)).mono ?_
            rw [← HEC.out]
            rintro e w6 ⟨A6, n6, c6, rfl, hl6, hA6, hnA6, s6⟩
            have hr6 : HR w6 A6 (bs ec) := inferInstance
            have HL6 := Lib.hid hl6
            clear hl6
            go_wp2_with (first | go_skip | ((with_reducible apply wpl_alloc); intro z wz _ _ _) | ((with_reducible apply (wpl_guard (op := .load _ _))); (exact rfl)) | ((with_reducible apply (wpl_guard (op := .fieldAddr _ _ _))); (exact rfl)) | ((with_reducible apply wpl_loadrow); (exact rfl); infer_instance; infer_instance; (first | (with_reducible assumption) | (with_reducible exact H32.size _) | kernel_rfl)) | ((with_reducible apply wpl_loadcellN); (exact rfl); infer_instance; (exact rfl)) | ((with_reducible apply wpl_storerow); (exact rfl); (exact rfl); infer_instance; infer_instance; (first | (with_reducible assumption) | (with_reducible exact H32.size _) | kernel_rfl); (first | (with_reducible assumption) | (with_reducible exact H32.size _) | kernel_rfl); (first | (with_reducible exact u8s_one _) | (with_reducible assumption) | kernel_rfl); intro ws _ _) | ((with_reducible apply wpl_storecell); (exact rfl); (exact rfl); infer_instance; (exact rfl); (first | (with_reducible assumption) | omega | (focus (simp; done)) | (focus (simp; omega; done)) | decide); intro ws _ _))
            refine (rSave_calls (b := ec) (HRF.out.calm s6.chg) HRl.out HLok.out (fun y hy => Nat.lt_of_lt_of_le (HT.out y hy) (Nat.le_trans st2.chg.size s6.chg.size)) HL6.out (by have := HL6.out; omega)).mono ?_
            rintro e w7 ⟨rfl, h7, s7⟩
            go_wp2_with (first | go_skip | ((with_reducible apply wpl_alloc); intro z wz _ _ _) | ((with_reducible apply (wpl_guard (op := .load _ _))); (exact rfl)) | ((with_reducible apply (wpl_guard (op := .fieldAddr _ _ _))); (exact rfl)) | ((with_reducible apply wpl_loadrow); (exact rfl); infer_instance; infer_instance; (first | (with_reducible assumption) | (with_reducible exact H32.size _) | kernel_rfl)) | ((with_reducible apply wpl_loadcellN); (exact rfl); infer_instance; (exact rfl)) | ((with_reducible apply wpl_storerow); (exact rfl); (exact rfl); infer_instance; infer_instance; (first | (with_reducible assumption) | (with_reducible exact H32.size _) | kernel_rfl); (first | (with_reducible assumption) | (with_reducible exact H32.size _) | kernel_rfl); (first | (with_reducible exact u8s_one _) | (with_reducible assumption) | kernel_rfl); intro ws _ _) | ((with_reducible apply wpl_storecell); (exact rfl); (exact rfl); infer_instance; (exact rfl); (first | (with_reducible assumption) | omega | (focus (simp; done)) | (focus (simp; omega; done)) | decide); intro ws _ _))
            go_ret
            rw [HX.out]
            exact ⟨rfl, h7, ⟨(st2.chg.trans s6.chg (fun _ _ h => h.elim)).trans s7.chg (fun _ _ h => h)⟩⟩
end Go.Proofs.Ytegdihpnefoolaa
