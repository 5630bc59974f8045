/- BkM -/
import Derived.Test.YtegdihpnefoolaaTiBkL
import Derived.Test.YtegdihpnefoolaaTiSlY
open Go Go.RowKit
namespace Go.Proofs.Ytegdihpnefoolaa
set_option maxRecDepth 100000 in
set_option maxHeartbeats 3200000 in
theorem bankKeeps_calls {A Z : Option Addr} {n c m d : Nat} {img mind : List UInt8} (over : Int) {w : World} [hA : HR w A (bs img)] (hl : img.length = n) (hc : n ≤ c) (hn9 : n ≤ 9223372036854775807) [hZ : HR w Z (bs mind)] (hm : mind.length = m) (hm9 : m ≤ 9223372036854775807) :
    Calls Try.prog 7 #[.slice A n c, .slice Z m d, .int .i64 over] w fun e w' => e = .returned (.bool true) ∧ Chg nowhere w w' := by
  have HL := Lib.hid hl
  have HM := Lib.hid hm
  have HA0 := Lib.hid hA.out
  have HZ0 := Lib.hid hZ.out
  have hnone : ∀ w, HR w none (bs []) := fun w => ⟨Rd.nil _ _⟩
  have hs0 := bkL_len 0 0 zeroH 0 ⟨#[]⟩ none 0 0
  clear hl hm
  by_cases c1 : 512 < n
  · have c1I : 512 < (n : Int) := by omega
    go_enter Try.func7, Try.ntmps7
    go_wp2_with (first | go_skip | ((with_reducible apply wpl_alloc); intro z wz _ _ _) | ((with_reducible apply (wpl_guard (op := .load _ _))); (exact rfl)) | ((with_reducible apply (wpl_guard (op := .fieldAddr _ _ _))); (exact rfl)) | ((with_reducible apply (wpl_guard (op := .convert _ _ _))); (exact rfl)) | ((with_reducible apply wpl_loadrow); (exact rfl); infer_instance; infer_instance; (first | (with_reducible assumption) | (with_reducible exact H32.size _) | kernel_rfl)) | ((with_reducible apply wpl_loadcellN); (exact rfl); infer_instance; (exact rfl)) | ((with_reducible apply wpl_storerow); (exact rfl); (exact rfl); infer_instance; infer_instance; (first | (with_reducible assumption) | (with_reducible exact H32.size _) | kernel_rfl); (first | (with_reducible assumption) | (with_reducible exact H32.size _) | kernel_rfl); (first | (with_reducible exact u8s_one _) | (with_reducible assumption) | kernel_rfl); intro ws _ _) | ((with_reducible apply wpl_storecell); (exact rfl); (exact rfl); infer_instance; (exact rfl); (first | (with_reducible assumption) | omega | (focus (simp; done)) | (focus (simp; omega; done)) | decide); intro ws _ _))
    go_ret
    exact ⟨rfl, (stepN (w0 := w)).chg⟩
  have c1I : ¬ 512 < (n : Int) := by omega
  by_cases c2 : 2000 < m
  · have c2I : 2000 < (m : Int) := by omega
    go_enter Try.func7, Try.ntmps7
    go_wp2_with (first | go_skip | ((with_reducible apply wpl_alloc); intro z wz _ _ _) | ((with_reducible apply (wpl_guard (op := .load _ _))); (exact rfl)) | ((with_reducible apply (wpl_guard (op := .fieldAddr _ _ _))); (exact rfl)) | ((with_reducible apply (wpl_guard (op := .convert _ _ _))); (exact rfl)) | ((with_reducible apply wpl_loadrow); (exact rfl); infer_instance; infer_instance; (first | (with_reducible assumption) | (with_reducible exact H32.size _) | kernel_rfl)) | ((with_reducible apply wpl_loadcellN); (exact rfl); infer_instance; (exact rfl)) | ((with_reducible apply wpl_storerow); (exact rfl); (exact rfl); infer_instance; infer_instance; (first | (with_reducible assumption) | (with_reducible exact H32.size _) | kernel_rfl); (first | (with_reducible assumption) | (with_reducible exact H32.size _) | kernel_rfl); (first | (with_reducible exact u8s_one _) | (with_reducible assumption) | kernel_rfl); intro ws _ _) | ((with_reducible apply wpl_storecell); (exact rfl); (exact rfl); infer_instance; (exact rfl); (first | (with_reducible assumption) | omega | (focus (simp; done)) | (focus (simp; omega; done)) | decide); intro ws _ _))
    go_ret
    exact ⟨rfl, (stepN (w0 := w)).chg⟩
  have c2I : ¬ 2000 < (m : Int) := by omega
  by_cases c3 : over < 1
  · go_enter Try.func7, Try.ntmps7
    go_wp2_with (first | go_skip | ((with_reducible apply wpl_alloc); intro z wz _ _ _) | ((with_reducible apply (wpl_guard (op := .load _ _))); (exact rfl)) | ((with_reducible apply (wpl_guard (op := .fieldAddr _ _ _))); (exact rfl)) | ((with_reducible apply (wpl_guard (op := .convert _ _ _))); (exact rfl)) | ((with_reducible apply wpl_loadrow); (exact rfl); infer_instance; infer_instance; (first | (with_reducible assumption) | (with_reducible exact H32.size _) | kernel_rfl)) | ((with_reducible apply wpl_loadcellN); (exact rfl); infer_instance; (exact rfl)) | ((with_reducible apply wpl_storerow); (exact rfl); (exact rfl); infer_instance; infer_instance; (first | (with_reducible assumption) | (with_reducible exact H32.size _) | kernel_rfl); (first | (with_reducible assumption) | (with_reducible exact H32.size _) | kernel_rfl); (first | (with_reducible exact u8s_one _) | (with_reducible assumption) | kernel_rfl); intro ws _ _) | ((with_reducible apply wpl_storecell); (exact rfl); (exact rfl); infer_instance; (exact rfl); (first | (with_reducible assumption) | omega | (focus (simp; done)) | (focus (simp; omega; done)) | decide); intro ws _ _))
    go_ret
    exact ⟨rfl, (stepN (w0 := w)).chg⟩
  by_cases c4 : 60 < over
  · go_enter Try.func7, Try.ntmps7
    go_wp2_with (first | go_skip | ((with_reducible apply wpl_alloc); intro z wz _ _ _) | ((with_reducible apply (wpl_guard (op := .load _ _))); (exact rfl)) | ((with_reducible apply (wpl_guard (op := .fieldAddr _ _ _))); (exact rfl)) | ((with_reducible apply (wpl_guard (op := .convert _ _ _))); (exact rfl)) | ((with_reducible apply wpl_loadrow); (exact rfl); infer_instance; infer_instance; (first | (with_reducible assumption) | (with_reducible exact H32.size _) | kernel_rfl)) | ((with_reducible apply wpl_loadcellN); (exact rfl); infer_instance; (exact rfl)) | ((with_reducible apply wpl_storerow); (exact rfl); (exact rfl); infer_instance; infer_instance; (first | (with_reducible assumption) | (with_reducible exact H32.size _) | kernel_rfl); (first | (with_reducible assumption) | (with_reducible exact H32.size _) | kernel_rfl); (first | (with_reducible exact u8s_one _) | (with_reducible assumption) | kernel_rfl); intro ws _ _) | ((with_reducible apply wpl_storecell); (exact rfl); (exact rfl); infer_instance; (exact rfl); (first | (with_reducible assumption) | omega | (focus (simp; done)) | (focus (simp; omega; done)) | decide); intro ws _ _))
    go_ret
    exact ⟨rfl, (stepN (w0 := w)).chg⟩
  obtain ⟨V, hV⟩ : ∃ V : Nat, 2000 + over = (V : Int) := ⟨(2000 + over).toNat, by omega⟩
  obtain ⟨U, hU⟩ : ∃ U : Nat, 512 + over = (U : Int) := ⟨(512 + over).toNat, by omega⟩
  have hV1 : 2000 < V := by omega
  have hV2 : V ≤ 100000 := by omega
  have hU1 : 512 < U := by omega
  have hU2 : U ≤ 100000 := by omega
  have HV := Lib.hid hV
  have HU := Lib.hid hU
  clear hV hU
  go_enter Try.func7, Try.ntmps7
  go_wp2_with (first | go_skip | ((with_reducible apply wpl_alloc); intro z wz _ _ _) | ((with_reducible apply (wpl_guard (op := .load _ _))); (exact rfl)) | ((with_reducible apply (wpl_guard (op := .fieldAddr _ _ _))); (exact rfl)) | ((with_reducible apply (wpl_guard (op := .convert _ _ _))); (exact rfl)) | ((with_reducible apply wpl_loadrow); (exact rfl); infer_instance; infer_instance; (first | (with_reducible assumption) | (with_reducible exact H32.size _) | kernel_rfl)) | ((with_reducible apply wpl_loadcellN); (exact rfl); infer_instance; (exact rfl)) | ((with_reducible apply wpl_storerow); (exact rfl); (exact rfl); infer_instance; infer_instance; (first | (with_reducible assumption) | (with_reducible exact H32.size _) | kernel_rfl); (first | (with_reducible assumption) | (with_reducible exact H32.size _) | kernel_rfl); (first | (with_reducible exact u8s_one _) | (with_reducible assumption) | kernel_rfl); intro ws _ _) | ((with_reducible apply wpl_storecell); (exact rfl); (exact rfl); infer_instance; (exact rfl); (first | (with_reducible assumption) | omega | (focus (simp; done)) | (focus (simp; omega; done)) | decide); intro ws _ _))
  refine (bkPages_calls _).mono ?_
  rintro e w1 ⟨rfl, hw1⟩
  obtain rfl := hw1.symm
  go_wp2_with (first | go_skip | ((with_reducible apply wpl_alloc); intro z wz _ _ _) | ((with_reducible apply (wpl_guard (op := .load _ _))); (exact rfl)) | ((with_reducible apply (wpl_guard (op := .fieldAddr _ _ _))); (exact rfl)) | ((with_reducible apply (wpl_guard (op := .convert _ _ _))); (exact rfl)) | ((with_reducible apply wpl_loadrow); (exact rfl); infer_instance; infer_instance; (first | (with_reducible assumption) | (with_reducible exact H32.size _) | kernel_rfl)) | ((with_reducible apply wpl_loadcellN); (exact rfl); infer_instance; (exact rfl)) | ((with_reducible apply wpl_storerow); (exact rfl); (exact rfl); infer_instance; infer_instance; (first | (with_reducible assumption) | (with_reducible exact H32.size _) | kernel_rfl); (first | (with_reducible assumption) | (with_reducible exact H32.size _) | kernel_rfl); (first | (with_reducible exact u8s_one _) | (with_reducible assumption) | kernel_rfl); intro ws _ _) | ((with_reducible apply wpl_storecell); (exact rfl); (exact rfl); infer_instance; (exact rfl); (first | (with_reducible assumption) | omega | (focus (simp; done)) | (focus (simp; omega; done)) | decide); intro ws _ _))
  refine (bkNew_calls _).mono ?_
  rintro e w1 ⟨g, p, rfl, h1, _, hg, hp⟩
  have ab := above_two hg hp
  have oA : OffR (Two g p) A (bs img) := ⟨fun hne ad e h => by
    have h1 := rd_lt HA0.out hne e
    have h2 := ab.out _ h
    omega⟩
  have oZ : OffR (Two g p) Z (bs mind) := ⟨fun hne ad e h => by
    have h1 := rd_lt HZ0.out hne e
    have h2 := ab.out _ h
    omega⟩
  have hgpw : ∀ x, x < w.heap.size → ¬ Two g p x := fun x hx h => by have := ab.out _ h; omega
  have hZ1 : HR w1 Z (bs mind) := inferInstance
  go_wp2_with (first | go_skip | ((with_reducible apply (wpl_guard (op := .call _))); (exact rfl)) | ((with_reducible apply wpl_alloc); intro z wz _ _ _) | ((with_reducible apply (wpl_guard (op := .load _ _))); (exact rfl)) | ((with_reducible apply (wpl_guard (op := .fieldAddr _ _ _))); (exact rfl)) | ((with_reducible apply (wpl_guard (op := .convert _ _ _))); (exact rfl)) | ((with_reducible apply wpl_loadrow); (exact rfl); infer_instance; infer_instance; (first | (with_reducible assumption) | (with_reducible exact H32.size _) | kernel_rfl)) | ((with_reducible apply wpl_loadcellN); (exact rfl); infer_instance; (exact rfl)) | ((with_reducible apply wpl_storerow); (exact rfl); (exact rfl); infer_instance; infer_instance; (first | (with_reducible assumption) | (with_reducible exact H32.size _) | kernel_rfl); (first | (with_reducible assumption) | (with_reducible exact H32.size _) | kernel_rfl); (first | (with_reducible exact u8s_one _) | (with_reducible assumption) | kernel_rfl); intro ws _ _) | ((with_reducible apply wpl_storecell); (exact rfl); (exact rfl); infer_instance; (exact rfl); (first | (with_reducible assumption) | omega | (focus (simp; done)) | (focus (simp; omega; done)) | decide); intro ws _ _))
  refine (bkKeepNo_calls (x := 9) (mind := mind) h1.out (fun s hs => keep_err hs (by decide)) HM.out (by omega)).mono ?_
  rintro e w2 ⟨rfl, h2, _⟩
  have n2 : Nw w w2 := inferInstance
  have hA2 : HR w2 A (bs img) := ⟨HA0.out.later n2.out⟩
  have hn2 := hnone w2
  go_wp2_with (first | go_skip | ((with_reducible apply (wpl_guard (op := .call _))); (exact rfl)) | ((with_reducible apply wpl_alloc); intro z wz _ _ _) | ((with_reducible apply (wpl_guard (op := .load _ _))); (exact rfl)) | ((with_reducible apply (wpl_guard (op := .fieldAddr _ _ _))); (exact rfl)) | ((with_reducible apply (wpl_guard (op := .convert _ _ _))); (exact rfl)) | ((with_reducible apply wpl_loadrow); (exact rfl); infer_instance; infer_instance; (first | (with_reducible assumption) | (with_reducible exact H32.size _) | kernel_rfl)) | ((with_reducible apply wpl_loadcellN); (exact rfl); infer_instance; (exact rfl)) | ((with_reducible apply wpl_storerow); (exact rfl); (exact rfl); infer_instance; infer_instance; (first | (with_reducible assumption) | (with_reducible exact H32.size _) | kernel_rfl); (first | (with_reducible assumption) | (with_reducible exact H32.size _) | kernel_rfl); (first | (with_reducible exact u8s_one _) | (with_reducible assumption) | kernel_rfl); intro ws _ _) | ((with_reducible apply wpl_storecell); (exact rfl); (exact rfl); infer_instance; (exact rfl); (first | (with_reducible assumption) | omega | (focus (simp; done)) | (focus (simp; omega; done)) | decide); intro ws _ _))
  refine (bkInst_calls h2.out (by decide) [102] 7 (.inl rfl) (by decide) (by decide) (img := img) (mind := []) HL.out hc (by omega) oA.out rfl (by decide) (apart_none _ _) (by decide)).mono ?_
  obtain ⟨D, hD⟩ : ∃ D : BSt, D = ⟨if (bkZero, ([] : List UInt8), 9).2.2 = 0 then 1 - bkZero.bank else 0, img.length, ⟨sha img, sha_len _⟩, (7 : Int).toNat, [102], []⟩ := ⟨_, rfl⟩
  have HDC : Hid (D.cnt = 7) := Lib.hid (by rw [hD]; rfl)
  have HDN : Hid (D.name = [102]) := Lib.hid (by rw [hD])
  have HD := Lib.hid hD
  clear hD
  rintro e w3 ⟨rfl, h3, _⟩
  have H3 : Hid (BankAt w3 g p 1 (D, img, 0)) := Lib.hid (by rw [HD.out]; exact h3.out)
  have n3 : Nw w w3 := inferInstance
  have hZ3 : HR w3 Z (bs mind) := ⟨HZ0.out.later n3.out⟩
  clear h3 h2 h1
  go_wp2_with (first | go_skip | ((with_reducible apply wpl_alloc); intro z wz _ _ _) | ((with_reducible apply (wpl_guard (op := .load _ _))); (exact rfl)) | ((with_reducible apply (wpl_guard (op := .fieldAddr _ _ _))); (exact rfl)) | ((with_reducible apply (wpl_guard (op := .convert _ _ _))); (exact rfl)) | ((with_reducible apply wpl_loadrow); (exact rfl); infer_instance; infer_instance; (first | (with_reducible assumption) | (with_reducible exact H32.size _) | kernel_rfl)) | ((with_reducible apply wpl_loadcellN); (exact rfl); infer_instance; (exact rfl)) | ((with_reducible apply wpl_storerow); (exact rfl); (exact rfl); infer_instance; infer_instance; (first | (with_reducible assumption) | (with_reducible exact H32.size _) | kernel_rfl); (first | (with_reducible assumption) | (with_reducible exact H32.size _) | kernel_rfl); (first | (with_reducible exact u8s_one _) | (with_reducible assumption) | kernel_rfl); intro ws _ _) | ((with_reducible apply wpl_storecell); (exact rfl); (exact rfl); infer_instance; (exact rfl); (first | (with_reducible assumption) | omega | (focus (simp; done)) | (focus (simp; omega; done)) | decide); intro ws _ _))
  refine (bkKeepOk_calls (mind := mind) H3.out (by decide) HM.out (by omega) (by rw [HDN.out]; decide) (by rw [HDC.out]; decide)).mono ?_
  obtain ⟨E, hE⟩ : ∃ E : BSt, E = { D with mind := mind } := ⟨_, rfl⟩
  have HEC : Hid (E.cnt = 7) := Lib.hid (by rw [hE]; exact HDC.out)
  have HEN : Hid (E.name = [102]) := Lib.hid (by rw [hE]; exact HDN.out)
  have HEM : Hid (E.mind = mind) := Lib.hid (by rw [hE])
  have HE := Lib.hid hE
  clear hE HDC HDN
  rintro e w4 ⟨rfl, h4, _⟩
  have H4 : Hid (BankAt w4 g p 2 (E, img, 0)) := Lib.hid (by rw [HE.out]; exact h4.out)
  have n4 : Nw w w4 := inferInstance
  clear h4 H3 HD HE
  go_wp2_with (first | go_skip | ((with_reducible apply wpl_alloc); intro z wz _ _ _) | ((with_reducible apply (wpl_guard (op := .load _ _))); (exact rfl)) | ((with_reducible apply (wpl_guard (op := .fieldAddr _ _ _))); (exact rfl)) | ((with_reducible apply (wpl_guard (op := .convert _ _ _))); (exact rfl)) | ((with_reducible apply wpl_loadrow); (exact rfl); infer_instance; infer_instance; (first | (with_reducible assumption) | (with_reducible exact H32.size _) | kernel_rfl)) | ((with_reducible apply wpl_loadcellN); (exact rfl); infer_instance; (exact rfl)) | ((with_reducible apply wpl_storerow); (exact rfl); (exact rfl); infer_instance; infer_instance; (first | (with_reducible assumption) | (with_reducible exact H32.size _) | kernel_rfl); (first | (with_reducible assumption) | (with_reducible exact H32.size _) | kernel_rfl); (first | (with_reducible exact u8s_one _) | (with_reducible assumption) | kernel_rfl); intro ws _ _) | ((with_reducible apply wpl_storecell); (exact rfl); (exact rfl); infer_instance; (exact rfl); (first | (with_reducible assumption) | omega | (focus (simp; done)) | (focus (simp; omega; done)) | decide); intro ws _ _))
  refine (bkBootAt_calls H4.out).mono ?_
  rintro e w5 ⟨M, mm, dd, I, ni, ci, rfl, hmM, hM5, hnM, hnI, hI5, hnII, _⟩
  have hq := bkL_len E.bank E.size E.sum E.cnt (strL E.name) M mm dd
  have ho := bkL_one E.bank E.size E.sum E.cnt (strL E.name) M mm dd
  have H5 : Hid (BankAt w5 g p 2 (E, img, 0)) := Lib.hid (H4.out.calm (stepN (w0 := w4)).chg)
  have hl5 := H4.out.lts
  have oM : OffR (Two g p) M (bs E.mind) := ⟨fun hne ad e h => by
    have h1 := hnM.out ad e
    rcases h with h | h <;> omega⟩
  have oI : OffR (Two g p) I (bs img) := ⟨fun hne ad e h => by
    have h1 := hnII.out ad e
    rcases h with h | h <;> omega⟩
  have HNM := Lib.hid hmM
  have HNI := Lib.hid hnI
  clear hmM hnI H4
  go_wp2_with (first | go_skip | ((with_reducible apply wpl_storerow); (exact rfl); (exact rfl); infer_instance; infer_instance; (exact hq); (exact hs0); (exact ho); intro wq _ hbq) | ((with_reducible apply (wpl_makeB (n := V))); (exact congrArg (Value.int IntKind.i64) HV.out); (exact congrArg (Value.int IntKind.i64) HV.out); infer_instance; (exact hV2); intro zv wv _ _ _) | ((with_reducible apply (wpl_alloc (dst := some 9))); intro zq wzq _ _ _) | ((with_reducible apply wpl_alloc); intro z wz _ _ _) | ((with_reducible apply (wpl_guard (op := .load _ _))); (exact rfl)) | ((with_reducible apply (wpl_guard (op := .fieldAddr _ _ _))); (exact rfl)) | ((with_reducible apply (wpl_guard (op := .convert _ _ _))); (exact rfl)) | ((with_reducible apply wpl_loadrow); (exact rfl); infer_instance; infer_instance; (first | (with_reducible assumption) | (with_reducible exact H32.size _) | kernel_rfl)) | ((with_reducible apply wpl_loadcellN); (exact rfl); infer_instance; (exact rfl)) | ((with_reducible apply wpl_storerow); (exact rfl); (exact rfl); infer_instance; infer_instance; (first | (with_reducible assumption) | (with_reducible exact H32.size _) | kernel_rfl); (first | (with_reducible assumption) | (with_reducible exact H32.size _) | kernel_rfl); (first | (with_reducible exact u8s_one _) | (with_reducible assumption) | kernel_rfl); intro ws _ _) | ((with_reducible apply wpl_storecell); (exact rfl); (exact rfl); infer_instance; (exact rfl); (first | (with_reducible assumption) | omega | (focus (simp; done)) | (focus (simp; omega; done)) | decide); intro ws _ _))
  have hzq : g < zq ∧ p < zq := by
    have h1 := (inferInstance : Born w5 zq).eq
    have h2 := H5.out.lts
    omega
  have ozq : OffB (Two g p) zq := ⟨fun h => by rcases h with h | h <;> omega⟩
  have hbv : HB wv zq 54 (bkL E.bank E.size E.sum E.cnt (strL E.name) M mm dd).toArray := inferInstance
  have H6 : Hid (BankAt wv g p 2 (E, img, 0)) := Lib.hid (H5.out.calm (stepN (w0 := w5) (w := wv)).chg)
  have hrv : HR wv (some ⟨zv, 0, none⟩) (bs (List.replicate V 0)) := inferInstance
  have hMv : HR wv M (bs E.mind) := inferInstance
  have hIv : HR wv I (bs img) := inferInstance
  have nv : Nw w wv := inferInstance
  clear H5
  refine (bkKeepNo_calls (x := 10) (mind := List.replicate V 0) H6.out (fun s hs => keep_long hs rfl (by rw [List.length_replicate]; exact hV1)) (by rw [List.length_replicate]) (by omega)).mono ?_
  rintro e w7 ⟨rfl, h7, _⟩
  have hb7 : HB w7 zq 54 (bkL E.bank E.size E.sum E.cnt (strL E.name) M mm dd).toArray := inferInstance
  have hM7 : HR w7 M (bs E.mind) := inferInstance
  have hI7 : HR w7 I (bs img) := inferInstance
  have n7 : Nw w w7 := inferInstance
  clear H6
  go_wp2_with (first | go_skip | ((with_reducible apply (wpl_makeB (n := U))); (exact congrArg (Value.int IntKind.i64) HU.out); (exact congrArg (Value.int IntKind.i64) HU.out); infer_instance; (exact hU2); intro zu wu _ _ _) | ((with_reducible apply wpl_alloc); intro z wz _ _ _) | ((with_reducible apply (wpl_guard (op := .load _ _))); (exact rfl)) | ((with_reducible apply (wpl_guard (op := .fieldAddr _ _ _))); (exact rfl)) | ((with_reducible apply (wpl_guard (op := .convert _ _ _))); (exact rfl)) | ((with_reducible apply wpl_loadrow); (exact rfl); infer_instance; infer_instance; (first | (with_reducible assumption) | (with_reducible exact H32.size _) | kernel_rfl)) | ((with_reducible apply wpl_loadcellN); (exact rfl); infer_instance; (exact rfl)) | ((with_reducible apply wpl_storerow); (exact rfl); (exact rfl); infer_instance; infer_instance; (first | (with_reducible assumption) | (with_reducible exact H32.size _) | kernel_rfl); (first | (with_reducible assumption) | (with_reducible exact H32.size _) | kernel_rfl); (first | (with_reducible exact u8s_one _) | (with_reducible assumption) | kernel_rfl); intro ws _ _) | ((with_reducible apply wpl_storecell); (exact rfl); (exact rfl); infer_instance; (exact rfl); (first | (with_reducible assumption) | omega | (focus (simp; done)) | (focus (simp; omega; done)) | decide); intro ws _ _))
  have hzu : g < zu ∧ p < zu := by
    have h1 := (inferInstance : Born w7 zu).eq
    have h2 := h7.out.lts
    omega
  have hru : HR wu (some ⟨zu, 0, none⟩) (bs (List.replicate U 0)) := inferInstance
  have H7 : Hid (BankAt wu g p 2 (E, img, 0)) := Lib.hid (h7.out.calm (stepN (w0 := w7)).chg)
  have hbu : HB wu zq 54 (bkL E.bank E.size E.sum E.cnt (strL E.name) M mm dd).toArray := inferInstance
  have hMu : HR wu M (bs E.mind) := inferInstance
  have hIu : HR wu I (bs img) := inferInstance
  have hnu := hnone wu
  have nu : Nw w wu := inferInstance
  clear h7
  refine (bkInstNo_calls H7.out [103] 9 (x := 10) (img := List.replicate U 0) (mind := []) (fun s hs => install_long hs (by rw [List.length_replicate]; exact hU1)) (by rw [List.length_replicate]) (Nat.le_refl _) (by omega) (apart_new2 (by omega) (by omega)) rfl (by decide) (apart_none _ _) (by decide)).mono ?_
  rintro e w8 ⟨rfl, h8, _⟩
  have hb8 : HB w8 zq 54 (bkL E.bank E.size E.sum E.cnt (strL E.name) M mm dd).toArray := inferInstance
  have hM8 : HR w8 M (bs E.mind) := inferInstance
  have hI8 : HR w8 I (bs img) := inferInstance
  have n8 : Nw w w8 := inferInstance
  clear H7
  go_wp2_with (first | go_skip | ((with_reducible apply wpl_alloc); intro z wz _ _ _) | ((with_reducible apply (wpl_guard (op := .load _ _))); (exact rfl)) | ((with_reducible apply (wpl_guard (op := .fieldAddr _ _ _))); (exact rfl)) | ((with_reducible apply (wpl_guard (op := .convert _ _ _))); (exact rfl)) | ((with_reducible apply wpl_loadrow); (exact rfl); infer_instance; infer_instance; (first | (with_reducible assumption) | (with_reducible exact H32.size _) | kernel_rfl)) | ((with_reducible apply wpl_loadcellN); (exact rfl); infer_instance; (exact rfl)) | ((with_reducible apply wpl_storerow); (exact rfl); (exact rfl); infer_instance; infer_instance; (first | (with_reducible assumption) | (with_reducible exact H32.size _) | kernel_rfl); (first | (with_reducible assumption) | (with_reducible exact H32.size _) | kernel_rfl); (first | (with_reducible exact u8s_one _) | (with_reducible assumption) | kernel_rfl); intro ws _ _) | ((with_reducible apply wpl_storecell); (exact rfl); (exact rfl); infer_instance; (exact rfl); (first | (with_reducible assumption) | omega | (focus (simp; done)) | (focus (simp; omega; done)) | decide); intro ws _ _))
  refine (bkBootAt_calls h8.out).mono ?_
  rintro e w9 ⟨M2, m2, d2, I2, n2', c2', rfl, hmM2, hM9, _, _, _, _, _⟩
  have hq2 := bkL_len E.bank E.size E.sum E.cnt (strL E.name) M2 m2 d2
  have ho2 := bkL_one E.bank E.size E.sum E.cnt (strL E.name) M2 m2 d2
  have hb9 : HB w9 zq 54 (bkL E.bank E.size E.sum E.cnt (strL E.name) M mm dd).toArray := inferInstance
  have n9 : Nw w w9 := inferInstance
  have hZ9 : HR w9 Z (bs mind) := ⟨HZ0.out.later n9.out⟩
  have hA9 : HR w9 A (bs img) := ⟨HA0.out.later n9.out⟩
  have hMm : HR w9 M (bs mind) := ⟨by have h : HR w9 M (bs E.mind) := inferInstance; rw [← HEM.out]; exact h.out⟩
  have hMm2 : HR w9 M2 (bs mind) := ⟨by rw [← HEM.out]; exact hM9.out⟩
  have hI9 : HR w9 I (bs img) := inferInstance
  have e1 : img.length = n := HL.out
  have e2 : mind.length = m := HM.out
  have e3 : img.length = ni := HNI.out
  have e4 : mind.length = mm := by rw [← HEM.out]; exact HNM.out
  have e5 : mind.length = m2 := by rw [← HEM.out]; exact hmM2
  have he0 : ((E.cnt : Int) == 7) = true := by simp [HEC.out]
  have he1 : ((strL E.name).toList == [102]) = true := by rw [HEN.out]; exact strL_self [102]
  have he2 : ((strL img).toList == (strL img).toList) = true := by simp
  have he3 : ((strL mind).toList == (strL mind).toList) = true := by simp
  clear hmM2 h8
  go_wp2_with (first | go_skip | ((with_reducible apply wpl_storerow); (exact rfl); (exact rfl); infer_instance; infer_instance; (exact hq2); (exact hs0); (exact ho2); intro wr _ hbr; have hbq9 : HB wr zq 54 (bkL E.bank E.size E.sum E.cnt (strL E.name) M mm dd).toArray := inferInstance) | ((with_reducible apply (wpl_guard (op := .call _))); (exact rfl)) | ((with_reducible apply (wpl_loadcell (k := 36))); (exact rfl); (first | (exact hbq9) | (exact hbr)); (exact bk_get36 _ _ _ _ _ _ _ _)) | ((with_reducible apply (wpl_loadcell (k := 35))); (exact rfl); (first | (exact hbq9) | (exact hbr)); (exact bk_get35 _ _ _ _ _ _ _ _)) | ((with_reducible apply (wpl_loadcell (k := 34))); (exact rfl); (first | (exact hbq9) | (exact hbr)); (exact bk_get34 _ _ _ _ _ _ _ _)) | ((with_reducible apply (wpl_guard (op := .convert _ _ _))); (exact rfl)) | ((with_reducible apply wpl_conv); (exact rfl); infer_instance; (first | (exact e1) | (exact e2) | (exact e3) | (exact e4) | (exact e5)); (exact Try.underlying22); (exact Try.underlying5); (exact Try.underlying9)) | ((with_reducible apply (wpl_alloc (dst := some 14))); intro zr wzr _ _ _) | ((with_reducible apply wpl_alloc); intro z wz _ _ _) | ((with_reducible apply (wpl_guard (op := .load _ _))); (exact rfl)) | ((with_reducible apply (wpl_guard (op := .fieldAddr _ _ _))); (exact rfl)) | ((with_reducible apply (wpl_guard (op := .convert _ _ _))); (exact rfl)) | ((with_reducible apply wpl_loadrow); (exact rfl); infer_instance; infer_instance; (first | (with_reducible assumption) | (with_reducible exact H32.size _) | kernel_rfl)) | ((with_reducible apply wpl_loadcellN); (exact rfl); infer_instance; (exact rfl)) | ((with_reducible apply wpl_storerow); (exact rfl); (exact rfl); infer_instance; infer_instance; (first | (with_reducible assumption) | (with_reducible exact H32.size _) | kernel_rfl); (first | (with_reducible assumption) | (with_reducible exact H32.size _) | kernel_rfl); (first | (with_reducible exact u8s_one _) | (with_reducible assumption) | kernel_rfl); intro ws _ _) | ((with_reducible apply wpl_storecell); (exact rfl); (exact rfl); infer_instance; (exact rfl); (first | (with_reducible assumption) | omega | (focus (simp; done)) | (focus (simp; omega; done)) | decide); intro ws _ _))
  refine (bkKnown_calls _).mono ?_
  rintro e w10 ⟨rfl, _⟩
  go_wp2_with (first | go_skip | ((with_reducible apply wpl_alloc); intro z wz _ _ _) | ((with_reducible apply (wpl_guard (op := .load _ _))); (exact rfl)) | ((with_reducible apply (wpl_guard (op := .fieldAddr _ _ _))); (exact rfl)) | ((with_reducible apply (wpl_guard (op := .convert _ _ _))); (exact rfl)) | ((with_reducible apply wpl_loadrow); (exact rfl); infer_instance; infer_instance; (first | (with_reducible assumption) | (with_reducible exact H32.size _) | kernel_rfl)) | ((with_reducible apply wpl_loadcellN); (exact rfl); infer_instance; (exact rfl)) | ((with_reducible apply wpl_storerow); (exact rfl); (exact rfl); infer_instance; infer_instance; (first | (with_reducible assumption) | (with_reducible exact H32.size _) | kernel_rfl); (first | (with_reducible assumption) | (with_reducible exact H32.size _) | kernel_rfl); (first | (with_reducible exact u8s_one _) | (with_reducible assumption) | kernel_rfl); intro ws _ _) | ((with_reducible apply wpl_storecell); (exact rfl); (exact rfl); infer_instance; (exact rfl); (first | (with_reducible assumption) | omega | (focus (simp; done)) | (focus (simp; omega; done)) | decide); intro ws _ _))
  go_ret
  exact ⟨rfl, (inferInstance : Nw w _).out⟩
end Go.Proofs.Ytegdihpnefoolaa
