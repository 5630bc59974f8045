/- EnJ -/
import Derived.Test.YthcleccofccbdaaTrEnF
import Derived.Test.YthcleccofccbdaaTrEnH
import Derived.Test.YthcleccofccbdaaTrKyR
import Derived.Test.YthcleccofccbdaaTrWzE
open Go Go.RowKit
namespace Go.Proofs.Ythcleccofccbdaa
theorem rmTk_leS (S : RS) (k : Nat) : (tkS rmTk S k).b.length ≤ S.b.length := by
  induction k with
  | zero => exact Nat.le_refl _
  | succ k ih => exact Nat.le_trans (rmTk_le _) ih
theorem own_cap {w : World} {e : TypeId} {s n c : Nat} {A : Option Addr} {xs : List Value} (h : Own w e s A n c xs) : n ≤ c := by
  rcases h.form with ⟨_, h1, h2, _⟩ | ⟨_, _, _, _, h1, _⟩ <;> omega
set_option maxRecDepth 100000 in
/-- Decode's answer, told once for both cases -/
theorem kdec_uni {b : List UInt8} {w w' : World} {e : Ending} (h : KDecPost b w e w') : Step nowhere w w' ∧ ∃ (lf : Int) (A B : Option Addr) (n c m d : Nat) (l p : List H32) (err : Int), e = .returned (.tuple #[.agg #[.int .i64 lf, .slice A n c, .slice B m d], .int .i64 err]) ∧ Hid (l.length = n ∧ p.length = m) ∧ HR w' A (cellsOf l) ∧ HR w' B (cellsOf p) ∧ NewA w A ∧ NewA w B ∧ Hid ((lf, l, p) = if dOk b then ((dLeaf b : Int), dL b, dP b) else (0, [], [])) ∧ Hid (err = if dOk b then 0 else 2) := by
  obtain ⟨st, h⟩ := h
  refine ⟨st, ?_⟩
  cases hd : dOk b
  · rw [hd] at h
    obtain rfl : e = _ := h
    exact ⟨0, none, none, 0, 0, 0, 0, [], [], 2, rfl, Lib.hid ⟨rfl, rfl⟩, ⟨Rd.nil _ _⟩, ⟨Rd.nil _ _⟩, newA_none _, newA_none _, Lib.hid rfl, Lib.hid rfl⟩
  · rw [hd] at h
    obtain ⟨A, B, c, d, rfl, h1, h2, h3, h4⟩ := h
    exact ⟨_, A, B, 36, c, 4, d, dL b, dP b, 0, rfl, Lib.hid ⟨RS.hs_len _ _, RS.hs_len _ _⟩, ⟨h1.out.rd⟩, ⟨h2.out.rd⟩, h3, h4, Lib.hid rfl, Lib.hid rfl⟩
theorem run_envU (M : Option Addr) (nb cb : Nat) (w : World) : (Instr.build 58 #[(0, .slice M nb cb)]).run Try.prog w = .ok (.agg #[.slice M nb cb, .slice none 0 0]) w := by kernel_rfl
set_option maxRecDepth 100000 in
set_option maxHeartbeats 6400000 in
theorem rDecodeEnv_calls {A : Option Addr} {n c : Nat} {b : List UInt8} {w : World} [hr : HR w A (bs b)] (hl : b.length = n) (hcap : n ≤ c) (hn : n ≤ 1000000000) :
    Calls Try.prog 29 #[.slice A n c] w (DecEv b w) := by
  obtain ⟨S, hS⟩ : ∃ S, S = kindS 6 b := ⟨_, rfl⟩
  obtain ⟨V, hV⟩ : ∃ V, V = S.row.1 := ⟨_, rfl⟩
  obtain ⟨S2, hS2⟩ : ∃ S2, S2 = S.row.2 := ⟨_, rfl⟩
  obtain ⟨S3, hS3⟩ : ∃ S3, S3 = S2.num.2 := ⟨_, rfl⟩
  obtain ⟨N, hN⟩ : ∃ N, N = S2.num.1 := ⟨_, rfl⟩
  have hSl : S.b.length ≤ 1000000000 := by
    have := kindS_le 6 b
    rw [← hS] at this
    omega
  have hS2l : S2.b.length ≤ S.b.length := by rw [hS2]; exact RS.row_le S
  have hS3l : S3.b.length ≤ S.b.length := by rw [hS3]; exact Nat.le_trans (RS.num_le S2) hS2l
  have hVl : V.length ≤ S.b.length := by rw [hV]; exact rowL_le S
  have hM : evMM b = if evOk b then (V, evP b, (0 : Int)) else ([], [], 2) := by
    rw [evMM, evM, ← hS, ← hV]
  have hRF : ∀ (P : List MkM) (s' : RS) (bad : Bool), GotE S2 P s' bad → (!bad && (wholeB s' && envOk V P && decide (b = envE V P))) = evOk b ∧ (evOk b = true → P = evP b) := fun P s' bad h => by
    have h1 := ev_ref (b := b) (P := P) (s' := s') (bad := bad) (by rw [evS, ← hS, ← hS2]; exact h)
    rwa [evM, ← hS, ← hV] at h1
  have HM := Lib.hid hM
  have HRF := Lib.hid hRF
  have HRR := Lib.hid hr.out
  have HS := Lib.hid hS
  have HV : Hid (S.row.1 = V) := Lib.hid hV.symm
  have HS2 : Hid (S.row.2 = S2) := Lib.hid hS2.symm
  have HS3 : Hid (S2.num.2 = S3) := Lib.hid hS3.symm
  have HN : Hid (S2.num.1 = N) := Lib.hid hN.symm
  have HLE := Lib.hid hl
  have kb0 : ∀ w, (Instr.build 58 #[]).run Try.prog w = .ok (.agg #[.slice none 0 0, .slice none 0 0]) w := fun _ => by kernel_rfl
  unfold DecEv
  clear hS hS2 hS3 hN hV hM hRF
  go_enter Try.func29, Try.ntmps29
  go_wp2_with (first | go_skip | ((with_reducible apply (wpl_alloc (dst := some 2))); intro zo wzo _ _ _) | ((with_reducible apply wpl_alloc); intro z wz _ _ _) | ((with_reducible apply (wpl_guard (op := .load _ _))); (exact rfl)) | ((with_reducible apply (wpl_guard (op := .fieldAddr _ _ _))); (exact rfl)) | ((with_reducible apply wpl_loadrow); (exact rfl); infer_instance; infer_instance; (first | (with_reducible assumption) | (with_reducible exact H32.size _) | (with_reducible exact enc_sz _ rfl) | kernel_rfl)) | ((with_reducible apply wpl_loadcellN); (exact rfl); infer_instance; (exact rfl)) | ((with_reducible apply wpl_storerow); (exact rfl); (exact rfl); infer_instance; infer_instance; (first | (with_reducible assumption) | (with_reducible exact H32.size _) | (with_reducible exact enc_sz _ rfl) | kernel_rfl); (first | (with_reducible assumption) | (with_reducible exact H32.size _) | (with_reducible exact enc_sz _ rfl) | kernel_rfl); (first | (with_reducible exact u8s_one _) | (with_reducible assumption) | (with_reducible exact enc_one _) | kernel_rfl); intro ws _ _) | ((with_reducible apply wpl_storecell); (exact rfl); (exact rfl); infer_instance; (exact rfl); (first | (with_reducible assumption) | omega | (focus (simp; done)) | (focus (simp; omega; done)) | decide); intro ws _ _))
  have hro : HR wzo A (bs b) := ⟨HRR.out.later (stepN (w0 := w) (w := wzo)).chg⟩
  have hzow : w.heap.size ≤ zo := Nat.le_of_eq (inferInstance : Born w zo).eq.symm
  refine (rReader_calls (kind := 6) (b := b) HLE.out hcap (by omega)).mono ?_
  rintro e w5 ⟨zr, d, rfl, _, hzr, hltr, h5, hdw⟩
  rw [← HS.out] at h5
  have hszo : w.heap.size ≤ wzo.heap.size := (inferInstance : SzLe w wzo).out
  have hzw : w.heap.size ≤ zr := Nat.le_trans hszo hzr
  have ag : Above w (only zr) := ⟨fun k h => by have h' : k = zr := h; omega⟩
  have hzol := (inferInstance : HB wzo zo 58 #[.slice none 0 0, .slice none 0 0]).out.lt
  have ozo : OffB (only zr) zo := ⟨fun e => by have e' : zo = zr := e; omega⟩
  have hd5 : S.b ≠ [] → d < w5.heap.size := fun h => h5.out.dlt h
  have hs5 : wzo.heap.size ≤ w5.heap.size := (inferInstance : SzLe wzo w5).out
  go_wp2_with (first | go_skip | ((with_reducible apply wpl_alloc); intro z wz _ _ _) | ((with_reducible apply (wpl_guard (op := .load _ _))); (exact rfl)) | ((with_reducible apply (wpl_guard (op := .fieldAddr _ _ _))); (exact rfl)) | ((with_reducible apply wpl_loadrow); (exact rfl); infer_instance; infer_instance; (first | (with_reducible assumption) | (with_reducible exact H32.size _) | (with_reducible exact enc_sz _ rfl) | kernel_rfl)) | ((with_reducible apply wpl_loadcellN); (exact rfl); infer_instance; (exact rfl)) | ((with_reducible apply wpl_storerow); (exact rfl); (exact rfl); infer_instance; infer_instance; (first | (with_reducible assumption) | (with_reducible exact H32.size _) | (with_reducible exact enc_sz _ rfl) | kernel_rfl); (first | (with_reducible assumption) | (with_reducible exact H32.size _) | (with_reducible exact enc_sz _ rfl) | kernel_rfl); (first | (with_reducible exact u8s_one _) | (with_reducible assumption) | (with_reducible exact enc_one _) | kernel_rfl); intro ws _ _) | ((with_reducible apply wpl_storecell); (exact rfl); (exact rfl); infer_instance; (exact rfl); (first | (with_reducible assumption) | omega | (focus (simp; done)) | (focus (simp; omega; done)) | decide); intro ws _ _))
  refine (rrBytes_calls zr d S w5 h5.out (by omega)).mono ?_
  rw [HV.out, HS2.out]
  rintro e w6 ⟨M, nM, cM, rfl, hnM, hOM, h6, c6, hM6⟩
  have st6 : Step (only zr) w5 w6 := ⟨c6.out⟩
  have hrM : HR w6 M (bs V) := ⟨hOM.out.rd⟩
  have HNM := Lib.hid hnM.out
  have hs6 : w5.heap.size ≤ w6.heap.size := st6.chg.size
  have kbE := run_envU M nM cM
  have hMlt : ∀ ad, M = some ad → ad.block < w6.heap.size := fun ad e => hOM.out.lt e
  clear c6 hOM h5
  go_wp2_with (first | go_skip | ((with_reducible apply (stop_dst (dst := some 18))); (try simp only [Act.put, sA, sB, sC]); ((with_reducible apply (wpl_build (dst := some 18))); (exact kbE _))) | ((with_reducible apply (wpl_alloc (dst := some 5))); intro zt wzt _ _ _) | ((with_reducible apply wpl_alloc); intro z wz _ _ _) | ((with_reducible apply (wpl_guard (op := .load _ _))); (exact rfl)) | ((with_reducible apply (wpl_guard (op := .fieldAddr _ _ _))); (exact rfl)) | ((with_reducible apply wpl_loadrow); (exact rfl); infer_instance; infer_instance; (first | (with_reducible assumption) | (with_reducible exact H32.size _) | (with_reducible exact enc_sz _ rfl) | kernel_rfl)) | ((with_reducible apply wpl_loadcellN); (exact rfl); infer_instance; (exact rfl)) | ((with_reducible apply wpl_storerow); (exact rfl); (exact rfl); infer_instance; infer_instance; (first | (with_reducible assumption) | (with_reducible exact H32.size _) | (with_reducible exact enc_sz _ rfl) | kernel_rfl); (first | (with_reducible assumption) | (with_reducible exact H32.size _) | (with_reducible exact enc_sz _ rfl) | kernel_rfl); (first | (with_reducible exact u8s_one _) | (with_reducible assumption) | (with_reducible exact enc_one _) | kernel_rfl); intro ws _ _) | ((with_reducible apply wpl_storecell); (exact rfl); (exact rfl); infer_instance; (exact rfl); (first | (with_reducible assumption) | omega | (focus (simp; done)) | (focus (simp; omega; done)) | decide); intro ws _ _))
  obtain ⟨wq, hwq⟩ : ∃ wq : World, wq = ws := ⟨_, rfl⟩
  subst hwq
  have htq : HB wq zt 58 #[.slice M nM cM, .slice none 0 0] := inferInstance
  have hzt : w6.heap.size ≤ zt := Nat.le_of_eq (inferInstance : Born w6 zt).eq.symm
  have nwq : Nw w6 wq := inferInstance
  have hsq : w6.heap.size ≤ wq.heap.size := nwq.out.size
  have hztl := htq.out.lt
  have otr : OffB (only zr) zt := ⟨fun e => by have e' : zt = zr := e; omega⟩
  have at_ : Above w (only zt) := ⟨fun k h => by have h' : k = zt := h; omega⟩
  have oto : OffB (only zt) zo := ⟨fun e => by have e' : zo = zt := e; omega⟩
  have oMr : OffA (only zr) M := ⟨fun ad e h => by have h' : ad.block = zr := h; have := hM6.out ad e; omega⟩
  have oMt : OffA (only zt) M := ⟨fun ad e h => by have h' : ad.block = zt := h; have := hMlt ad e; omega⟩
  have far : ∀ (s : RS) (w1 w2 : World), s.b.length ≤ S.b.length → Step (only zt) w1 w2 → RRAt w1 zr d s → RRAt w2 zr d s := fun s w1 w2 hs st h => h.chg2 st.chg (fun e => by have e' : zr = zt := e; omega) (fun hne e => by have e' : d = zt := e; have := hd5 (ne_of_le hs hne); omega)
  have hrMq : HR wq M (bs V) := inferInstance
  have hzoq : HB wq zo 58 #[.slice none 0 0, .slice none 0 0] := inferInstance
  have hwwq : Nw w wq := ⟨(stepN (w0 := w) (w := wq)).chg⟩
  refine (rrNum_calls zr d S2 wq (h6.out.chg nwq.out (fun h => h) (fun h => h)) (by omega)).mono ?_
  rw [HN.out, HS3.out]
  rintro e w8 ⟨rfl, h8, c8⟩
  have st8 : Step (only zr) wq w8 := ⟨c8.out⟩
  have ht8 : HB w8 zt 58 #[.slice M nM cM, .slice none 0 0] := inferInstance
  have hzo8 : HB w8 zo 58 #[.slice none 0 0, .slice none 0 0] := inferInstance
  have hrM8 : HR w8 M (bs V) := ⟨hrMq.out.chg st8.chg (fun _ ad e h => oMr.out ad e h)⟩
  have hC8 : Hid (Chg (gz2 zr zt) wq w8) := Lib.hid (c8.out.mono (T := gz2 zr zt) (fun _ _ h => .inl h))
  clear c8 htq h6
  go_wp2_with (first | go_skip | ((with_reducible apply wpl_alloc); intro z wz _ _ _) | ((with_reducible apply (wpl_guard (op := .load _ _))); (exact rfl)) | ((with_reducible apply (wpl_guard (op := .fieldAddr _ _ _))); (exact rfl)) | ((with_reducible apply wpl_loadrow); (exact rfl); infer_instance; infer_instance; (first | (with_reducible assumption) | (with_reducible exact H32.size _) | (with_reducible exact enc_sz _ rfl) | kernel_rfl)) | ((with_reducible apply wpl_loadcellN); (exact rfl); infer_instance; (exact rfl)) | ((with_reducible apply wpl_storerow); (exact rfl); (exact rfl); infer_instance; infer_instance; (first | (with_reducible assumption) | (with_reducible exact H32.size _) | (with_reducible exact enc_sz _ rfl) | kernel_rfl); (first | (with_reducible assumption) | (with_reducible exact H32.size _) | (with_reducible exact enc_sz _ rfl) | kernel_rfl); (first | (with_reducible exact u8s_one _) | (with_reducible assumption) | (with_reducible exact enc_one _) | kernel_rfl); intro ws _ _) | ((with_reducible apply wpl_storecell); (exact rfl); (exact rfl); infer_instance; (exact rfl); (first | (with_reducible assumption) | omega | (focus (simp; done)) | (focus (simp; omega; done)) | decide); intro ws _ _))
  go_loopw [7, 8] (fun bv iv wr => ∃ (k : Nat) (A1 : Option Addr) (c1 : Nat) (D : List MarkR) (bad : Bool), k ≤ N ∧ k ≤ 5 ∧ iv = .int .i64 (k : Int) ∧ bv = .bool bad ∧ k ≤ c1 ∧ Hid (Chg (gz2 zr zt) wq wr) ∧ HO wr 125 35 A1 k c1 (cellsOf D) ∧ NewA wq A1 ∧ HB wr zt 58 #[.slice M nM cM, .slice A1 k c1] ∧ HB wr zo 58 #[.slice none 0 0, .slice none 0 0] ∧ HR wr M (bs V) ∧ Hid (RRAt wr zr d (tkS rmTk S3 k)) ∧ Hid (D.map MarkR.m = tkL rmTk S3 k) ∧ Hid (bad = bdN S3 k) ∧ Hid (KsM wq wr A1 D)) (fun _ iv _ => 5 - (intOf iv).toNat)
  case atStart => exact ⟨0, none, 0, [], false, Nat.zero_le _, Nat.zero_le _, rfl, rfl, Nat.le_refl _, hC8, ⟨Own.nil _ _ _⟩, newA_none _, ht8, hzo8, hrM8, h8, Lib.hid rfl, Lib.hid rfl, Lib.hid (fun x hx => by cases hx)⟩
  case round =>
    clear st8 h8 ht8 hzo8 hrM8 hC8
    obtain ⟨k, A1, c1, D, bad, hkN, hk5, rfl, rfl, hkc, hC, hO, hA1, ht, hzo, hrM', hR, hDm, hBD, hDk⟩ := hrel
    obtain ⟨Ar, nr', cr', hrd⟩ := hR.out.blk
    have hsl := rmTk_leS S3 k
    have hszr := hC.out.size
    by_cases hgo : k < N ∧ (tkS rmTk S3 k).e = false ∧ k ≤ 4
    · obtain ⟨hlt, hee, hle⟩ := hgo
      have hltI : (k : Int) < N := by omega
      have hleI : (k : Int) ≤ 4 := by omega
      rw [hee] at hrd
      obtain ⟨s, hs⟩ : ∃ s, s = tkS rmTk S3 k := ⟨_, rfl⟩
      obtain ⟨K, hK⟩ : ∃ x, x = s.hsh := ⟨_, rfl⟩
      obtain ⟨s1, hs1⟩ : ∃ x, x = mkS1 s := ⟨_, rfl⟩
      obtain ⟨y, hy⟩ : ∃ x, x = mkBy s := ⟨_, rfl⟩
      obtain ⟨s2, hs2⟩ : ∃ x, x = s1.row.2 := ⟨_, rfl⟩
      have hsk1 : tkS rmTk S3 (k + 1) = s2 := by rw [hs2, hs1, hs]; rfl
      have hmk : (rmTk s).1 = if dOk y then (K, (dLeaf y : Int), dL y, dP y) else (K, 0, [], []) := by rw [hK, hy]; rfl
      have htl : tkL rmTk S3 (k + 1) = tkL rmTk S3 k ++ [if dOk y then (K, (dLeaf y : Int), dL y, dP y) else (K, 0, [], [])] := by rw [tkL, ← hs, hmk]
      have hbd : bdN S3 (k + 1) = (bad || !dOk y) := by rw [bdN, ← hs, ← hy, ← hBD.out]
      have HTL := Lib.hid htl
      have HBK := Lib.hid hbd
      have HSK := Lib.hid hsk1
      have HR1 : Hid (RRAt wr zr d s) := Lib.hid (by rw [hs]; exact hR.out)
      have hsl1 : s.b.length ≤ S.b.length := by rw [hs]; exact Nat.le_trans hsl hS3l
      have e1 : s1.b.length ≤ s.b.length := by rw [hs1]; exact mkS1_le s
      have e2 : s2.b.length ≤ s1.b.length := by rw [hs2]; exact RS.row_le _
      have ey : y.length ≤ s.b.length := by rw [hy]; exact mkBy_le s
      have HKh : Hid (s.hash = K) := Lib.hid (by rw [hK]; rfl)
      have HS1 : Hid ((s.raw 32).2 = s1) := Lib.hid hs1.symm
      have HY : Hid (s1.row.1 = y) := Lib.hid (by rw [hy, hs1]; rfl)
      have HSS2 : Hid (s1.row.2 = s2) := Lib.hid hs2.symm
      have hCr := hC
      have HDM := hDm
      have HDK := hDk
      have ozA : OffA (only zt) A1 := ⟨fun ad e h => by have h' : ad.block = zt := h; have := hA1.out ad e; omega⟩
      have orA : OffA (only zr) A1 := ⟨fun ad e h => by have h' : ad.block = zr := h; have := hA1.out ad e; omega⟩
      have orz : OffB (rowOf A1) zt := ⟨fun ⟨ad, e, h⟩ => by have := hA1.out ad e; omega⟩
      have oro : OffB (rowOf A1) zo := ⟨fun ⟨ad, e, h⟩ => by have := hA1.out ad e; omega⟩
      have oMA : OffA (rowOf A1) M := ⟨fun ad e ⟨ad2, e2, h⟩ => by have := hA1.out ad2 e2; have := hMlt ad e; omega⟩
      have kbK := run_mkK K
      have hsK := mkA_size K 0 none 0 0 none 0 0
      have hoK := mkA_one K 0 none 0 0 none 0 0
      have hk35 : 32 + 3 ≤ (mkA K 0 none 0 0 none 0 0).size := by rw [hsK]; decide
      clear hC hR hDm hBD hDk hs hK hs1 hy hs2 hsk1 hmk htl hbd hsl
      go_wp2_with (first | go_skip | ((with_reducible apply wpl_loadcellN); (exact rfl); (exact hrd); (exact rfl)) | ((with_reducible apply wpl_alloc); intro z wz _ _ _) | ((with_reducible apply (wpl_guard (op := .load _ _))); (exact rfl)) | ((with_reducible apply (wpl_guard (op := .fieldAddr _ _ _))); (exact rfl)) | ((with_reducible apply wpl_loadrow); (exact rfl); infer_instance; infer_instance; (first | (with_reducible assumption) | (with_reducible exact H32.size _) | (with_reducible exact enc_sz _ rfl) | kernel_rfl)) | ((with_reducible apply wpl_loadcellN); (exact rfl); infer_instance; (exact rfl)) | ((with_reducible apply wpl_storerow); (exact rfl); (exact rfl); infer_instance; infer_instance; (first | (with_reducible assumption) | (with_reducible exact H32.size _) | (with_reducible exact enc_sz _ rfl) | kernel_rfl); (first | (with_reducible assumption) | (with_reducible exact H32.size _) | (with_reducible exact enc_sz _ rfl) | kernel_rfl); (first | (with_reducible exact u8s_one _) | (with_reducible assumption) | (with_reducible exact enc_one _) | kernel_rfl); intro ws _ _) | ((with_reducible apply wpl_storecell); (exact rfl); (exact rfl); infer_instance; (exact rfl); (first | (with_reducible assumption) | omega | (focus (simp; done)) | (focus (simp; omega; done)) | decide); intro ws _ _))
      refine (rhash_calls HR1.out (by omega)).mono ?_
      rw [HKh.out, HS1.out]
      rintro e w9 ⟨rfl, st9, h9⟩
      have ht9 : HB w9 zt 58 #[.slice M nM cM, .slice A1 k c1] := inferInstance
      have hzo9 : HB w9 zo 58 #[.slice none 0 0, .slice none 0 0] := inferInstance
      have hO9 : HO w9 125 35 A1 k c1 (cellsOf D) := inferInstance
      have hM9 : HR w9 M (bs V) := ⟨hrM'.out.chg st9.chg (fun _ ad e h => oMr.out ad e h)⟩
      have hs9 : wr.heap.size ≤ w9.heap.size := st9.chg.size
      go_wp2_with (first | go_skip | ((with_reducible apply (stop_dst (dst := some 39))); (try simp only [Act.put, sA, sB, sC]); ((with_reducible apply (wpl_build (dst := some 39))); (exact kbK _))) | ((with_reducible apply (wpl_alloc (dst := some 9))); intro zm wzm _ _ _) | ((with_reducible apply wpl_alloc); intro z wz _ _ _) | ((with_reducible apply (wpl_guard (op := .load _ _))); (exact rfl)) | ((with_reducible apply (wpl_guard (op := .fieldAddr _ _ _))); (exact rfl)) | ((with_reducible apply wpl_loadrow); (exact rfl); infer_instance; infer_instance; (first | (with_reducible assumption) | (with_reducible exact H32.size _) | (with_reducible exact enc_sz _ rfl) | kernel_rfl)) | ((with_reducible apply wpl_loadcellN); (exact rfl); infer_instance; (exact rfl)) | ((with_reducible apply wpl_storerow); (exact rfl); (exact rfl); infer_instance; infer_instance; (first | (with_reducible assumption) | (with_reducible exact H32.size _) | (with_reducible exact enc_sz _ rfl) | kernel_rfl); (first | (with_reducible assumption) | (with_reducible exact H32.size _) | (with_reducible exact enc_sz _ rfl) | kernel_rfl); (first | (with_reducible exact u8s_one _) | (with_reducible assumption) | (with_reducible exact enc_one _) | kernel_rfl); intro ws _ _) | ((with_reducible apply wpl_storecell); (exact rfl); (exact rfl); infer_instance; (exact rfl); (first | (with_reducible assumption) | omega | (focus (simp; done)) | (focus (simp; omega; done)) | decide); intro ws _ _))
      obtain ⟨wa9, hwa9⟩ : ∃ x : World, x = ws := ⟨_, rfl⟩
      subst hwa9
      have hzm : w9.heap.size ≤ zm := Nat.le_of_eq (inferInstance : Born w9 zm).eq.symm
      have hmA : HB wa9 zm 125 (mkA K 0 none 0 0 none 0 0) := inferInstance
      have hzml := hmA.out.lt
      have nw9 : Nw w9 wa9 := inferInstance
      have omr : OffB (only zr) zm := ⟨fun e => by have e' : zm = zr := e; omega⟩
      have hM9b : HR wa9 M (bs V) := ⟨hM9.out.chg nw9.out (fun _ _ _ h => h)⟩
      refine (rrBytes_calls zr d s1 wa9 (h9.out.chg nw9.out (fun h => h) (fun h => h)) (by omega)).mono ?_
      rw [HY.out, HSS2.out]
      rintro e w10 ⟨A10, n10, c10, rfl, hn10, hO10, h10, c10', hA10⟩
      have st10 : Step (only zr) wa9 w10 := ⟨c10'.out⟩
      have hr10 : HR w10 A10 (bs y) := ⟨hO10.out.rd⟩
      have ht10 : HB w10 zt 58 #[.slice M nM cM, .slice A1 k c1] := inferInstance
      have hzo10 : HB w10 zo 58 #[.slice none 0 0, .slice none 0 0] := inferInstance
      have hm10 : HB w10 zm 125 (mkA K 0 none 0 0 none 0 0) := inferInstance
      have hO10b : HO w10 125 35 A1 k c1 (cellsOf D) := inferInstance
      have hM10 : HR w10 M (bs V) := ⟨hM9b.out.chg st10.chg (fun _ ad e h => oMr.out ad e h)⟩
      have hs10 : wa9.heap.size ≤ w10.heap.size := st10.chg.size
      have hC10 : Hid (Chg (gz2 zr zt) wq w10) := Lib.hid (((hCr.out.trans st9.chg (fun _ _ h => .inl h)).trans nw9.out (fun _ _ h => h.elim)).trans st10.chg (fun _ _ h => .inl h))
      clear c10'
      go_wp2_with (first | go_skip | ((with_reducible apply wpl_alloc); intro z wz _ _ _) | ((with_reducible apply (wpl_guard (op := .load _ _))); (exact rfl)) | ((with_reducible apply (wpl_guard (op := .fieldAddr _ _ _))); (exact rfl)) | ((with_reducible apply wpl_loadrow); (exact rfl); infer_instance; infer_instance; (first | (with_reducible assumption) | (with_reducible exact H32.size _) | (with_reducible exact enc_sz _ rfl) | kernel_rfl)) | ((with_reducible apply wpl_loadcellN); (exact rfl); infer_instance; (exact rfl)) | ((with_reducible apply wpl_storerow); (exact rfl); (exact rfl); infer_instance; infer_instance; (first | (with_reducible assumption) | (with_reducible exact H32.size _) | (with_reducible exact enc_sz _ rfl) | kernel_rfl); (first | (with_reducible assumption) | (with_reducible exact H32.size _) | (with_reducible exact enc_sz _ rfl) | kernel_rfl); (first | (with_reducible exact u8s_one _) | (with_reducible assumption) | (with_reducible exact enc_one _) | kernel_rfl); intro ws _ _) | ((with_reducible apply wpl_storecell); (exact rfl); (exact rfl); infer_instance; (exact rfl); (first | (with_reducible assumption) | omega | (focus (simp; done)) | (focus (simp; omega; done)) | decide); intro ws _ _))
      refine (rkdecode_calls (b := y) hn10.out.symm (own_cap hO10.out) (by have := hn10.out; omega)).mono ?_
      rintro e w11 hdc
      obtain ⟨st11, lf, A6, B6, n6, c6, m6, d6, l, p, err, rfl, hlp, hrL, hrP, hA6, hB6, hval, herr⟩ := kdec_uni hdc
      clear hdc
      have HVAL : Hid ((RowC.enc (⟨K, lf, A6, c6, l, B6, d6, p⟩ : MarkR)).toArray = mkA K lf A6 n6 c6 B6 m6 d6) := Lib.hid (by rw [mkA_val, hlp.out.1, hlp.out.2])
      have HPUT := Lib.hid (mkA_put K 0 lf none A6 none B6 0 0 0 0 n6 c6 m6 d6)
      have hs36 := mkA_size K lf A6 n6 c6 B6 m6 d6
      have ho36 := mkA_one K lf A6 n6 c6 B6 m6 d6
      have kb1 := run_mk1 (⟨K, lf, A6, c6, l, B6, d6, p⟩ : MarkR)
      rw [HVAL.out] at kb1
      have hm11 : HB w11 zm 125 (mkA K 0 none 0 0 none 0 0) := inferInstance
      have ht11 : HB w11 zt 58 #[.slice M nM cM, .slice A1 k c1] := inferInstance
      have hzo11 : HB w11 zo 58 #[.slice none 0 0, .slice none 0 0] := inferInstance
      have hO11 : HO w11 125 35 A1 k c1 (cellsOf D) := inferInstance
      have hM11 : HR w11 M (bs V) := ⟨hM10.out.chg st11.chg (fun _ _ _ h => h)⟩
      have oMm : OffA (only zm) M := ⟨fun ad e h => by have h' : ad.block = zm := h; have := hMlt ad e; omega⟩
      have omt : OffB (only zm) zt := ⟨fun e => by have e' : zt = zm := e; have := ht9.out.lt; omega⟩
      have omo : OffB (only zm) zo := ⟨fun e => by have e' : zo = zm := e; have := hzo9.out.lt; omega⟩
      have omA : OffA (only zm) A1 := ⟨fun ad e h => by have h' : ad.block = zm := h; have := hO9.out.lt e; omega⟩
      have oLm : OffA (only zm) A6 := ⟨fun ad e h => by have h' : ad.block = zm := h; have := hA6.out ad e; omega⟩
      have oPm : OffA (only zm) B6 := ⟨fun ad e h => by have h' : ad.block = zm := h; have := hB6.out ad e; omega⟩
      cases hd : dOk y
      all_goals
        rw [hd] at herr hval
        have HDD := Lib.hid hd
        obtain ⟨E, hE⟩ : ∃ E, E = err := ⟨_, rfl⟩
        cases bad
      all_goals
        first
          | (obtain rfl : err = 2 := herr.out)
          | (obtain rfl : err = 0 := herr.out)
        clear hd hE
        go_wp2_with (first | go_skip | ((with_reducible apply wpl_storepart); (exact rfl); (exact rfl); infer_instance; infer_instance; (exact rfl); (decide); (exact hk35); (exact sig_one _ _ _ _ _ _ _); (exact HPUT.out); intro wp stp htp) | ((with_reducible apply (stop_dst (dst := some 56))); (try simp only [Act.put, sA, sB, sC]); ((with_reducible apply (wpl_bslice (dst := some 56))); (exact kb1 _); intro zb wb _ _ _)) | ((with_reducible apply (wpl_appendR (α := MarkR))); (exact rfl); (exact rfl); infer_instance; infer_instance; (exact HB.cells inferInstance); (exact rfl); (exact rfl); omega; (decide); (decide); intro A2 c2 wa _ _ hG hcap2) | ((with_reducible apply (wpl_alloc (dst := some 10))); intro zs wzs _ _ _) | ((with_reducible apply wpl_alloc); intro z wz _ _ _) | ((with_reducible apply (wpl_guard (op := .load _ _))); (exact rfl)) | ((with_reducible apply (wpl_guard (op := .fieldAddr _ _ _))); (exact rfl)) | ((with_reducible apply wpl_loadrow); (exact rfl); infer_instance; infer_instance; (first | (with_reducible assumption) | (with_reducible exact H32.size _) | (with_reducible exact enc_sz _ rfl) | kernel_rfl)) | ((with_reducible apply wpl_loadcellN); (exact rfl); infer_instance; (exact rfl)) | ((with_reducible apply wpl_storerow); (exact rfl); (exact rfl); infer_instance; infer_instance; (first | (with_reducible assumption) | (with_reducible exact H32.size _) | (with_reducible exact enc_sz _ rfl) | kernel_rfl); (first | (with_reducible assumption) | (with_reducible exact H32.size _) | (with_reducible exact enc_sz _ rfl) | kernel_rfl); (first | (with_reducible exact u8s_one _) | (with_reducible assumption) | (with_reducible exact enc_one _) | kernel_rfl); intro ws _ _) | ((with_reducible apply wpl_storecell); (exact rfl); (exact rfl); infer_instance; (exact rfl); (first | (with_reducible assumption) | omega | (focus (simp; done)) | (focus (simp; omega; done)) | decide); intro ws _ _))
        have hc1 : Chg (only zm) w11 wp := (inferInstance : Ch (only zm) w11 wp).out
        have hc2 : Chg (rowOf A1) wp wa := (inferInstance : Ch (rowOf A1) wp wa).out
        have hc3 : Chg (only zt) wa ws := (inferInstance : Step (only zt) wa ws).chg
        have hsb : w11.heap.size ≤ wb.heap.size := Nat.le_trans hc1.size (inferInstance : SzLe wp wb).out
        have hs11 : w10.heap.size ≤ w11.heap.size := st11.chg.size
        have hdk : s2.b ≠ [] → d < w5.heap.size := fun h => hd5 (ne_of_le (by omega) h)
        have hA2 : NewA wq A2 := newA_grew hG hA1 (by omega)
        have hztq : zt < wq.heap.size := hztl
        have hA1lt : ∀ y, rowOf A1 y → wq.heap.size ≤ y ∧ y < w9.heap.size := fun y ⟨ad, e, h⟩ => by
          have h1 := hA1.out ad e
          have h2 := hO9.out.lt e
          omega
        refine ⟨⟨k + 1, A2, c2, D ++ [⟨K, lf, A6, c6, l, B6, d6, p⟩], _, by omega, by omega, by go_num, rfl, hcap2, Lib.hid ?_, inferInstance, hA2, inferInstance, inferInstance, ⟨((hM11.out.chg hc1 (fun _ ad e h => oMm.out ad e h)).chg hc2 (fun _ ad e h => oMA.out ad e h)).chg hc3 (fun _ ad e h => oMt.out ad e h)⟩, Lib.hid ?_, Lib.hid ?_, Lib.hid ?_, Lib.hid ?_⟩, by simp [intOf]; omega⟩
        · exact (((hC10.out.trans st11.chg (fun _ _ h => h.elim)).trans hc1 (fun x hx h => by have h' : x = zm := h; omega)).trans hc2 (fun x hx h => by have := hA1lt x h; omega)).trans hc3 (fun _ _ h => .inr h)
        · rw [HSK.out]
          exact (((h10.out.chg st11.chg (fun h => h) (fun h => h)).far hc1 (m := w5.heap.size) (fun x h => by have h' : x = zm := h; omega) hltr hdk).far hc2 (m := w5.heap.size) (fun x h => by have := hA1lt x h; omega) hltr hdk).far hc3 (m := w5.heap.size) (fun x h => by have h' : x = zt := h; omega) hltr hdk
        · rw [List.map_append, HDM.out, HTL.out, HDD.out]
          show _ ++ [((K, (lf, l, p)) : MkM)] = _
          rw [hval.out]
          rfl
        · rw [HBK.out, HDD.out]
          rfl
        · intro z hz
          rcases List.mem_append.1 hz with h | h
          · obtain ⟨q1, q2, q3⟩ := HDK.out z h
            have hlow := MarkIn.low q1
            have hnew := inMk_new q2
            have g1 := q1.chg st9.chg (fun y hy h => by have h' : y = zr := h; have := hnew y hy; omega)
            have g2 := g1.chg nw9.out (fun _ _ h => h)
            have g3 := g2.chg st10.chg (fun y hy h => by have h' : y = zr := h; have := hnew y hy; omega)
            have g4 := g3.chg st11.chg (fun _ _ h => h)
            have g5 := g4.chg hc1 (fun y hy h => by have h' : y = zm := h; have := hlow y hy; omega)
            have g6 := g5.chg hc2 q3
            have g7 := g6.chg hc3 (fun y hy h => by have h' : y = zt := h; have := hnew y hy; omega)
            refine ⟨g7, q2, fun y hy h => ?_⟩
            have h6 := hlow y hy
            rcases hG.out with h9 | h9
            · rw [h9] at h; exact q3 y hy h
            · rw [h9] at h
              obtain ⟨ad, e, h8⟩ := h
              injection e with e
              subst e
              have h7 : wb.heap.size = y := h8
              omega
          · obtain rfl := List.mem_singleton.1 h
            have hnew : ∀ y, inMk (⟨K, lf, A6, c6, l, B6, d6, p⟩ : MarkR) y → w10.heap.size ≤ y := inMk_new (x := ⟨K, lf, A6, c6, l, B6, d6, p⟩) ⟨hA6, hB6⟩
            have g4 : MarkIn w11 (⟨K, lf, A6, c6, l, B6, d6, p⟩ : MarkR) := ⟨hrL.out, hrP.out⟩
            have hlow := MarkIn.low g4
            have g5 := g4.chg hc1 (fun y hy h => by have h' : y = zm := h; have := hnew y hy; omega)
            have g6 := g5.chg hc2 (fun y hy h => by have := hA1lt y h; have := hnew y hy; omega)
            have g7 := g6.chg hc3 (fun y hy h => by have h' : y = zt := h; have := hnew y hy; omega)
            refine ⟨g7, ⟨⟨fun ad e => by have := hA6.out ad e; omega⟩, ⟨fun ad e => by have := hB6.out ad e; omega⟩⟩, fun y hy h => ?_⟩
            have h6 := hlow y hy
            have h5 := hnew y hy
            rcases hG.out with h9 | h9
            · rw [h9] at h
              have := hA1lt y h
              omega
            · rw [h9] at h
              obtain ⟨ad, e, h8⟩ := h
              injection e with e
              subst e
              have h7 : wb.heap.size = y := h8
              omega
    · have HGE : Hid (GotE S2 (tkL rmTk S3 k) (tkS rmTk S3 k) bad) := Lib.hid (by
        refine ⟨k, hk5, by rw [HN.out]; exact hkN, ?_, by rw [HS3.out], by rw [HS3.out], by rw [HS3.out]; exact hBD.out⟩
        rw [HN.out, HS3.out]
        cases hee : (tkS rmTk S3 k).e
        · by_cases hlt : k < N
          · exact .inr (.inl (by have : ¬ k ≤ 4 := fun h => hgo ⟨hlt, hee, h⟩; omega))
          · exact .inl (by omega)
        · exact .inr (.inr rfl))
      have hcase : (¬ k < N) ∨ (k < N ∧ (tkS rmTk S3 k).e = true) ∨ (k < N ∧ (tkS rmTk S3 k).e = false ∧ ¬ k ≤ 4) := by
        by_cases hlt : k < N
        · cases hee : (tkS rmTk S3 k).e
          · exact .inr (.inr ⟨hlt, rfl, fun h => hgo ⟨hlt, hee, h⟩⟩)
          · exact .inr (.inl ⟨hlt, rfl⟩)
        · exact .inl hlt
      have hDl : D.length = k := by
        have h9 := congrArg List.length hDm.out
        rw [List.length_map, tkL_len] at h9
        exact h9
      have hRF := HRF.out _ _ _ HGE.out
      rw [← hDm.out] at hRF
      obtain ⟨s', hs'⟩ : ∃ s', s' = tkS rmTk S3 k := ⟨_, rfl⟩
      rw [← hs'] at hRF
      have HF := Lib.hid hRF
      have hsl2 : s'.b.length ≤ 1000000000 := by rw [hs']; omega
      rw [← hs'] at hR hcase hrd
      have HR' := hR
      have HO' : Hid (Rd wr A1 (cellsOf D)) := Lib.hid hO.out.rd
      have HMR : Hid (Rd wr M (bs V)) := Lib.hid hrM'.out
      obtain ⟨I, hI⟩ : ∃ I, I = envOk V (D.map MarkR.m) := ⟨_, rfl⟩
      have HI := Lib.hid hI
      have hsw : w.heap.size ≤ wq.heap.size := hwwq.out.size
      have nwr : Nw w wr := ⟨hwwq.out.trans hC.out (fun x hx h => by rcases h with h | h <;> omega)⟩
      have hrD : HR wr A1 (cellsOf D) := ⟨hO.out.rd⟩
      have HDK := hDk
      have HKM : Hid (∀ x ∈ D, MarkIn wr x) := Lib.hid (fun x hx => (hDk.out x hx).1)
      have hV9 : V.length ≤ 9223372036854775807 := by omega
      have HVN : Hid (V.length = nM) := Lib.hid HNM.out.symm
      have HDL : Hid (D.length = k) := Lib.hid hDl
      have hnM9 : nM ≤ 9223372036854775807 := by have := HNM.out; omega
      clear hgo hC hR hs' hRF hI hO HGE hsl hDk hBD hDm hDl
      clear hzoq hrMq hrM hro nwq st6 hwwq ag at_ ozo otr oto oMr oMt kbE
      rcases hcase with hlt | ⟨hlt, hee⟩ | ⟨hlt, hee, hle4⟩
      focus
        have hltI : ¬ (k : Int) < N := by omega
        clear hlt
        go_wp2_with (first | go_skip | ((with_reducible apply wpl_alloc); intro z wz _ _ _) | ((with_reducible apply (wpl_guard (op := .load _ _))); (exact rfl)) | ((with_reducible apply (wpl_guard (op := .fieldAddr _ _ _))); (exact rfl)) | ((with_reducible apply wpl_loadrow); (exact rfl); infer_instance; infer_instance; (first | (with_reducible assumption) | (with_reducible exact H32.size _) | (with_reducible exact enc_sz _ rfl) | kernel_rfl)) | ((with_reducible apply wpl_loadcellN); (exact rfl); infer_instance; (exact rfl)) | ((with_reducible apply wpl_storerow); (exact rfl); (exact rfl); infer_instance; infer_instance; (first | (with_reducible assumption) | (with_reducible exact H32.size _) | (with_reducible exact enc_sz _ rfl) | kernel_rfl); (first | (with_reducible assumption) | (with_reducible exact H32.size _) | (with_reducible exact enc_sz _ rfl) | kernel_rfl); (first | (with_reducible exact u8s_one _) | (with_reducible assumption) | (with_reducible exact enc_one _) | kernel_rfl); intro ws _ _) | ((with_reducible apply wpl_storecell); (exact rfl); (exact rfl); infer_instance; (exact rfl); (first | (with_reducible assumption) | omega | (focus (simp; done)) | (focus (simp; omega; done)) | decide); intro ws _ _))
        refine (rEncodeEnv_calls (m := V) (L := D) HKM.out HVN.out HDL.out (by omega) hnM9).mono ?_
      rotate_left
      focus
        have hltI : (k : Int) < N := by omega
        rw [hee] at hrd
        clear hlt hee
        go_wp2_with (first | go_skip | ((with_reducible apply wpl_loadcellN); (exact rfl); (exact hrd); (exact rfl)) | ((with_reducible apply wpl_alloc); intro z wz _ _ _) | ((with_reducible apply (wpl_guard (op := .load _ _))); (exact rfl)) | ((with_reducible apply (wpl_guard (op := .fieldAddr _ _ _))); (exact rfl)) | ((with_reducible apply wpl_loadrow); (exact rfl); infer_instance; infer_instance; (first | (with_reducible assumption) | (with_reducible exact H32.size _) | (with_reducible exact enc_sz _ rfl) | kernel_rfl)) | ((with_reducible apply wpl_loadcellN); (exact rfl); infer_instance; (exact rfl)) | ((with_reducible apply wpl_storerow); (exact rfl); (exact rfl); infer_instance; infer_instance; (first | (with_reducible assumption) | (with_reducible exact H32.size _) | (with_reducible exact enc_sz _ rfl) | kernel_rfl); (first | (with_reducible assumption) | (with_reducible exact H32.size _) | (with_reducible exact enc_sz _ rfl) | kernel_rfl); (first | (with_reducible exact u8s_one _) | (with_reducible assumption) | (with_reducible exact enc_one _) | kernel_rfl); intro ws _ _) | ((with_reducible apply wpl_storecell); (exact rfl); (exact rfl); infer_instance; (exact rfl); (first | (with_reducible assumption) | omega | (focus (simp; done)) | (focus (simp; omega; done)) | decide); intro ws _ _))
        refine (rEncodeEnv_calls (m := V) (L := D) HKM.out HVN.out HDL.out (by omega) hnM9).mono ?_
      rotate_left
      focus
        have hltI : (k : Int) < N := by omega
        have hleI : ¬ (k : Int) ≤ 4 := by omega
        rw [hee] at hrd
        clear hlt hee hle4
        go_wp2_with (first | go_skip | ((with_reducible apply wpl_loadcellN); (exact rfl); (exact hrd); (exact rfl)) | ((with_reducible apply wpl_alloc); intro z wz _ _ _) | ((with_reducible apply (wpl_guard (op := .load _ _))); (exact rfl)) | ((with_reducible apply (wpl_guard (op := .fieldAddr _ _ _))); (exact rfl)) | ((with_reducible apply wpl_loadrow); (exact rfl); infer_instance; infer_instance; (first | (with_reducible assumption) | (with_reducible exact H32.size _) | (with_reducible exact enc_sz _ rfl) | kernel_rfl)) | ((with_reducible apply wpl_loadcellN); (exact rfl); infer_instance; (exact rfl)) | ((with_reducible apply wpl_storerow); (exact rfl); (exact rfl); infer_instance; infer_instance; (first | (with_reducible assumption) | (with_reducible exact H32.size _) | (with_reducible exact enc_sz _ rfl) | kernel_rfl); (first | (with_reducible assumption) | (with_reducible exact H32.size _) | (with_reducible exact enc_sz _ rfl) | kernel_rfl); (first | (with_reducible exact u8s_one _) | (with_reducible assumption) | (with_reducible exact enc_one _) | kernel_rfl); intro ws _ _) | ((with_reducible apply wpl_storecell); (exact rfl); (exact rfl); infer_instance; (exact rfl); (first | (with_reducible assumption) | omega | (focus (simp; done)) | (focus (simp; omega; done)) | decide); intro ws _ _))
        refine (rEncodeEnv_calls (m := V) (L := D) HKM.out HVN.out HDL.out (by omega) hnM9).mono ?_
      rotate_left
      all_goals
        unfold EncPost
        rw [← HI.out] at HF ⊢
        cases I
        case false =>
          have HNO : Hid (evOk b = false) := Lib.hid (by rw [← HF.out.1]; simp)
          rintro e w12 ⟨st12, h12⟩
          obtain rfl : e = _ := h12
          cases bad
          case false =>
            go_wp2_with (first | go_skip | ((with_reducible apply wpl_alloc); intro z wz _ _ _) | ((with_reducible apply (wpl_guard (op := .load _ _))); (exact rfl)) | ((with_reducible apply (wpl_guard (op := .fieldAddr _ _ _))); (exact rfl)) | ((with_reducible apply wpl_loadrow); (exact rfl); infer_instance; infer_instance; (first | (with_reducible assumption) | (with_reducible exact H32.size _) | (with_reducible exact enc_sz _ rfl) | kernel_rfl)) | ((with_reducible apply wpl_loadcellN); (exact rfl); infer_instance; (exact rfl)) | ((with_reducible apply wpl_storerow); (exact rfl); (exact rfl); infer_instance; infer_instance; (first | (with_reducible assumption) | (with_reducible exact H32.size _) | (with_reducible exact enc_sz _ rfl) | kernel_rfl); (first | (with_reducible assumption) | (with_reducible exact H32.size _) | (with_reducible exact enc_sz _ rfl) | kernel_rfl); (first | (with_reducible exact u8s_one _) | (with_reducible assumption) | (with_reducible exact enc_one _) | kernel_rfl); intro ws _ _) | ((with_reducible apply wpl_storecell); (exact rfl); (exact rfl); infer_instance; (exact rfl); (first | (with_reducible assumption) | omega | (focus (simp; done)) | (focus (simp; omega; done)) | decide); intro ws _ _))
            have nw12 : Nw w w12 := ⟨nwr.out.trans st12.chg (fun _ _ h => h)⟩
            have hb12 : HR w12 A (bs b) := nw12.hrR HRR.out
            have hn12 : HR w12 none (bs []) := HR.nilB w12
            have HR12 : RRAt w12 zr d s' := HR'.out.chg st12.chg (fun h => h) (fun h => h)
            refine (rJust_calls (b := b) (y := []) (e0 := 1) HR12 (by omega) HLE.out rfl).mono ?_
            rw [show (wholeB s' && decide ((1 : Int) = 0) && decide (b = [])) = false by simp]
            have hzo12 : HB w12 zo 58 #[.slice none 0 0, .slice none 0 0] := inferInstance
            clear hzo ht hrM' hrD hb12 hn12 HR12 st12 nwr
            rintro e w13 ⟨rfl, rfl⟩
            go_wp2_with (first | go_skip | ((with_reducible apply wpl_build); (exact kb0 _)) | ((with_reducible apply wpl_storerow); (exact rfl); (exact rfl); (exact hzo12); infer_instance; (exact rfl); (exact rfl); (exact rfl); intro ws _ _) | ((with_reducible apply wpl_alloc); intro z wz _ _ _) | ((with_reducible apply (wpl_guard (op := .load _ _))); (exact rfl)) | ((with_reducible apply (wpl_guard (op := .fieldAddr _ _ _))); (exact rfl)) | ((with_reducible apply wpl_loadrow); (exact rfl); infer_instance; infer_instance; (first | (with_reducible assumption) | (with_reducible exact H32.size _) | (with_reducible exact enc_sz _ rfl) | kernel_rfl)) | ((with_reducible apply wpl_loadcellN); (exact rfl); infer_instance; (exact rfl)) | ((with_reducible apply wpl_storerow); (exact rfl); (exact rfl); infer_instance; infer_instance; (first | (with_reducible assumption) | (with_reducible exact H32.size _) | (with_reducible exact enc_sz _ rfl) | kernel_rfl); (first | (with_reducible assumption) | (with_reducible exact H32.size _) | (with_reducible exact enc_sz _ rfl) | kernel_rfl); (first | (with_reducible exact u8s_one _) | (with_reducible assumption) | (with_reducible exact enc_one _) | kernel_rfl); intro ws _ _) | ((with_reducible apply wpl_storecell); (exact rfl); (exact rfl); infer_instance; (exact rfl); (first | (with_reducible assumption) | omega | (focus (simp; done)) | (focus (simp; omega; done)) | decide); intro ws _ _))
            refine ret_row_ rfl rfl rfl (n := 2) rfl rfl ⟨stepN, none, 0, 0, none, 0, 0, [], [], 2, rfl, Lib.hid ⟨?_, rfl, rfl, Nat.zero_le _⟩, Lib.hid (Rd.nil _ _), Lib.hid (Rd.nil _ _), Lib.hid (fun x hx => by cases hx), newA_none _, newA_none _⟩
            rw [HM.out, HNO.out]
            rfl
          case true =>
            go_wp2_with (first | go_skip | ((with_reducible apply (wpl_guard (op := .call _))); (exact rfl)) | ((with_reducible apply wpl_build); (exact kb0 _)) | ((with_reducible apply wpl_alloc); intro z wz _ _ _) | ((with_reducible apply (wpl_guard (op := .load _ _))); (exact rfl)) | ((with_reducible apply (wpl_guard (op := .fieldAddr _ _ _))); (exact rfl)) | ((with_reducible apply wpl_loadrow); (exact rfl); infer_instance; infer_instance; (first | (with_reducible assumption) | (with_reducible exact H32.size _) | (with_reducible exact enc_sz _ rfl) | kernel_rfl)) | ((with_reducible apply wpl_loadcellN); (exact rfl); infer_instance; (exact rfl)) | ((with_reducible apply wpl_storerow); (exact rfl); (exact rfl); infer_instance; infer_instance; (first | (with_reducible assumption) | (with_reducible exact H32.size _) | (with_reducible exact enc_sz _ rfl) | kernel_rfl); (first | (with_reducible assumption) | (with_reducible exact H32.size _) | (with_reducible exact enc_sz _ rfl) | kernel_rfl); (first | (with_reducible exact u8s_one _) | (with_reducible assumption) | (with_reducible exact enc_one _) | kernel_rfl); intro ws _ _) | ((with_reducible apply wpl_storecell); (exact rfl); (exact rfl); infer_instance; (exact rfl); (first | (with_reducible assumption) | omega | (focus (simp; done)) | (focus (simp; omega; done)) | decide); intro ws _ _))
            refine ret_row_ rfl rfl rfl (n := 2) rfl rfl ⟨stepN, none, 0, 0, none, 0, 0, [], [], 2, rfl, Lib.hid ⟨?_, rfl, rfl, Nat.zero_le _⟩, Lib.hid (Rd.nil _ _), Lib.hid (Rd.nil _ _), Lib.hid (fun x hx => by cases hx), newA_none _, newA_none _⟩
            rw [HM.out, HNO.out]
            rfl
        case true =>
          rintro e w12 ⟨st12, A5, n5, c5, rfl, hn5, hO5, hA5⟩
          have HN5 := Lib.hid hn5
          have HO5 := Lib.hid hO5.out.rd
          clear hn5 hO5
          cases bad
          case true =>
            have HNO : Hid (evOk b = false) := Lib.hid (by rw [← HF.out.1]; simp)
            go_wp2_with (first | go_skip | ((with_reducible apply (wpl_guard (op := .call _))); (exact rfl)) | ((with_reducible apply wpl_build); (exact kb0 _)) | ((with_reducible apply wpl_alloc); intro z wz _ _ _) | ((with_reducible apply (wpl_guard (op := .load _ _))); (exact rfl)) | ((with_reducible apply (wpl_guard (op := .fieldAddr _ _ _))); (exact rfl)) | ((with_reducible apply wpl_loadrow); (exact rfl); infer_instance; infer_instance; (first | (with_reducible assumption) | (with_reducible exact H32.size _) | (with_reducible exact enc_sz _ rfl) | kernel_rfl)) | ((with_reducible apply wpl_loadcellN); (exact rfl); infer_instance; (exact rfl)) | ((with_reducible apply wpl_storerow); (exact rfl); (exact rfl); infer_instance; infer_instance; (first | (with_reducible assumption) | (with_reducible exact H32.size _) | (with_reducible exact enc_sz _ rfl) | kernel_rfl); (first | (with_reducible assumption) | (with_reducible exact H32.size _) | (with_reducible exact enc_sz _ rfl) | kernel_rfl); (first | (with_reducible exact u8s_one _) | (with_reducible assumption) | (with_reducible exact enc_one _) | kernel_rfl); intro ws _ _) | ((with_reducible apply wpl_storecell); (exact rfl); (exact rfl); infer_instance; (exact rfl); (first | (with_reducible assumption) | omega | (focus (simp; done)) | (focus (simp; omega; done)) | decide); intro ws _ _))
            refine ret_row_ rfl rfl rfl (n := 2) rfl rfl ⟨stepN, none, 0, 0, none, 0, 0, [], [], 2, rfl, Lib.hid ⟨?_, rfl, rfl, Nat.zero_le _⟩, Lib.hid (Rd.nil _ _), Lib.hid (Rd.nil _ _), Lib.hid (fun x hx => by cases hx), newA_none _, newA_none _⟩
            rw [HM.out, HNO.out]
            rfl
          case false =>
            go_wp2_with (first | go_skip | ((with_reducible apply wpl_alloc); intro z wz _ _ _) | ((with_reducible apply (wpl_guard (op := .load _ _))); (exact rfl)) | ((with_reducible apply (wpl_guard (op := .fieldAddr _ _ _))); (exact rfl)) | ((with_reducible apply wpl_loadrow); (exact rfl); infer_instance; infer_instance; (first | (with_reducible assumption) | (with_reducible exact H32.size _) | (with_reducible exact enc_sz _ rfl) | kernel_rfl)) | ((with_reducible apply wpl_loadcellN); (exact rfl); infer_instance; (exact rfl)) | ((with_reducible apply wpl_storerow); (exact rfl); (exact rfl); infer_instance; infer_instance; (first | (with_reducible assumption) | (with_reducible exact H32.size _) | (with_reducible exact enc_sz _ rfl) | kernel_rfl); (first | (with_reducible assumption) | (with_reducible exact H32.size _) | (with_reducible exact enc_sz _ rfl) | kernel_rfl); (first | (with_reducible exact u8s_one _) | (with_reducible assumption) | (with_reducible exact enc_one _) | kernel_rfl); intro ws _ _) | ((with_reducible apply wpl_storecell); (exact rfl); (exact rfl); infer_instance; (exact rfl); (first | (with_reducible assumption) | omega | (focus (simp; done)) | (focus (simp; omega; done)) | decide); intro ws _ _))
            have nw12 : Nw w w12 := ⟨nwr.out.trans st12.chg (fun _ _ h => h)⟩
            have hb12 : HR w12 A (bs b) := nw12.hrR HRR.out
            have hy12 : HR w12 A5 (bs (envE V (D.map MarkR.m))) := ⟨HO5.out⟩
            have HR12 : RRAt w12 zr d s' := HR'.out.chg st12.chg (fun h => h) (fun h => h)
            have ht12 : HB w12 zt 58 #[.slice M nM cM, .slice A1 k c1] := inferInstance
            have hzo12 : HB w12 zo 58 #[.slice none 0 0, .slice none 0 0] := inferInstance
            refine (rJust_calls (b := b) (y := envE V (D.map MarkR.m)) (e0 := 0) HR12 (by omega) HLE.out HN5.out.symm).mono ?_
            have e9 : (wholeB s' && decide ((0 : Int) = 0) && decide (b = envE V (D.map MarkR.m))) = evOk b := by
              have h9 := HF.out.1
              simpa using h9
            rw [e9]
            clear e9
            cases hOK : evOk b
            case false =>
              have HNO := Lib.hid hOK
              clear hOK
              rintro e w13 ⟨rfl, rfl⟩
              go_wp2_with (first | go_skip | ((with_reducible apply wpl_build); (exact kb0 _)) | ((with_reducible apply wpl_alloc); intro z wz _ _ _) | ((with_reducible apply (wpl_guard (op := .load _ _))); (exact rfl)) | ((with_reducible apply (wpl_guard (op := .fieldAddr _ _ _))); (exact rfl)) | ((with_reducible apply wpl_loadrow); (exact rfl); infer_instance; infer_instance; (first | (with_reducible assumption) | (with_reducible exact H32.size _) | (with_reducible exact enc_sz _ rfl) | kernel_rfl)) | ((with_reducible apply wpl_loadcellN); (exact rfl); infer_instance; (exact rfl)) | ((with_reducible apply wpl_storerow); (exact rfl); (exact rfl); infer_instance; infer_instance; (first | (with_reducible assumption) | (with_reducible exact H32.size _) | (with_reducible exact enc_sz _ rfl) | kernel_rfl); (first | (with_reducible assumption) | (with_reducible exact H32.size _) | (with_reducible exact enc_sz _ rfl) | kernel_rfl); (first | (with_reducible exact u8s_one _) | (with_reducible assumption) | (with_reducible exact enc_one _) | kernel_rfl); intro ws _ _) | ((with_reducible apply wpl_storecell); (exact rfl); (exact rfl); infer_instance; (exact rfl); (first | (with_reducible assumption) | omega | (focus (simp; done)) | (focus (simp; omega; done)) | decide); intro ws _ _))
              refine ret_row_ rfl rfl rfl (n := 2) rfl rfl ⟨stepN, none, 0, 0, none, 0, 0, [], [], 2, rfl, Lib.hid ⟨?_, rfl, rfl, Nat.zero_le _⟩, Lib.hid (Rd.nil _ _), Lib.hid (Rd.nil _ _), Lib.hid (fun x hx => by cases hx), newA_none _, newA_none _⟩
              rw [HM.out, HNO.out]
              rfl
            case true =>
              have HYE : Hid (evMM b = (V, D.map MarkR.m, (0 : Int))) := Lib.hid (by rw [HM.out, hOK, HF.out.2 hOK]; rfl)
              have HK4 : Hid (k ≤ 4) := Lib.hid (by
                have h9 := HI.out.symm
                unfold envOk at h9
                simp only [Bool.and_eq_true, decide_eq_true_eq, List.length_map] at h9
                rw [← HDL.out]
                exact h9.1.2)
              clear hOK
              rintro e w13 ⟨rfl, rfl⟩
              go_wp2_with (first | go_skip | ((with_reducible apply wpl_alloc); intro z wz _ _ _) | ((with_reducible apply (wpl_guard (op := .load _ _))); (exact rfl)) | ((with_reducible apply (wpl_guard (op := .fieldAddr _ _ _))); (exact rfl)) | ((with_reducible apply wpl_loadrow); (exact rfl); infer_instance; infer_instance; (first | (with_reducible assumption) | (with_reducible exact H32.size _) | (with_reducible exact enc_sz _ rfl) | kernel_rfl)) | ((with_reducible apply wpl_loadcellN); (exact rfl); infer_instance; (exact rfl)) | ((with_reducible apply wpl_storerow); (exact rfl); (exact rfl); infer_instance; infer_instance; (first | (with_reducible assumption) | (with_reducible exact H32.size _) | (with_reducible exact enc_sz _ rfl) | kernel_rfl); (first | (with_reducible assumption) | (with_reducible exact H32.size _) | (with_reducible exact enc_sz _ rfl) | kernel_rfl); (first | (with_reducible exact u8s_one _) | (with_reducible assumption) | (with_reducible exact enc_one _) | kernel_rfl); intro ws _ _) | ((with_reducible apply wpl_storecell); (exact rfl); (exact rfl); infer_instance; (exact rfl); (first | (with_reducible assumption) | omega | (focus (simp; done)) | (focus (simp; omega; done)) | decide); intro ws _ _))
              have hcF : Chg (only zo) wr ws := (inferInstance : Ch (only zo) wr ws).out
              have hnoz : ∀ y, wzo.heap.size ≤ y → ¬ only zo y := fun y hy h => by
                have h' : y = zo := h
                omega
              refine ret_row_ rfl rfl rfl (n := 2) rfl rfl ⟨stepN, M, nM, cM, A1, k, c1, V, D, 0, rfl, Lib.hid ⟨HYE.out.symm, HVN.out, HDL.out, HK4.out⟩, Lib.hid ?_, Lib.hid ?_, Lib.hid (fun x hx => ?_), ⟨fun ad e => by have := hM6.out ad e; omega⟩, ⟨fun ad e => by have := hA1.out ad e; omega⟩⟩
              · exact HMR.out.chg hcF (fun _ ad e => hnoz _ (by have := hM6.out ad e; omega))
              · exact HO'.out.chg hcF (fun _ ad e => hnoz _ (by have := hA1.out ad e; omega))
              · obtain ⟨q1, q2, _⟩ := HDK.out x hx
                exact ⟨q1.chg hcF (fun y hy => hnoz y (by have := inMk_new q2 y hy; omega)), ⟨fun ad e => by have := q2.1.out ad e; omega⟩, ⟨fun ad e => by have := q2.2.out ad e; omega⟩⟩
end Go.Proofs.Ythcleccofccbdaa
