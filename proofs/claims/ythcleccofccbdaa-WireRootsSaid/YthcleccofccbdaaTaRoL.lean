/- RoL -/
import Derived.Test.YthcleccofccbdaaTaRoJ
import Derived.Test.YthcleccofccbdaaTaRoK
import Derived.Test.YthcleccofccbdaaTaPlain
import Derived.Test.YthcleccofccbdaaTaWsB
open Go Go.RowKit
namespace Go.Proofs.Ythcleccofccbdaa
theorem EncPost.uniR {ok : Bool} {bytes : List UInt8} {w w' : World} {e : Ending} (h : EncPost ok bytes w e w') :
    Step nowhere w w' ∧ ∃ A n c, e = .returned (.tuple #[.slice A n c, .int .i64 (if ok then 0 else 1)]) ∧ (if ok then bytes else []).length = n ∧ HR w' A (bs (if ok then bytes else [])) := by
  obtain ⟨hs, h⟩ := h
  refine ⟨hs, ?_⟩
  cases ok with
  | false =>
    obtain rfl : e = _ := h
    exact ⟨none, 0, 0, rfl, rfl, HR.nilB w'⟩
  | true =>
    obtain ⟨A, n, c, rfl, hn, hO, _⟩ := h
    exact ⟨A, n, c, rfl, hn.symm, ⟨hO.out.rd⟩⟩
instance factNilR : Fact' (([] : List UInt8).length ≤ maxLen) := ⟨Nat.zero_le _⟩
theorem run_emptyBR (w : World) : (Instr.buildSlice 28 0 #[]).run Try.prog w = .ok (.slice (some ⟨w.heap.size, 0, none⟩) 0 0) (w.alloc (.cells (u8s []) 5)) := by kernel_rfl
theorem run_keys4 (a b c d : KR) (w : World) : (Instr.buildSlice 96 4 #[(0, .agg (RowC.enc a).toArray), (1, .agg (RowC.enc b).toArray), (2, .agg (RowC.enc c).toArray), (3, .agg (RowC.enc d).toArray)]).run Try.prog w = .ok (.slice (some ⟨w.heap.size, 0, none⟩) 4 4) (w.alloc (.cells (cellsOf [a, b, c, d]).toArray 24)) := by kernel_rfl
theorem HB.keys {w : World} {z : Nat} {t : TypeId} {K : List KR} (h : HB w z t (cellsOf K).toArray) : HR w (some ⟨z, 0, none⟩) (cellsOf K) := ⟨by
  have h1 := h.rdL
  simpa using h1⟩
set_option maxRecDepth 100000 in
set_option maxHeartbeats 3200000 in
theorem wireRoots_calls (v e0 : Int) (K : List KR) {A : Option Addr} {q d : Nat} {b : List UInt8} (h4 : K.length = 4) {w : World} (hK : ∀ k ∈ K, KIn0 w k) (hn : ∀ k ∈ K, k.n ≤ 4398046511104) [hr : HR w A (bs b)] (hl : b.length = q) (hcap : q ≤ d) (hq9 : q ≤ 9223372036854775807) :
    Calls Try.prog 3 #[.agg (rootL v e0 K).toArray, .slice A q d] w fun e w' => e = .returned (.bool true) ∧ Chg nowhere w w' := by
  have hlen := rootL_len v e0 K h4
  have hone := rootL_one v e0 K
  have HLE := Lib.hid hl
  have HRR := Lib.hid hr.out
  have H4 := Lib.hid h4
  have HKI := Lib.hid hK
  have HKN := Lib.hid hn
  have hK4 : ∃ a b c d, K = [a, b, c, d] := by
    rcases K with _ | ⟨a, _ | ⟨b, _ | ⟨c, _ | ⟨d, _ | ⟨e, l⟩⟩⟩⟩⟩ <;> simp at h4
    exact ⟨a, b, c, d, rfl⟩
  have hsl := sumK_mem K
  obtain ⟨k0, k1, k2, k3, hKe⟩ := hK4
  have g0 : gt K 0 = k0 := by rw [hKe]; rfl
  have g1 : gt K 1 = k1 := by rw [hKe]; rfl
  have g2 : gt K 2 = k2 := by rw [hKe]; rfl
  have g3 : gt K 3 = k3 := by rw [hKe]; rfl
  have kb4 := run_keys4 k0 k1 k2 k3
  rw [← hKe, ← g0, ← g1, ← g2, ← g3] at kb4
  have l0 : 0 < K.length := by omega
  have l1 : 1 < K.length := by omega
  have l2 : 2 < K.length := by omega
  have l3 : 3 < K.length := by omega
  clear hKe g0 g1 g2 g3 hK hn hl
  obtain ⟨R, hR⟩ : ∃ R, R = decide (60 < sumK K) := ⟨_, rfl⟩
  have HR0 := Lib.hid hR
  have HSL := Lib.hid hsl
  clear hR hsl
  go_enter Try.func3, Try.ntmps3
  go_wp2_with (first | go_skip | ((with_reducible apply (stop_dst (dst := some 14))); (with_reducible apply (wpl_indexRK (i := 0) (m := 4))); (exact rfl); (exact rfl); (exact Try.underlying25); (kernel_rfl); (decide)) | ((with_reducible apply (stop_dst (dst := some 17))); (with_reducible apply (wpl_indexRK (i := 1) (m := 4))); (exact rfl); (exact rfl); (exact Try.underlying25); (kernel_rfl); (decide)) | ((with_reducible apply (stop_dst (dst := some 20))); (with_reducible apply (wpl_indexRK (i := 2) (m := 4))); (exact rfl); (exact rfl); (exact Try.underlying25); (kernel_rfl); (decide)) | ((with_reducible apply (stop_dst (dst := some 23))); (with_reducible apply (wpl_indexRK (i := 3) (m := 4))); (exact rfl); (exact rfl); (exact Try.underlying25); (kernel_rfl); (decide)) | ((with_reducible apply (stop_dst (dst := some 15))); (with_reducible apply (wpl_loadRK (i := 0))); (exact rfl); infer_instance; infer_instance; (exact l0)) | ((with_reducible apply (stop_dst (dst := some 18))); (with_reducible apply (wpl_loadRK (i := 1))); (exact rfl); infer_instance; infer_instance; (exact l1)) | ((with_reducible apply (stop_dst (dst := some 21))); (with_reducible apply (wpl_loadRK (i := 2))); (exact rfl); infer_instance; infer_instance; (exact l2)) | ((with_reducible apply (stop_dst (dst := some 24))); (with_reducible apply (wpl_loadRK (i := 3))); (exact rfl); infer_instance; infer_instance; (exact l3)) | ((with_reducible apply (stop_dst (dst := some 25))); (try simp only [Act.put, sA, sB, sC]); ((with_reducible apply (wpl_bslice (dst := some 25))); (exact kb4 _); intro zk wb _ _ _)) | ((with_reducible apply (wpl_alloc (dst := some 2))); intro zt wzt _ _ _) | ((with_reducible apply (wpl_box_agg (dst := some 2))); (exact rfl); intro zt wzt _ _ _) | ((with_reducible apply (wpl_box_int (dst := some 2))); (exact rfl); intro zt wzt _ _ _) | ((with_reducible apply (wpl_box_slice (dst := some 2))); (exact rfl); intro zt wzt _ _ _) | ((with_reducible apply (wpl_box_str (dst := some 2))); (exact rfl); intro zt wzt _ _ _) | ((with_reducible apply (wpl_box_bool (dst := some 2))); (exact rfl); intro zt wzt _ _ _) | ((with_reducible apply (wpl_box_ptr (dst := some 2))); (exact rfl); intro zt wzt _ _ _) | ((with_reducible apply wpl_alloc); intro z wz _ _ _) | ((with_reducible apply wpl_box_agg); (exact rfl); intro z wz _ _ _) | ((with_reducible apply wpl_box_int); (exact rfl); intro z wz _ _ _) | ((with_reducible apply wpl_box_slice); (exact rfl); intro z wz _ _ _) | ((with_reducible apply wpl_box_str); (exact rfl); intro z wz _ _ _) | ((with_reducible apply wpl_box_bool); (exact rfl); intro z wz _ _ _) | ((with_reducible apply wpl_box_ptr); (exact rfl); intro z wz _ _ _) | ((with_reducible apply (wpl_guard (op := .load _ _))); (exact rfl)) | ((with_reducible apply wpl_loadrow); (exact rfl); infer_instance; infer_instance; (first | (with_reducible assumption) | (with_reducible exact H32.size _) | kernel_rfl)) | ((with_reducible apply wpl_loadcellN); (exact rfl); infer_instance; (exact rfl)) | ((with_reducible apply wpl_storerow); (exact rfl); (exact rfl); infer_instance; infer_instance; (first | (with_reducible assumption) | (with_reducible exact H32.size _) | kernel_rfl); (first | (with_reducible assumption) | (with_reducible exact H32.size _) | kernel_rfl); (first | (with_reducible exact u8s_one _) | (with_reducible assumption) | kernel_rfl); intro ws _ _) | ((with_reducible apply wpl_storecell); (exact rfl); (exact rfl); infer_instance; (exact rfl); (first | (with_reducible assumption) | omega | (focus (simp; done)) | (focus (simp; omega; done)) | decide); intro ws _ _))
  have hrk : HR wb (some ⟨zk, 0, none⟩) (cellsOf K) := HB.keys (inferInstance : HB wb zk 24 (cellsOf K).toArray)
  refine (many_calls (K := K) H4.out HKN.out).mono ?_
  rw [← HR0.out]
  rintro e w1 ⟨rfl, _⟩
  cases R
  case true =>
    go_wp2_with (first | go_skip | ((with_reducible apply wpl_alloc); intro z wz _ _ _) | ((with_reducible apply wpl_box_agg); (exact rfl); intro z wz _ _ _) | ((with_reducible apply wpl_box_int); (exact rfl); intro z wz _ _ _) | ((with_reducible apply wpl_box_slice); (exact rfl); intro z wz _ _ _) | ((with_reducible apply wpl_box_str); (exact rfl); intro z wz _ _ _) | ((with_reducible apply wpl_box_bool); (exact rfl); intro z wz _ _ _) | ((with_reducible apply wpl_box_ptr); (exact rfl); intro z wz _ _ _) | ((with_reducible apply (wpl_guard (op := .load _ _))); (exact rfl)) | ((with_reducible apply wpl_loadrow); (exact rfl); infer_instance; infer_instance; (first | (with_reducible assumption) | (with_reducible exact H32.size _) | kernel_rfl)) | ((with_reducible apply wpl_loadcellN); (exact rfl); infer_instance; (exact rfl)) | ((with_reducible apply wpl_storerow); (exact rfl); (exact rfl); infer_instance; infer_instance; (first | (with_reducible assumption) | (with_reducible exact H32.size _) | kernel_rfl); (first | (with_reducible assumption) | (with_reducible exact H32.size _) | kernel_rfl); (first | (with_reducible exact u8s_one _) | (with_reducible assumption) | kernel_rfl); intro ws _ _) | ((with_reducible apply wpl_storecell); (exact rfl); (exact rfl); infer_instance; (exact rfl); (first | (with_reducible assumption) | omega | (focus (simp; done)) | (focus (simp; omega; done)) | decide); intro ws _ _))
    go_ret
    exact ⟨rfl, (stepN (w0 := w)).chg⟩
  case false =>
    have hsum : ∀ k ∈ K, k.n ≤ 1000 := fun k hk => by
      have h1 := HSL.out k hk
      have h2 : ¬ 60 < sumK K := of_decide_eq_false HR0.out.symm
      omega
    have HKK : Hid (∀ k ∈ K, KIn w k) := Lib.hid (fun k hk => ⟨(HKI.out k hk).rd, (HKI.out k hk).len, (HKI.out k hk).cap, hsum k hk⟩)
    clear hsum
    by_cases c0 : 2000 < q
    · have c1 : 2000 < (q : Int) := by omega
      go_wp2_with (first | go_skip | ((with_reducible apply wpl_alloc); intro z wz _ _ _) | ((with_reducible apply wpl_box_agg); (exact rfl); intro z wz _ _ _) | ((with_reducible apply wpl_box_int); (exact rfl); intro z wz _ _ _) | ((with_reducible apply wpl_box_slice); (exact rfl); intro z wz _ _ _) | ((with_reducible apply wpl_box_str); (exact rfl); intro z wz _ _ _) | ((with_reducible apply wpl_box_bool); (exact rfl); intro z wz _ _ _) | ((with_reducible apply wpl_box_ptr); (exact rfl); intro z wz _ _ _) | ((with_reducible apply (wpl_guard (op := .load _ _))); (exact rfl)) | ((with_reducible apply wpl_loadrow); (exact rfl); infer_instance; infer_instance; (first | (with_reducible assumption) | (with_reducible exact H32.size _) | kernel_rfl)) | ((with_reducible apply wpl_loadcellN); (exact rfl); infer_instance; (exact rfl)) | ((with_reducible apply wpl_storerow); (exact rfl); (exact rfl); infer_instance; infer_instance; (first | (with_reducible assumption) | (with_reducible exact H32.size _) | kernel_rfl); (first | (with_reducible assumption) | (with_reducible exact H32.size _) | kernel_rfl); (first | (with_reducible exact u8s_one _) | (with_reducible assumption) | kernel_rfl); intro ws _ _) | ((with_reducible apply wpl_storecell); (exact rfl); (exact rfl); infer_instance; (exact rfl); (first | (with_reducible assumption) | omega | (focus (simp; done)) | (focus (simp; omega; done)) | decide); intro ws _ _))
      go_ret
      exact ⟨rfl, (stepN (w0 := w)).chg⟩
    · have c1 : ¬ 2000 < (q : Int) := by omega
      have ht1 : HB w1 zt 27 (rootL v e0 K).toArray := inferInstance
      go_wp2_with (first | go_skip | ((with_reducible apply wpl_loadrow); (exact rfl); infer_instance; infer_instance; (exact hlen)) | ((with_reducible apply wpl_alloc); intro z wz _ _ _) | ((with_reducible apply wpl_box_agg); (exact rfl); intro z wz _ _ _) | ((with_reducible apply wpl_box_int); (exact rfl); intro z wz _ _ _) | ((with_reducible apply wpl_box_slice); (exact rfl); intro z wz _ _ _) | ((with_reducible apply wpl_box_str); (exact rfl); intro z wz _ _ _) | ((with_reducible apply wpl_box_bool); (exact rfl); intro z wz _ _ _) | ((with_reducible apply wpl_box_ptr); (exact rfl); intro z wz _ _ _) | ((with_reducible apply (wpl_guard (op := .load _ _))); (exact rfl)) | ((with_reducible apply wpl_loadrow); (exact rfl); infer_instance; infer_instance; (first | (with_reducible assumption) | (with_reducible exact H32.size _) | kernel_rfl)) | ((with_reducible apply wpl_loadcellN); (exact rfl); infer_instance; (exact rfl)) | ((with_reducible apply wpl_storerow); (exact rfl); (exact rfl); infer_instance; infer_instance; (first | (with_reducible assumption) | (with_reducible exact H32.size _) | kernel_rfl); (first | (with_reducible assumption) | (with_reducible exact H32.size _) | kernel_rfl); (first | (with_reducible exact u8s_one _) | (with_reducible assumption) | kernel_rfl); intro ws _ _) | ((with_reducible apply wpl_storecell); (exact rfl); (exact rfl); infer_instance; (exact rfl); (first | (with_reducible assumption) | omega | (focus (simp; done)) | (focus (simp; omega; done)) | decide); intro ws _ _))
      obtain ⟨Y, hY⟩ : ∃ Y, Y = if rootOk v e0 K then encAll [1] ++ (encAll [v, e0] ++ keysE K) else [] := ⟨_, rfl⟩
      obtain ⟨E, hE⟩ : ∃ E : Int, E = if rootOk v e0 K then 0 else 1 := ⟨_, rfl⟩
      have HY := Lib.hid hY
      have HE := Lib.hid hE
      have hbq : b.length = q := HLE.out
      clear hY hE
      refine (EncodeRoot_calls v e0 K H4.out (fun k hk => KIn.nw (w0 := w) (HKK.out k hk))).mono ?_
      rintro e w2 hp
      obtain ⟨_, A1, n1, c1', rfl, hn1, hR1⟩ := hp.uniR
      clear hp
      rw [← HY.out] at hn1 hR1
      rw [← HE.out]
      have HN1 := Lib.hid hn1
      clear hn1
      go_wp2_with (first | go_skip | ((with_reducible apply wpl_loadrow); (exact rfl); infer_instance; infer_instance; (exact hlen)) | ((with_reducible apply wpl_alloc); intro z wz _ _ _) | ((with_reducible apply wpl_box_agg); (exact rfl); intro z wz _ _ _) | ((with_reducible apply wpl_box_int); (exact rfl); intro z wz _ _ _) | ((with_reducible apply wpl_box_slice); (exact rfl); intro z wz _ _ _) | ((with_reducible apply wpl_box_str); (exact rfl); intro z wz _ _ _) | ((with_reducible apply wpl_box_bool); (exact rfl); intro z wz _ _ _) | ((with_reducible apply wpl_box_ptr); (exact rfl); intro z wz _ _ _) | ((with_reducible apply (wpl_guard (op := .load _ _))); (exact rfl)) | ((with_reducible apply wpl_loadrow); (exact rfl); infer_instance; infer_instance; (first | (with_reducible assumption) | (with_reducible exact H32.size _) | kernel_rfl)) | ((with_reducible apply wpl_loadcellN); (exact rfl); infer_instance; (exact rfl)) | ((with_reducible apply wpl_storerow); (exact rfl); (exact rfl); infer_instance; infer_instance; (first | (with_reducible assumption) | (with_reducible exact H32.size _) | kernel_rfl); (first | (with_reducible assumption) | (with_reducible exact H32.size _) | kernel_rfl); (first | (with_reducible exact u8s_one _) | (with_reducible assumption) | kernel_rfl); intro ws _ _) | ((with_reducible apply wpl_storecell); (exact rfl); (exact rfl); infer_instance; (exact rfl); (first | (with_reducible assumption) | omega | (focus (simp; done)) | (focus (simp; omega; done)) | decide); intro ws _ _))
      refine (rEncodeRoot_calls v e0 K H4.out (fun k hk => KIn.nw (w0 := w) (HKK.out k hk))).mono ?_
      rintro e w3 hp
      obtain ⟨_, A2, n2, c2', rfl, hn2, hR2⟩ := hp.uniR
      clear hp
      rw [← HY.out] at hn2 hR2
      rw [← HE.out]
      have HN2 := Lib.hid hn2
      clear hn2
      have nw3 : Nw w w3 := inferInstance
      have hb3 : HR w3 A (bs b) := nw3.hrR HRR.out
      go_wp2_with (first | go_skip | ((with_reducible apply (stop_dst (dst := some 43))); (try simp only [Act.put, sA, sB, sC]); ((with_reducible apply (wpl_bslice (dst := some 43))); (exact run_emptyBR _); intro zb wb _ _ _)) | ((with_reducible apply wpl_appendB); (exact rfl); (exact rfl); infer_instance; infer_instance; infer_instance; (exact hbq); omega; intro A3 c3 wa _ hO3 _ _) | ((with_reducible apply wpl_alloc); intro z wz _ _ _) | ((with_reducible apply wpl_box_agg); (exact rfl); intro z wz _ _ _) | ((with_reducible apply wpl_box_int); (exact rfl); intro z wz _ _ _) | ((with_reducible apply wpl_box_slice); (exact rfl); intro z wz _ _ _) | ((with_reducible apply wpl_box_str); (exact rfl); intro z wz _ _ _) | ((with_reducible apply wpl_box_bool); (exact rfl); intro z wz _ _ _) | ((with_reducible apply wpl_box_ptr); (exact rfl); intro z wz _ _ _) | ((with_reducible apply (wpl_guard (op := .load _ _))); (exact rfl)) | ((with_reducible apply wpl_loadrow); (exact rfl); infer_instance; infer_instance; (first | (with_reducible assumption) | (with_reducible exact H32.size _) | kernel_rfl)) | ((with_reducible apply wpl_loadcellN); (exact rfl); infer_instance; (exact rfl)) | ((with_reducible apply wpl_storerow); (exact rfl); (exact rfl); infer_instance; infer_instance; (first | (with_reducible assumption) | (with_reducible exact H32.size _) | kernel_rfl); (first | (with_reducible assumption) | (with_reducible exact H32.size _) | kernel_rfl); (first | (with_reducible exact u8s_one _) | (with_reducible assumption) | kernel_rfl); intro ws _ _) | ((with_reducible apply wpl_storecell); (exact rfl); (exact rfl); infer_instance; (exact rfl); (first | (with_reducible assumption) | omega | (focus (simp; done)) | (focus (simp; omega; done)) | decide); intro ws _ _))
      have hR3 : HR wa A3 (bs b) := ⟨by
        have := hO3.out.rd
        rwa [List.nil_append] at this⟩
      clear hO3
      refine (DecodeRoot_calls (b := b) (by have := HLE.out; omega) (by omega)).mono ?_
      rintro e w4 ⟨_, v1, x1, K1, err1, rfl, hK1, hKs1⟩
      have hl1 := rootL_len v1 x1 K1 hK1.out.1
      have ho1 := rootL_one v1 x1 K1
      go_wp2_with (first | go_skip | ((with_reducible apply wpl_storerow); (exact rfl); (exact rfl); infer_instance; infer_instance; (exact rfl); (exact hl1); (exact ho1); intro ws _ _) | ((with_reducible apply (wpl_alloc (dst := some 9))); intro z1 wz1 _ _ _) | ((with_reducible apply (wpl_box_agg (dst := some 9))); (exact rfl); intro z1 wz1 _ _ _) | ((with_reducible apply (wpl_box_int (dst := some 9))); (exact rfl); intro z1 wz1 _ _ _) | ((with_reducible apply (wpl_box_slice (dst := some 9))); (exact rfl); intro z1 wz1 _ _ _) | ((with_reducible apply (wpl_box_str (dst := some 9))); (exact rfl); intro z1 wz1 _ _ _) | ((with_reducible apply (wpl_box_bool (dst := some 9))); (exact rfl); intro z1 wz1 _ _ _) | ((with_reducible apply (wpl_box_ptr (dst := some 9))); (exact rfl); intro z1 wz1 _ _ _) | ((with_reducible apply wpl_alloc); intro z wz _ _ _) | ((with_reducible apply wpl_box_agg); (exact rfl); intro z wz _ _ _) | ((with_reducible apply wpl_box_int); (exact rfl); intro z wz _ _ _) | ((with_reducible apply wpl_box_slice); (exact rfl); intro z wz _ _ _) | ((with_reducible apply wpl_box_str); (exact rfl); intro z wz _ _ _) | ((with_reducible apply wpl_box_bool); (exact rfl); intro z wz _ _ _) | ((with_reducible apply wpl_box_ptr); (exact rfl); intro z wz _ _ _) | ((with_reducible apply (wpl_guard (op := .load _ _))); (exact rfl)) | ((with_reducible apply wpl_loadrow); (exact rfl); infer_instance; infer_instance; (first | (with_reducible assumption) | (with_reducible exact H32.size _) | kernel_rfl)) | ((with_reducible apply wpl_loadcellN); (exact rfl); infer_instance; (exact rfl)) | ((with_reducible apply wpl_storerow); (exact rfl); (exact rfl); infer_instance; infer_instance; (first | (with_reducible assumption) | (with_reducible exact H32.size _) | kernel_rfl); (first | (with_reducible assumption) | (with_reducible exact H32.size _) | kernel_rfl); (first | (with_reducible exact u8s_one _) | (with_reducible assumption) | kernel_rfl); intro ws _ _) | ((with_reducible apply wpl_storecell); (exact rfl); (exact rfl); infer_instance; (exact rfl); (first | (with_reducible assumption) | omega | (focus (simp; done)) | (focus (simp; omega; done)) | decide); intro ws _ _))
      have nw5 : Nw w ws := inferInstance
      have y15 : HR ws A1 (bs Y) := inferInstance
      have y25 : HR ws A2 (bs Y) := inferInstance
      have hb5 : HR ws A (bs b) := nw5.hrR HRR.out
      have n45 : Nw w4 ws := inferInstance
      have hz15 : HB ws z1 27 (rootL v1 x1 K1).toArray := inferInstance
      refine (rDecodeRoot_calls (b := b) HLE.out hcap (by omega)).mono ?_
      rintro e w6 ⟨_, v2, x2, K2, err2, rfl, hK2, hKs2⟩
      have hq0 := hK1.out.2.trans hK2.out.2.symm
      obtain ⟨hv, hq1⟩ := Prod.mk.inj hq0
      obtain ⟨hx, hq2⟩ := Prod.mk.inj hq1
      obtain ⟨hq3, he⟩ := Prod.mk.inj hq2
      subst hv hx he
      have HMM := Lib.hid hq3
      clear hq0 hq1 hq2 hq3
      have hl2 := rootL_len v1 x1 K2 hK2.out.1
      have ho2 := rootL_one v1 x1 K2
      have hz16 : HB w6 z1 27 (rootL v1 x1 K1).toArray := inferInstance
      have y16 : HR w6 A1 (bs Y) := inferInstance
      have y26 : HR w6 A2 (bs Y) := inferInstance
      have n46 : Nw w4 w6 := inferInstance
      have q1 : ((strL Y).toList == (strL Y).toList) = true := by simp
      have q2 : (E == E) = true := by simp
      have q3 : (err1 == err1) = true := by simp
      go_wp2_with (first | go_skip | ((with_reducible apply wpl_storerow); (exact rfl); (exact rfl); infer_instance; infer_instance; (exact rfl); (exact hl2); (exact ho2); intro ws _ _) | ((with_reducible apply (wpl_guard (op := .load _ _))); (exact rfl)) | ((with_reducible apply (wpl_guard (op := .convert _ _ _))); (exact rfl)) | ((with_reducible apply wpl_conv); (exact rfl); infer_instance; (first | (exact HN1.out) | (exact HN2.out)); (exact Try.underlying28); (exact Try.underlying5); (exact Try.underlying9)) | ((with_reducible apply wpl_loadrow); (exact rfl); infer_instance; infer_instance; (first | (exact hl1) | (exact hl2))) | ((with_reducible apply (wpl_alloc (dst := some 11))); intro z2 wz2 _ _ _) | ((with_reducible apply (wpl_box_agg (dst := some 11))); (exact rfl); intro z2 wz2 _ _ _) | ((with_reducible apply (wpl_box_int (dst := some 11))); (exact rfl); intro z2 wz2 _ _ _) | ((with_reducible apply (wpl_box_slice (dst := some 11))); (exact rfl); intro z2 wz2 _ _ _) | ((with_reducible apply (wpl_box_str (dst := some 11))); (exact rfl); intro z2 wz2 _ _ _) | ((with_reducible apply (wpl_box_bool (dst := some 11))); (exact rfl); intro z2 wz2 _ _ _) | ((with_reducible apply (wpl_box_ptr (dst := some 11))); (exact rfl); intro z2 wz2 _ _ _) | ((with_reducible apply wpl_alloc); intro z wz _ _ _) | ((with_reducible apply wpl_box_agg); (exact rfl); intro z wz _ _ _) | ((with_reducible apply wpl_box_int); (exact rfl); intro z wz _ _ _) | ((with_reducible apply wpl_box_slice); (exact rfl); intro z wz _ _ _) | ((with_reducible apply wpl_box_str); (exact rfl); intro z wz _ _ _) | ((with_reducible apply wpl_box_bool); (exact rfl); intro z wz _ _ _) | ((with_reducible apply wpl_box_ptr); (exact rfl); intro z wz _ _ _) | ((with_reducible apply (wpl_guard (op := .load _ _))); (exact rfl)) | ((with_reducible apply wpl_loadrow); (exact rfl); infer_instance; infer_instance; (first | (with_reducible assumption) | (with_reducible exact H32.size _) | kernel_rfl)) | ((with_reducible apply wpl_loadcellN); (exact rfl); infer_instance; (exact rfl)) | ((with_reducible apply wpl_storerow); (exact rfl); (exact rfl); infer_instance; infer_instance; (first | (with_reducible assumption) | (with_reducible exact H32.size _) | kernel_rfl); (first | (with_reducible assumption) | (with_reducible exact H32.size _) | kernel_rfl); (first | (with_reducible exact u8s_one _) | (with_reducible assumption) | kernel_rfl); intro ws _ _) | ((with_reducible apply wpl_storecell); (exact rfl); (exact rfl); infer_instance; (exact rfl); (first | (with_reducible assumption) | omega | (focus (simp; done)) | (focus (simp; omega; done)) | decide); intro ws _ _))
      refine (sameRoot_calls v1 x1 K1 K2 hK1.out.1 hK2.out.1 (fun k hk => KIn.chg (hKs1.out k hk).1 (n46.out.trans (stepN (w0 := w6)).chg (fun _ _ h => h)) (fun _ _ h => h)) (fun k hk => KIn.chg (hKs2.out k hk).1 (stepN (w0 := w6)).chg (fun _ _ h => h)) HMM.out).mono ?_
      rintro e w7 ⟨rfl, _⟩
      go_wp2_with (first | go_skip | ((with_reducible apply wpl_alloc); intro z wz _ _ _) | ((with_reducible apply wpl_box_agg); (exact rfl); intro z wz _ _ _) | ((with_reducible apply wpl_box_int); (exact rfl); intro z wz _ _ _) | ((with_reducible apply wpl_box_slice); (exact rfl); intro z wz _ _ _) | ((with_reducible apply wpl_box_str); (exact rfl); intro z wz _ _ _) | ((with_reducible apply wpl_box_bool); (exact rfl); intro z wz _ _ _) | ((with_reducible apply wpl_box_ptr); (exact rfl); intro z wz _ _ _) | ((with_reducible apply (wpl_guard (op := .load _ _))); (exact rfl)) | ((with_reducible apply wpl_loadrow); (exact rfl); infer_instance; infer_instance; (first | (with_reducible assumption) | (with_reducible exact H32.size _) | kernel_rfl)) | ((with_reducible apply wpl_loadcellN); (exact rfl); infer_instance; (exact rfl)) | ((with_reducible apply wpl_storerow); (exact rfl); (exact rfl); infer_instance; infer_instance; (first | (with_reducible assumption) | (with_reducible exact H32.size _) | kernel_rfl); (first | (with_reducible assumption) | (with_reducible exact H32.size _) | kernel_rfl); (first | (with_reducible exact u8s_one _) | (with_reducible assumption) | kernel_rfl); intro ws _ _) | ((with_reducible apply wpl_storecell); (exact rfl); (exact rfl); infer_instance; (exact rfl); (first | (with_reducible assumption) | omega | (focus (simp; done)) | (focus (simp; omega; done)) | decide); intro ws _ _))
      refine (wknown_calls _).mono ?_
      rintro e w8 ⟨rfl, _⟩
      go_wp2_with (first | go_skip | ((with_reducible apply wpl_alloc); intro z wz _ _ _) | ((with_reducible apply wpl_box_agg); (exact rfl); intro z wz _ _ _) | ((with_reducible apply wpl_box_int); (exact rfl); intro z wz _ _ _) | ((with_reducible apply wpl_box_slice); (exact rfl); intro z wz _ _ _) | ((with_reducible apply wpl_box_str); (exact rfl); intro z wz _ _ _) | ((with_reducible apply wpl_box_bool); (exact rfl); intro z wz _ _ _) | ((with_reducible apply wpl_box_ptr); (exact rfl); intro z wz _ _ _) | ((with_reducible apply (wpl_guard (op := .load _ _))); (exact rfl)) | ((with_reducible apply wpl_loadrow); (exact rfl); infer_instance; infer_instance; (first | (with_reducible assumption) | (with_reducible exact H32.size _) | kernel_rfl)) | ((with_reducible apply wpl_loadcellN); (exact rfl); infer_instance; (exact rfl)) | ((with_reducible apply wpl_storerow); (exact rfl); (exact rfl); infer_instance; infer_instance; (first | (with_reducible assumption) | (with_reducible exact H32.size _) | kernel_rfl); (first | (with_reducible assumption) | (with_reducible exact H32.size _) | kernel_rfl); (first | (with_reducible exact u8s_one _) | (with_reducible assumption) | kernel_rfl); intro ws _ _) | ((with_reducible apply wpl_storecell); (exact rfl); (exact rfl); infer_instance; (exact rfl); (first | (with_reducible assumption) | omega | (focus (simp; done)) | (focus (simp; omega; done)) | decide); intro ws _ _))
      go_ret
      exact ⟨rfl, (stepN (w0 := w)).chg⟩
end Go.Proofs.Ythcleccofccbdaa
