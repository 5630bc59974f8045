/- QmX -/
import Derived.Test.YtmijlojjkgeplaaTqQmV
open Go Go.RowKit
namespace Go.Proofs.Ytmijlojjkgeplaa
section
variable {P : Program} {ops : Array Oper} {rest : List Oper} {a : Act} {w : World} {Q : Exit → Act → World → Prop} {dst : Option Tmp} {ty : TypeId} {pos : String} {after : Array Edge} {gd : Option (Nat × Bool)}
/-- an address within a slice that is somewhere -/
theorem ev_indexNQ {t : TypeId} {x ix : Operand} {ad : Addr} {n c k : Nat} (hx : a.eval x = .slice (some ad) n c) (hi : a.eval ix = .int .i64 (k : Int)) {e : TypeId} {bytes : Nat} {z : Value} (E : ElemT P t e 1 bytes z) (h1 : k < n) :
    (execOp a.eval ⟨dst, .indexAddr t x ix, ty, pos, after, gd⟩).run P w = .ok (.value (ptrOf (some ad) k)) w := by
  obtain ⟨ti, hti, hz, hsz, hb⟩ := info_parts E.out.info
  show ((Instr.indexAt t (a.eval x) (a.eval ix)) >>= fun v => pure (Next.value v)).run P w = _
  rw [hx, hi]
  simp [Instr.indexAt, asIntOf, run_underlying E.out.under, sizeOf, typeInfo, hti, hsz, h1, ptrOf, shift]
theorem wpl_indexNQ {t : TypeId} {x ix : Operand} {ad : Addr} {n c k : Nat} (hx : a.eval x = .slice (some ad) n c) (hi : a.eval ix = .int .i64 (k : Int)) {e : TypeId} {bytes : Nat} {z : Value} (E : ElemT P t e 1 bytes z) (h1 : k < n)
    (h : wpList P ops Q rest (a.put dst (ptrOf (some ad) k)) w) : wpList P ops Q (⟨dst, .indexAddr t x ix, ty, pos, after, none⟩ :: rest) a w := wpl_of_run rfl (ev_indexNQ hx hi E h1) h
theorem bs_setQ {d : List UInt8} {k : Nat} {v : Int} (hk : k < d.length) (hv : 0 ≤ v ∧ v < 256) : (bs d).take k ++ [Value.int .u8 v] ++ (bs d).drop (k + 1) = bs (d.set k (b8 v)) := by
  have hs1 : (bs d).take k ++ [Value.int .u8 v] ++ (bs d).drop (k + 1) = (bs d).set k (.int .u8 v) := by
    rw [List.set_eq_take_append_cons_drop, if_pos (by rw [bs_length]; exact hk)]
    simp
  rw [hs1]
  have := b8_in hv.1 hv.2
  rw [bs, bs, List.map_set]
  congr 1
  rw [u8v, ← this]
/-- a byte of a row of the call's own written -/
theorem wpl_storeBQ {t : TypeId} {x y : Operand} {A : Option Addr} {k : Nat} {v : Int} (hx : a.eval x = ptrOf A k) (hy : a.eval y = .int .u8 v) {e : TypeId} {n c : Nat} {d : List UInt8} (ho : HO w e 1 A n c (bs d)) [ht : CellT P t] (hk : k < d.length) (hv : 0 ≤ v ∧ v < 256)
    (h : ∀ w', Step (rowOf A) w w' → HO w' e 1 A n c (bs (d.set k (b8 v))) → wpList P ops Q rest (a.put dst undef) w') : wpList P ops Q (⟨dst, .store t x y, ty, pos, after, none⟩ :: rest) a w := by
  obtain ⟨g, hA, h1, h2, h3⟩ := own_setCells ho.out (k := k) (cs := [.int .u8 v]) (m := 1) rfl (by rw [bs_length]; omega) (by decide)
  refine wpl_of_unit rfl (w' := w.setCells g k [.int .u8 v]) ?_ (h _ ⟨h3⟩ ⟨?_⟩)
  · have hc := h1 0 (by decide)
    have hst := run_store P w ⟨g, k, none⟩ (.int .u8 v) .plain rfl
    rw [Nat.add_zero] at hc
    obtain ⟨u, hu⟩ := Option.isSome_iff_exists.1 hc.1
    rw [hu, hc.2] at hst
    show ((Instr.storeAt t (a.eval x) (a.eval y)) >>= fun _ => pure Next.skip).run P w = _
    rw [hx, hy, hA]
    simp [Instr.storeAt, Instr.sureAddr, ptrOf, shift_some, add_row, storeVar, Value.cells, ht.size1 w, storeCells, add_zero_spot, hst, World.setCells]
  · rw [← bs_setQ hk hv]
    exact h2
end
theorem run_emptyQ (w : World) : (Instr.buildSlice 39 0 #[]).run Try.prog w = .ok (.slice (some ⟨w.heap.size, 0, none⟩) 0 0) (w.alloc (.cells (u8s []) 5)) := by kernel_rfl
instance : Fact' (([] : List UInt8).length ≤ maxLen) := ⟨Nat.zero_le _⟩
theorem and_lowQ (a : Int) : ∃ q : Nat, bits .and .i64 a 65535 = (q : Int) ∧ q ≤ 65535 := by
  have hle : (BitVec.ofInt 64 a &&& BitVec.ofInt 64 (65535 : Int)).toNat ≤ 65535 := by
    rw [BitVec.toNat_and]
    have h1 : (BitVec.ofInt 64 (65535 : Int)).toNat = 65535 := by decide
    rw [h1]
    exact Nat.and_le_right
  refine ⟨(BitVec.ofInt 64 a &&& BitVec.ofInt 64 (65535 : Int)).toNat, ?_, hle⟩
  show IntKind.i64.wrap ((BitVec.ofInt 64 a &&& BitVec.ofInt 64 (65535 : Int)).toNat : Int) = _
  rw [IntKind.wrap_i64]
  omega
/-- two marks as a slice -/
theorem run_twoM (r s : MarkR) (w : World) : (Instr.buildSlice 59 2 #[(0, .agg (RowC.enc r).toArray), (1, .agg (RowC.enc s).toArray)]).run Try.prog w = .ok (.slice (some ⟨w.heap.size, 0, none⟩) 2 2) (w.alloc (.cells (cellsOf [r, s]).toArray 74)) := by
  have hs : (RowC.enc r).toArray.size = 35 := RowC.len r
  have hs2 : (RowC.enc s).toArray.size = 35 := RowC.len s
  have hz : ∀ w, (zeroValue 74).run Try.prog w = .ok (.agg (RowC.enc (zeroM zeroH)).toArray) w := fun _ => by kernel_rfl
  have hi : ∀ w, (sizeOf 74).run Try.prog w = .ok 35 w := fun _ => by kernel_rfl
  have hz1 : (RowC.enc (zeroM zeroH)).toArray.size = 35 := RowC.len (zeroM zeroH)
  have he : (cellsOf [r, s]).toArray = ((RowC.enc r).toArray.toList ++ (RowC.enc s).toArray.toList).toArray := by simp [cellsOf]
  rw [he]
  obtain ⟨Z, hZ⟩ : ∃ Z : Array Value, Z = (RowC.enc (zeroM zeroH)).toArray := ⟨_, rfl⟩
  obtain ⟨R, hR⟩ : ∃ R : Array Value, R = (RowC.enc r).toArray := ⟨_, rfl⟩
  obtain ⟨S, hS⟩ : ∃ S : Array Value, S = (RowC.enc s).toArray := ⟨_, rfl⟩
  rw [← hZ] at hz hz1
  rw [← hR] at hs ⊢
  rw [← hS] at hs2 ⊢
  clear hZ hR hS he
  unfold Instr.buildSlice
  simp only [Sem.run_bind, run_underlying Try.underlying59, Result.andThen_ok, hi]
  obtain ⟨W, hW⟩ : ∃ W : Array Value, W = (Array.range (2 * 35)).map (Z[· % Z.size]!) := ⟨_, rfl⟩
  have hWs : W.size = 70 := by rw [hW]; simp
  have hf : Instr.fill (fun i => some (i * 35, 35)) W [(0, Value.agg R), (1, Value.agg S)] = some (R.toList ++ S.toList).toArray := by
    rw [fill_step _ _ 0 (.agg R) _ (off := 0) (size := 35) rfl hs (by rw [hWs]; decide)]
    have hl : (lay 0 R W).size = 70 := by simp [lay, hWs, hs]
    show Instr.fill _ (lay 0 R W) _ = _
    rw [fill_step _ _ 1 (.agg S) _ (off := 35) (size := 35) rfl hs2 (by rw [hl]; decide)]
    have e : lay 35 S (lay 0 R W) = (R.toList ++ S.toList).toArray := by
      unfold lay
      congr 1
      have hR35 : R.toList.length = 35 := hs
      simp only [List.take_zero, List.nil_append, Nat.zero_add, hs, hs2]
      rw [List.take_left' hR35, List.drop_of_length_le (by simp [hWs, hR35]), List.append_nil]
    show Instr.fill _ (lay 35 S (lay 0 R W)) [] = _
    rw [e]
    rfl
  rw [hW] at hf
  simp [hz, Value.cells, hf, newRow]
/-- a signature counts for one key alone -/
theorem verify_unlike {h h' : H32} {m : List UInt8} {leaf : Int} {l p : List H32} (hv : verifyS h m leaf l p = true) (hn : h ≠ h') : verifyS h' m leaf l p = false := by
  unfold verifyS at *
  rw [Bool.and_eq_true] at hv
  have h1 := of_decide_eq_true hv.2
  rw [hv.1, h1]
  simp [hn]
theorem bs_getqQ (d : List UInt8) (k : Nat) (h : k < d.length) : (bs d)[k]? = some (.int .u8 ((bget d k).toNat : Int)) := by
  rw [bs, List.getElem?_map, List.getElem?_eq_getElem h, bget, List.getD_eq_getElem?_getD, List.getElem?_eq_getElem h]
  rfl
theorem two_of_map {l : List MarkR} {s t : H32 × Int × List H32 × List H32} (h : l.map markOf = [s, t]) : ∃ r q, l = [r, q] ∧ markOf r = s ∧ markOf q = t := by
  rcases l with _ | ⟨r, _ | ⟨q, _ | ⟨x, l⟩⟩⟩
  · cases h
  · cases h
  · injection h with h1 h2
    injection h2 with h2 h3
    exact ⟨r, q, rfl, h1, h2⟩
  · injection h with h1 h2
    injection h2 with h2 h3
    cases h3
/-- under another key's name nothing counts -/
theorem who_swapped (m : List UInt8) (r q : MarkR) (h0 : markOf r = sigAt m 0 0) (h1 : markOf q = sigAt m 1 0) :
    whoN m [{ r with key := pubN 1 }, { q with key := pubN 0 }] (pubsN 3) 3 = [] := by
  have v0 : verifyS (pubN 0) m r.leaf r.l r.p = true := by
    have e := tells_sig m 0 0 0 (by decide) (by decide) (by decide)
    rw [← h0] at e
    have e2 : (decide (r.key = pubN 0) && verifyS (pubN 0) m r.leaf r.l r.p) = decide ((0 : Nat) = 0) := e
    rw [Bool.and_eq_true_iff.1 (e2.trans (by decide)) |>.2]
  have v1 : verifyS (pubN 1) m q.leaf q.l q.p = true := by
    have e := tells_sig m 1 1 0 (by decide) (by decide) (by decide)
    rw [← h1] at e
    have e2 : (decide (q.key = pubN 1) && verifyS (pubN 1) m q.leaf q.l q.p) = decide ((1 : Nat) = 1) := e
    rw [Bool.and_eq_true_iff.1 (e2.trans (by decide)) |>.2]
  have n10 : ¬ pubN 1 = pubN 0 := fun e => pubN01 e.symm
  have n02 : ¬ pubN 0 = pubN 2 := pubN02
  have n12 : ¬ pubN 1 = pubN 2 := pubN12
  have u1 : verifyS (pubN 1) m r.leaf r.l r.p = false := verify_unlike v0 pubN01
  have u0 : verifyS (pubN 0) m q.leaf q.l q.p = false := verify_unlike v1 n10
  have s0 : ([{ r with key := pubN 1 }, { q with key := pubN 0 }] : List MarkR).any (signsB m (pubN 0)) = false := by
    show ((decide (pubN 1 = pubN 0) && _) || ((decide (pubN 0 = pubN 0) && verifyS (pubN 0) m q.leaf q.l q.p) || false)) = false
    rw [u0, decide_eq_false n10]
    simp
  have s1 : ([{ r with key := pubN 1 }, { q with key := pubN 0 }] : List MarkR).any (signsB m (pubN 1)) = false := by
    show ((decide (pubN 1 = pubN 1) && verifyS (pubN 1) m r.leaf r.l r.p) || ((decide (pubN 0 = pubN 1) && _) || false)) = false
    rw [u1, decide_eq_false pubN01]
    simp
  have s2 : ([{ r with key := pubN 1 }, { q with key := pubN 0 }] : List MarkR).any (signsB m (pubN 2)) = false := by
    show ((decide (pubN 1 = pubN 2) && _) || ((decide (pubN 0 = pubN 2) && _) || false)) = false
    rw [decide_eq_false n12, decide_eq_false n02]
    simp
  obtain ⟨L, hL⟩ : ∃ L : List MarkR, L = [{ r with key := pubN 1 }, { q with key := pubN 0 }] := ⟨_, rfl⟩
  rw [← hL] at s0 s1 s2 ⊢
  have ht : L.take 4 = L := by rw [hL]; rfl
  have g0 : hget [pubN 0, pubN 1, pubN 2] 0 = pubN 0 := rfl
  have g1 : hget [pubN 0, pubN 1, pubN 2] 1 = pubN 1 := rfl
  have g2 : hget [pubN 0, pubN 1, pubN 2] 2 = pubN 2 := rfl
  rw [pubsN3]
  simp only [whoN, ht, g0, g1, g2, s0, s1, s2]
  simp
theorem sigs_three (m : List UInt8) : allSigs m 3 false 3 = [sigAt m 0 0, sigAt m 1 0] := by
  unfold allSigs
  rw [show setBits 3 3 = [0, 1] by decide +kernel]
  rfl
set_option maxRecDepth 100000 in
set_option maxHeartbeats 3200000 in
theorem quorumOther_calls {m : List UInt8} {nb cb : Nat} {M : Option Addr} (at' : Int) (by' : UInt8) {w : World} [hm : HR w M (bs m)] (hlm : m.length = nb) (hcap : nb ≤ cb) (hmax : nb ≤ 9223372036854775807) :
    Calls Try.prog 13 #[.slice M nb cb, .int .i64 at', .int .u8 (by'.toNat : Int)] w fun e w' => e = .returned (.bool true) ∧ Chg nowhere w w' := by
  have HM := Lib.hid hlm
  obtain ⟨y, hy⟩ : ∃ y : Int, y = (by'.toNat : Int) := ⟨_, rfl⟩
  have hy0 : 0 ≤ y := by omega
  have hy8 : y < 256 := by have := by'.toNat_lt; omega
  rw [← hy]
  clear hlm hy
  go_enter Try.func13, Try.ntmps13
  by_cases hb1 : nb < 1
  · have hbI : (nb : Int) < 1 := by omega
    go_wp2_with (first | go_skip | ((with_reducible apply wpl_alloc); intro z wz _ _ _) | ((with_reducible apply (wpl_guard (op := .load _ _))); (exact rfl)) | ((with_reducible apply wpl_loadrow); (exact rfl); infer_instance; infer_instance; (first | (with_reducible assumption) | (with_reducible exact H32.size _) | (with_reducible exact enc_sz _ rfl) | kernel_rfl)) | ((with_reducible apply wpl_loadcellN); (exact rfl); infer_instance; (exact rfl)) | ((with_reducible apply wpl_storerow); (exact rfl); (exact rfl); infer_instance; infer_instance; (first | (with_reducible assumption) | (with_reducible exact H32.size _) | (with_reducible exact enc_sz _ rfl) | kernel_rfl); (first | (with_reducible assumption) | (with_reducible exact H32.size _) | (with_reducible exact enc_sz _ rfl) | kernel_rfl); (first | (with_reducible exact u8s_one _) | (with_reducible assumption) | (with_reducible exact enc_one _) | kernel_rfl); intro ws _ _) | ((with_reducible apply wpl_storecell); (exact rfl); (exact rfl); infer_instance; (exact rfl); (first | (with_reducible assumption) | omega | (focus (simp; done)) | (focus (simp; omega; done)) | decide); intro ws _ _))
    go_ret
    exact ⟨rfl, (stepN (w0 := w)).chg⟩
  have hbI1 : ¬ (nb : Int) < 1 := by omega
  by_cases hb : 1000 < nb
  · have hbI : 1000 < (nb : Int) := by omega
    go_wp2_with (first | go_skip | ((with_reducible apply wpl_alloc); intro z wz _ _ _) | ((with_reducible apply (wpl_guard (op := .load _ _))); (exact rfl)) | ((with_reducible apply wpl_loadrow); (exact rfl); infer_instance; infer_instance; (first | (with_reducible assumption) | (with_reducible exact H32.size _) | (with_reducible exact enc_sz _ rfl) | kernel_rfl)) | ((with_reducible apply wpl_loadcellN); (exact rfl); infer_instance; (exact rfl)) | ((with_reducible apply wpl_storerow); (exact rfl); (exact rfl); infer_instance; infer_instance; (first | (with_reducible assumption) | (with_reducible exact H32.size _) | (with_reducible exact enc_sz _ rfl) | kernel_rfl); (first | (with_reducible assumption) | (with_reducible exact H32.size _) | (with_reducible exact enc_sz _ rfl) | kernel_rfl); (first | (with_reducible exact u8s_one _) | (with_reducible assumption) | (with_reducible exact enc_one _) | kernel_rfl); intro ws _ _) | ((with_reducible apply wpl_storecell); (exact rfl); (exact rfl); infer_instance; (exact rfl); (first | (with_reducible assumption) | omega | (focus (simp; done)) | (focus (simp; omega; done)) | decide); intro ws _ _))
    go_ret
    exact ⟨rfl, (stepN (w0 := w)).chg⟩
  have hbI : ¬ 1000 < (nb : Int) := by omega
  have hn : nb ≤ 140737488351232 := by omega
  by_cases hyz : y ≤ 0
  · go_wp2_with (first | go_skip | ((with_reducible apply wpl_alloc); intro z wz _ _ _) | ((with_reducible apply (wpl_guard (op := .load _ _))); (exact rfl)) | ((with_reducible apply wpl_loadrow); (exact rfl); infer_instance; infer_instance; (first | (with_reducible assumption) | (with_reducible exact H32.size _) | (with_reducible exact enc_sz _ rfl) | kernel_rfl)) | ((with_reducible apply wpl_loadcellN); (exact rfl); infer_instance; (exact rfl)) | ((with_reducible apply wpl_storerow); (exact rfl); (exact rfl); infer_instance; infer_instance; (first | (with_reducible assumption) | (with_reducible exact H32.size _) | (with_reducible exact enc_sz _ rfl) | kernel_rfl); (first | (with_reducible assumption) | (with_reducible exact H32.size _) | (with_reducible exact enc_sz _ rfl) | kernel_rfl); (first | (with_reducible exact u8s_one _) | (with_reducible assumption) | (with_reducible exact enc_one _) | kernel_rfl); intro ws _ _) | ((with_reducible apply wpl_storecell); (exact rfl); (exact rfl); infer_instance; (exact rfl); (first | (with_reducible assumption) | omega | (focus (simp; done)) | (focus (simp; omega; done)) | decide); intro ws _ _))
    go_ret
    exact ⟨rfl, (stepN (w0 := w)).chg⟩
  have hyz1 : 0 < y := by omega
  go_wp2_with (first | go_skip | ((with_reducible apply wpl_alloc); intro z wz _ _ _) | ((with_reducible apply (wpl_guard (op := .load _ _))); (exact rfl)) | ((with_reducible apply wpl_loadrow); (exact rfl); infer_instance; infer_instance; (first | (with_reducible assumption) | (with_reducible exact H32.size _) | (with_reducible exact enc_sz _ rfl) | kernel_rfl)) | ((with_reducible apply wpl_loadcellN); (exact rfl); infer_instance; (exact rfl)) | ((with_reducible apply wpl_storerow); (exact rfl); (exact rfl); infer_instance; infer_instance; (first | (with_reducible assumption) | (with_reducible exact H32.size _) | (with_reducible exact enc_sz _ rfl) | kernel_rfl); (first | (with_reducible assumption) | (with_reducible exact H32.size _) | (with_reducible exact enc_sz _ rfl) | kernel_rfl); (first | (with_reducible exact u8s_one _) | (with_reducible assumption) | (with_reducible exact enc_one _) | kernel_rfl); intro ws _ _) | ((with_reducible apply wpl_storecell); (exact rfl); (exact rfl); infer_instance; (exact rfl); (first | (with_reducible assumption) | omega | (focus (simp; done)) | (focus (simp; omega; done)) | decide); intro ws _ _))
  refine (qsigned_calls 3 false HM.out (by omega)).mono ?_
  rintro e w1 ⟨A, K, nm, cm, ck, l, rfl, _, hRA, hRK, hln, hcm, hck, hn4, hMI, hct⟩
  rw [sigs_three] at hct
  obtain ⟨r, q, hl2, hr0, hr1⟩ := two_of_map hct
  have HW1 : Hid (meetsB m l (pubsN 3) 1 = true) := Lib.hid (by
    rw [meets_three m l 1 _ (who_all m 3 false l (by rw [hct, sigs_three]) (by omega)), show setBits 3 3 = [0, 1] by decide +kernel]
    rfl)
  have HW2 := Lib.hid (who_swapped m r q hr0 hr1)
  rw [pubsN3] at HW1 HW2 hRK
  clear hct hr0 hr1
  subst hl2
  obtain rfl : nm = 2 := hln.symm
  obtain ⟨p0, h0⟩ : ∃ x, x = pubN 0 := ⟨_, rfl⟩
  obtain ⟨p1, h1⟩ : ∃ x, x = pubN 1 := ⟨_, rfl⟩
  obtain ⟨p2, h2⟩ : ∃ x, x = pubN 2 := ⟨_, rfl⟩
  rw [← h0, ← h1, ← h2] at HW1 HW2 hRK
  have HMI := Lib.hid hMI
  clear hMI hln hn4 h0 h1 h2
  go_wp2_with (first | go_skip | ((with_reducible apply (wpl_alloc (dst := some 7))); intro z7 wz7 _ _ _) | ((with_reducible apply (wpl_alloc (dst := some 8))); intro z8 wz8 _ _ _) | ((with_reducible apply wpl_alloc); intro z wz _ _ _) | ((with_reducible apply (wpl_guard (op := .load _ _))); (exact rfl)) | ((with_reducible apply wpl_loadrow); (exact rfl); infer_instance; infer_instance; (first | (with_reducible assumption) | (with_reducible exact H32.size _) | (with_reducible exact enc_sz _ rfl) | kernel_rfl)) | ((with_reducible apply wpl_loadcellN); (exact rfl); infer_instance; (exact rfl)) | ((with_reducible apply wpl_storerow); (exact rfl); (exact rfl); infer_instance; infer_instance; (first | (with_reducible assumption) | (with_reducible exact H32.size _) | (with_reducible exact enc_sz _ rfl) | kernel_rfl); (first | (with_reducible assumption) | (with_reducible exact H32.size _) | (with_reducible exact enc_sz _ rfl) | kernel_rfl); (first | (with_reducible exact u8s_one _) | (with_reducible assumption) | (with_reducible exact enc_one _) | kernel_rfl); intro ws _ _) | ((with_reducible apply wpl_storecell); (exact rfl); (exact rfl); infer_instance; (exact rfl); (first | (with_reducible assumption) | omega | (focus (simp; done)) | (focus (simp; omega; done)) | decide); intro ws _ _))
  have kbF : ∀ (F : Option Addr) (n cf : Nat) w, (Instr.build 61 #[(0, .slice F n cf), (1, .slice A 2 cm)]).run Try.prog w = .ok (.agg #[.slice F n cf, .slice A 2 cm]) w := fun _ _ _ _ => by kernel_rfl
  have hn9 : 0 + nb ≤ 100000000000 := by omega
  have hlM := HM.out
  refine wp_region_N (nowhere) (by kernel_rfl) (fun wd _ _ => ?_)
  refine' takeH (i := 1) (v := _) rfl (by kernel_rfl) (by kernel_rfl) (by kernel_rfl) (fun _ _ _ h => h) (yields_of (by rfl) (fun w' _ => ?_)) inferInstance ?_
  rotate_left
  · (go_simp; try with_reducible rfl)
  try simp only [Act.put, sA]; try simp only [sB, sC]
  refine' takeH (i := 3) (v := _) rfl (by kernel_rfl) (by kernel_rfl) (by kernel_rfl) (fun _ _ _ h => h) (yields_of (by rfl) (fun w' _ => ?_)) inferInstance ?_
  rotate_left
  · (first | ((with_reducible apply (ev_fieldE (t := 74))); (exact Try.underlying74); (exact rfl); (kernel_rfl); (exact rfl); infer_instance; (exact cells_pos (by decide) (by omega))) | (go_simp; try with_reducible rfl))
  try simp only [Act.put, sA]; try simp only [sB, sC]
  refine' takeH (i := 4) (v := _) rfl (by kernel_rfl) (by kernel_rfl) (by kernel_rfl) (fun _ _ _ h => h) (yields_of (by rfl) (fun w' _ => ?_)) inferInstance ?_
  rotate_left
  · (first | ((with_reducible apply ev_loadrow); (exact rfl); infer_instance; infer_instance; (first | (with_reducible assumption) | (with_reducible exact H32.size _) | (with_reducible exact enc_sz _ rfl) | kernel_rfl)) | ((with_reducible apply (ev_loadhash (t := 23))); (exact rfl); infer_instance; infer_instance; (first | (with_reducible assumption) | omega)) | ((with_reducible apply ev_loadcellN); (exact rfl); infer_instance; infer_instance; (exact rfl)) | ((with_reducible apply (ev_loadE (α := MarkR) (t := 74))); infer_instance; (exact rfl); infer_instance; (exact rfl); (decide); (first | (with_reducible assumption) | omega | (focus (simp; done)) | (focus (simp; omega; done)) | decide)) | ((with_reducible apply (ev_loadF (α := MarkR))); infer_instance; (exact rfl); infer_instance; (exact rfl); (first | (with_reducible assumption) | omega | (focus (simp; done)) | (focus (simp; omega; done)) | decide); (exact rfl)) | ((with_reducible apply (ev_loadint (t := 3))); (exact rfl); infer_instance; infer_instance; (first | (with_reducible assumption) | omega)) | ((with_reducible apply (ev_loadbyte (t := 5))); (exact rfl); infer_instance; infer_instance; (first | (with_reducible assumption) | omega)) | (go_simp; try with_reducible rfl))
  try simp only [Act.put, sA]; try simp only [sB, sC]
  refine wpAnyH_ready (rs := [0, 6]) (by kernel_rfl) (by simp) (AllReadyH.cons rfl (fun K_ hK_ => ?_) (AllReadyH.cons rfl (fun K_ hK_ => ?_) AllReadyH.nil))
  focus
    rw [if_pos (by kernel_rfl)]
    refine wpr_of_list ?_
    (first | ((with_reducible apply (stop_dst (dst := some 33))); (try simp only [Act.put, sA, sB, sC]); ((with_reducible apply (wpl_bslice (dst := some 33))); (exact run_emptyQ _); intro ze wb _ _ _)) | ((with_reducible apply wpl_appendB); (exact rfl); (exact rfl); infer_instance; infer_instance; infer_instance; (exact hlM); (exact hn9); intro F cf wa _ hOF hGF hcf) | ((with_reducible apply (stop_dst (dst := some 38))); (try simp only [Act.put, sA, sB, sC]); ((with_reducible apply (wpl_build (dst := some 38))); (exact kbF _ _ _ _))))
    refine wpList_nil ?_
    unfold onlyN
    refine hK_.out _ _ inferInstance (fun _ => ?_)
    clear hK_ K_
    try simp only [Act.put, sA]; try simp only [sB, sC]
    refine wpAnyH_ready (rs := [2, 6]) (by kernel_rfl) (by simp) (AllReadyH.cons rfl (fun K_ hK_ => ?_) (AllReadyH.cons rfl (fun K_ hK_ => ?_) AllReadyH.nil))
    focus
      rw [if_pos (by kernel_rfl)]
      refine wpr_of_list ?_
      (first | ((with_reducible apply (stop_dst (dst := some 33))); (try simp only [Act.put, sA, sB, sC]); ((with_reducible apply (wpl_bslice (dst := some 33))); (exact run_emptyQ _); intro ze wb _ _ _)) | ((with_reducible apply wpl_appendB); (exact rfl); (exact rfl); infer_instance; infer_instance; infer_instance; (exact hlM); (exact hn9); intro F cf wa _ hOF hGF hcf) | ((with_reducible apply (stop_dst (dst := some 38))); (try simp only [Act.put, sA, sB, sC]); ((with_reducible apply (wpl_build (dst := some 38))); (exact kbF _ _ _ _))) | ((with_reducible apply wpl_appendB); (exact rfl); (exact rfl); infer_instance; (first | exact inferInstance | exact ⟨Own.nil _ _ _⟩); infer_instance; (first | (with_reducible assumption) | (with_reducible exact H32.len _) | (focus (simp; done)) | omega); (first | (with_reducible assumption) | omega); intro A' c' wa _ _ _ hcap) | ((with_reducible apply wpl_appendH); (exact rfl); (exact rfl); infer_instance; (first | exact inferInstance | exact ⟨Own.nil _ _ _⟩); infer_instance; (first | (with_reducible assumption) | omega); intro A' c' wa _ _ _ hcap))
      refine wpList_nil ?_
      unfold onlyN
      refine hK_.out _ _ inferInstance (fun _ => ?_)
      clear hK_ K_
      try simp only [Act.put, sA]; try simp only [sB, sC]
      refine' takeH (i := 5) (v := _) rfl (by kernel_rfl) (by kernel_rfl) (by kernel_rfl) (fun _ _ _ h => h) (yields_of (by rfl) (fun w' _ => ?_)) inferInstance ?_
      rotate_left
      · (first | ((with_reducible apply ev_build); exact kbF _ _ _ _) | (go_simp; try with_reducible rfl))
      try simp only [Act.put, sA]; try simp only [sB, sC]
      refine goH (i := 6) (by kernel_rfl) rfl (fun K_ hK_ => ?_)
      rw [if_pos (by kernel_rfl)]
      refine wpr_of_list ?_
      (first | ((with_reducible apply (stop_dst (dst := some 33))); (try simp only [Act.put, sA, sB, sC]); ((with_reducible apply (wpl_bslice (dst := some 33))); (exact run_emptyQ _); intro ze wb _ _ _)) | ((with_reducible apply wpl_appendB); (exact rfl); (exact rfl); infer_instance; infer_instance; infer_instance; (exact hlM); (exact hn9); intro F cf wa _ hOF hGF hcf) | ((with_reducible apply (stop_dst (dst := some 38))); (try simp only [Act.put, sA, sB, sC]); ((with_reducible apply (wpl_build (dst := some 38))); (exact kbF _ _ _ _))) | ((with_reducible apply (wpl_alloc (dst := some 9))); intro z9 wz9 _ _ _) | ((with_reducible apply wpl_alloc); intro z wz _ _ _))
      refine wpList_nil ?_
      unfold onlyN
      refine hK_.out _ _ inferInstance (fun _ => ?_)
      clear hK_ K_
      try simp only [Act.put, sA]; try simp only [sB, sC]
      refine goH (i := 7) (by kernel_rfl) rfl (fun K_ hK_ => ?_)
      rw [if_pos (by kernel_rfl)]
      refine wpr_of_list ?_
      (first | ((with_reducible apply (stop_dst (dst := some 33))); (try simp only [Act.put, sA, sB, sC]); ((with_reducible apply (wpl_bslice (dst := some 33))); (exact run_emptyQ _); intro ze wb _ _ _)) | ((with_reducible apply wpl_appendB); (exact rfl); (exact rfl); infer_instance; infer_instance; infer_instance; (exact hlM); (exact hn9); intro F cf wa _ hOF hGF hcf) | ((with_reducible apply (stop_dst (dst := some 38))); (try simp only [Act.put, sA, sB, sC]); ((with_reducible apply (wpl_build (dst := some 38))); (exact kbF _ _ _ _))) | ((with_reducible apply wpl_storerow); (exact rfl); (exact rfl); infer_instance; infer_instance; (first | (with_reducible assumption) | (with_reducible exact H32.size _) | (with_reducible exact enc_sz _ rfl) | kernel_rfl); (first | (with_reducible assumption) | (with_reducible exact H32.size _) | (with_reducible exact enc_sz _ rfl) | kernel_rfl); (first | (with_reducible exact u8s_one _) | (with_reducible assumption) | (with_reducible exact enc_one _) | kernel_rfl); intro ws _ _) | ((with_reducible apply wpl_storecell); (exact rfl); (exact rfl); infer_instance; (exact rfl); (first | (with_reducible assumption) | omega | (focus (simp; done)) | (focus (simp; omega; done)) | decide); intro ws _ _) | ((with_reducible apply (wpl_storehash (t := 23))); (exact rfl); (exact rfl); infer_instance; infer_instance; (first | (with_reducible assumption) | omega | (focus (simp; done)) | (focus (simp; omega; done)) | decide); intro ws _ _) | ((with_reducible apply (wpl_storeint (t := 3))); (exact rfl); (exact rfl); infer_instance; (first | (with_reducible assumption) | omega); intro ws _ _) | ((with_reducible apply (wpl_storebyte (t := 5))); (exact rfl); (exact rfl); infer_instance; (first | (with_reducible assumption) | omega | (focus (simp; done)) | (focus (simp; omega; done)) | decide); (constructor <;> omega); intro ws _ _))
      refine wpList_nil ?_
      unfold onlyN
      refine hK_.out _ _ inferInstance (fun _ => ?_)
      clear hK_ K_
      try simp only [Act.put]
      refine wpAnyH_done (by kernel_rfl) ?_ _
    rotate_left 1
    focus
      rw [if_pos (by kernel_rfl)]
      refine wpr_of_list ?_
      (first | ((with_reducible apply (stop_dst (dst := some 33))); (try simp only [Act.put, sA, sB, sC]); ((with_reducible apply (wpl_bslice (dst := some 33))); (exact run_emptyQ _); intro ze wb _ _ _)) | ((with_reducible apply wpl_appendB); (exact rfl); (exact rfl); infer_instance; infer_instance; infer_instance; (exact hlM); (exact hn9); intro F cf wa _ hOF hGF hcf) | ((with_reducible apply (stop_dst (dst := some 38))); (try simp only [Act.put, sA, sB, sC]); ((with_reducible apply (wpl_build (dst := some 38))); (exact kbF _ _ _ _))) | ((with_reducible apply (wpl_alloc (dst := some 9))); intro z9 wz9 _ _ _) | ((with_reducible apply wpl_alloc); intro z wz _ _ _))
      refine wpList_nil ?_
      unfold onlyN
      refine hK_.out _ _ inferInstance (fun _ => ?_)
      clear hK_ K_
      try simp only [Act.put, sA]; try simp only [sB, sC]
      refine goH (i := 2) (by kernel_rfl) rfl (fun K_ hK_ => ?_)
      rw [if_pos (by kernel_rfl)]
      refine wpr_of_list ?_
      (first | ((with_reducible apply (stop_dst (dst := some 33))); (try simp only [Act.put, sA, sB, sC]); ((with_reducible apply (wpl_bslice (dst := some 33))); (exact run_emptyQ _); intro ze wb _ _ _)) | ((with_reducible apply wpl_appendB); (exact rfl); (exact rfl); infer_instance; infer_instance; infer_instance; (exact hlM); (exact hn9); intro F cf wa _ hOF hGF hcf) | ((with_reducible apply (stop_dst (dst := some 38))); (try simp only [Act.put, sA, sB, sC]); ((with_reducible apply (wpl_build (dst := some 38))); (exact kbF _ _ _ _))) | ((with_reducible apply wpl_appendB); (exact rfl); (exact rfl); infer_instance; (first | exact inferInstance | exact ⟨Own.nil _ _ _⟩); infer_instance; (first | (with_reducible assumption) | (with_reducible exact H32.len _) | (focus (simp; done)) | omega); (first | (with_reducible assumption) | omega); intro A' c' wa _ _ _ hcap) | ((with_reducible apply wpl_appendH); (exact rfl); (exact rfl); infer_instance; (first | exact inferInstance | exact ⟨Own.nil _ _ _⟩); infer_instance; (first | (with_reducible assumption) | omega); intro A' c' wa _ _ _ hcap))
      refine wpList_nil ?_
      unfold onlyN
      refine hK_.out _ _ inferInstance (fun _ => ?_)
      clear hK_ K_
      try simp only [Act.put, sA]; try simp only [sB, sC]
      refine' takeH (i := 5) (v := _) rfl (by kernel_rfl) (by kernel_rfl) (by kernel_rfl) (fun _ _ _ h => h) (yields_of (by rfl) (fun w' _ => ?_)) inferInstance ?_
      rotate_left
      · (first | ((with_reducible apply ev_build); exact kbF _ _ _ _) | (go_simp; try with_reducible rfl))
      try simp only [Act.put, sA]; try simp only [sB, sC]
      refine goH (i := 7) (by kernel_rfl) rfl (fun K_ hK_ => ?_)
      rw [if_pos (by kernel_rfl)]
      refine wpr_of_list ?_
      (first | ((with_reducible apply (stop_dst (dst := some 33))); (try simp only [Act.put, sA, sB, sC]); ((with_reducible apply (wpl_bslice (dst := some 33))); (exact run_emptyQ _); intro ze wb _ _ _)) | ((with_reducible apply wpl_appendB); (exact rfl); (exact rfl); infer_instance; infer_instance; infer_instance; (exact hlM); (exact hn9); intro F cf wa _ hOF hGF hcf) | ((with_reducible apply (stop_dst (dst := some 38))); (try simp only [Act.put, sA, sB, sC]); ((with_reducible apply (wpl_build (dst := some 38))); (exact kbF _ _ _ _))) | ((with_reducible apply wpl_storerow); (exact rfl); (exact rfl); infer_instance; infer_instance; (first | (with_reducible assumption) | (with_reducible exact H32.size _) | (with_reducible exact enc_sz _ rfl) | kernel_rfl); (first | (with_reducible assumption) | (with_reducible exact H32.size _) | (with_reducible exact enc_sz _ rfl) | kernel_rfl); (first | (with_reducible exact u8s_one _) | (with_reducible assumption) | (with_reducible exact enc_one _) | kernel_rfl); intro ws _ _) | ((with_reducible apply wpl_storecell); (exact rfl); (exact rfl); infer_instance; (exact rfl); (first | (with_reducible assumption) | omega | (focus (simp; done)) | (focus (simp; omega; done)) | decide); intro ws _ _) | ((with_reducible apply (wpl_storehash (t := 23))); (exact rfl); (exact rfl); infer_instance; infer_instance; (first | (with_reducible assumption) | omega | (focus (simp; done)) | (focus (simp; omega; done)) | decide); intro ws _ _) | ((with_reducible apply (wpl_storeint (t := 3))); (exact rfl); (exact rfl); infer_instance; (first | (with_reducible assumption) | omega); intro ws _ _) | ((with_reducible apply (wpl_storebyte (t := 5))); (exact rfl); (exact rfl); infer_instance; (first | (with_reducible assumption) | omega | (focus (simp; done)) | (focus (simp; omega; done)) | decide); (constructor <;> omega); intro ws _ _))
      refine wpList_nil ?_
      unfold onlyN
      refine hK_.out _ _ inferInstance (fun _ => ?_)
      clear hK_ K_
      try simp only [Act.put]
      refine wpAnyH_done (by kernel_rfl) ?_ _
    rotate_left 1
  rotate_left 2
  focus
    rw [if_pos (by kernel_rfl)]
    refine wpr_of_list ?_
    (first | ((with_reducible apply (stop_dst (dst := some 33))); (try simp only [Act.put, sA, sB, sC]); ((with_reducible apply (wpl_bslice (dst := some 33))); (exact run_emptyQ _); intro ze wb _ _ _)) | ((with_reducible apply wpl_appendB); (exact rfl); (exact rfl); infer_instance; infer_instance; infer_instance; (exact hlM); (exact hn9); intro F cf wa _ hOF hGF hcf) | ((with_reducible apply (stop_dst (dst := some 38))); (try simp only [Act.put, sA, sB, sC]); ((with_reducible apply (wpl_build (dst := some 38))); (exact kbF _ _ _ _))) | ((with_reducible apply (wpl_alloc (dst := some 9))); intro z9 wz9 _ _ _) | ((with_reducible apply wpl_alloc); intro z wz _ _ _))
    refine wpList_nil ?_
    unfold onlyN
    refine hK_.out _ _ inferInstance (fun _ => ?_)
    clear hK_ K_
    try simp only [Act.put, sA]; try simp only [sB, sC]
    refine goH (i := 0) (by kernel_rfl) rfl (fun K_ hK_ => ?_)
    rw [if_pos (by kernel_rfl)]
    refine wpr_of_list ?_
    (first | ((with_reducible apply (stop_dst (dst := some 33))); (try simp only [Act.put, sA, sB, sC]); ((with_reducible apply (wpl_bslice (dst := some 33))); (exact run_emptyQ _); intro ze wb _ _ _)) | ((with_reducible apply wpl_appendB); (exact rfl); (exact rfl); infer_instance; infer_instance; infer_instance; (exact hlM); (exact hn9); intro F cf wa _ hOF hGF hcf) | ((with_reducible apply (stop_dst (dst := some 38))); (try simp only [Act.put, sA, sB, sC]); ((with_reducible apply (wpl_build (dst := some 38))); (exact kbF _ _ _ _))))
    refine wpList_nil ?_
    unfold onlyN
    refine hK_.out _ _ inferInstance (fun _ => ?_)
    clear hK_ K_
    try simp only [Act.put, sA]; try simp only [sB, sC]
    refine goH (i := 2) (by kernel_rfl) rfl (fun K_ hK_ => ?_)
    rw [if_pos (by kernel_rfl)]
    refine wpr_of_list ?_
    (first | ((with_reducible apply (stop_dst (dst := some 33))); (try simp only [Act.put, sA, sB, sC]); ((with_reducible apply (wpl_bslice (dst := some 33))); (exact run_emptyQ _); intro ze wb _ _ _)) | ((with_reducible apply wpl_appendB); (exact rfl); (exact rfl); infer_instance; infer_instance; infer_instance; (exact hlM); (exact hn9); intro F cf wa _ hOF hGF hcf) | ((with_reducible apply (stop_dst (dst := some 38))); (try simp only [Act.put, sA, sB, sC]); ((with_reducible apply (wpl_build (dst := some 38))); (exact kbF _ _ _ _))) | ((with_reducible apply wpl_appendB); (exact rfl); (exact rfl); infer_instance; (first | exact inferInstance | exact ⟨Own.nil _ _ _⟩); infer_instance; (first | (with_reducible assumption) | (with_reducible exact H32.len _) | (focus (simp; done)) | omega); (first | (with_reducible assumption) | omega); intro A' c' wa _ _ _ hcap) | ((with_reducible apply wpl_appendH); (exact rfl); (exact rfl); infer_instance; (first | exact inferInstance | exact ⟨Own.nil _ _ _⟩); infer_instance; (first | (with_reducible assumption) | omega); intro A' c' wa _ _ _ hcap))
    refine wpList_nil ?_
    unfold onlyN
    refine hK_.out _ _ inferInstance (fun _ => ?_)
    clear hK_ K_
    try simp only [Act.put, sA]; try simp only [sB, sC]
    refine' takeH (i := 5) (v := _) rfl (by kernel_rfl) (by kernel_rfl) (by kernel_rfl) (fun _ _ _ h => h) (yields_of (by rfl) (fun w' _ => ?_)) inferInstance ?_
    rotate_left
    · (first | ((with_reducible apply ev_build); exact kbF _ _ _ _) | (go_simp; try with_reducible rfl))
    try simp only [Act.put, sA]; try simp only [sB, sC]
    refine goH (i := 7) (by kernel_rfl) rfl (fun K_ hK_ => ?_)
    rw [if_pos (by kernel_rfl)]
    refine wpr_of_list ?_
    (first | ((with_reducible apply (stop_dst (dst := some 33))); (try simp only [Act.put, sA, sB, sC]); ((with_reducible apply (wpl_bslice (dst := some 33))); (exact run_emptyQ _); intro ze wb _ _ _)) | ((with_reducible apply wpl_appendB); (exact rfl); (exact rfl); infer_instance; infer_instance; infer_instance; (exact hlM); (exact hn9); intro F cf wa _ hOF hGF hcf) | ((with_reducible apply (stop_dst (dst := some 38))); (try simp only [Act.put, sA, sB, sC]); ((with_reducible apply (wpl_build (dst := some 38))); (exact kbF _ _ _ _))) | ((with_reducible apply wpl_storerow); (exact rfl); (exact rfl); infer_instance; infer_instance; (first | (with_reducible assumption) | (with_reducible exact H32.size _) | (with_reducible exact enc_sz _ rfl) | kernel_rfl); (first | (with_reducible assumption) | (with_reducible exact H32.size _) | (with_reducible exact enc_sz _ rfl) | kernel_rfl); (first | (with_reducible exact u8s_one _) | (with_reducible assumption) | (with_reducible exact enc_one _) | kernel_rfl); intro ws _ _) | ((with_reducible apply wpl_storecell); (exact rfl); (exact rfl); infer_instance; (exact rfl); (first | (with_reducible assumption) | omega | (focus (simp; done)) | (focus (simp; omega; done)) | decide); intro ws _ _) | ((with_reducible apply (wpl_storehash (t := 23))); (exact rfl); (exact rfl); infer_instance; infer_instance; (first | (with_reducible assumption) | omega | (focus (simp; done)) | (focus (simp; omega; done)) | decide); intro ws _ _) | ((with_reducible apply (wpl_storeint (t := 3))); (exact rfl); (exact rfl); infer_instance; (first | (with_reducible assumption) | omega); intro ws _ _) | ((with_reducible apply (wpl_storebyte (t := 5))); (exact rfl); (exact rfl); infer_instance; (first | (with_reducible assumption) | omega | (focus (simp; done)) | (focus (simp; omega; done)) | decide); (constructor <;> omega); intro ws _ _))
    refine wpList_nil ?_
    unfold onlyN
    refine hK_.out _ _ inferInstance (fun _ => ?_)
    clear hK_ K_
    try simp only [Act.put]
    refine wpAnyH_done (by kernel_rfl) ?_ _
  rotate_left 1
  all_goals
    go_wp2_with (first | go_skip | ((with_reducible apply wpl_alloc); intro z wz _ _ _) | ((with_reducible apply (wpl_guard (op := .load _ _))); (exact rfl)) | ((with_reducible apply wpl_loadrow); (exact rfl); infer_instance; infer_instance; (first | (with_reducible assumption) | (with_reducible exact H32.size _) | (with_reducible exact enc_sz _ rfl) | kernel_rfl)) | ((with_reducible apply wpl_loadcellN); (exact rfl); infer_instance; (exact rfl)) | ((with_reducible apply wpl_storerow); (exact rfl); (exact rfl); infer_instance; infer_instance; (first | (with_reducible assumption) | (with_reducible exact H32.size _) | (with_reducible exact enc_sz _ rfl) | kernel_rfl); (first | (with_reducible assumption) | (with_reducible exact H32.size _) | (with_reducible exact enc_sz _ rfl) | kernel_rfl); (first | (with_reducible exact u8s_one _) | (with_reducible assumption) | (with_reducible exact enc_one _) | kernel_rfl); intro ws _ _) | ((with_reducible apply wpl_storecell); (exact rfl); (exact rfl); infer_instance; (exact rfl); (first | (with_reducible assumption) | omega | (focus (simp; done)) | (focus (simp; omega; done)) | decide); intro ws _ _))
    have hOF1 : HO ws 5 1 F (0 + nb) cf (bs ([] ++ m)) := inferInstance
    have hB91 : HB ws z9 61 #[.slice F (0 + nb) cf, .slice A 2 cm] := inferInstance
    obtain ⟨fa, hfa⟩ : ∃ fa, F = some fa := by
      rcases hOF1.out.form with ⟨_, h, _⟩ | ⟨g, _, h, _⟩
      · omega
      · exact ⟨_, h⟩
    subst hfa
    have hOF2 : HO ws 5 1 (some fa) nb cf (bs m) := ⟨by
      have := hOF1.out
      rwa [Nat.zero_add] at this⟩
    have hB9 : HB ws z9 61 #[.slice (some fa) nb cf, .slice A 2 cm] := by
      rwa [Nat.zero_add] at hB91
    have hcf : nb ≤ cf := by omega
    have hz7 : HB ws z7 61 #[.slice M nb cb, .slice A 2 cm] := inferInstance
    have hz8 : HB ws z8 63 #[.slice K 3 ck, .int .i64 1] := inferInstance
    have hA8 : HR ws A (cellsOf [r, q]) := inferInstance
    have hK8 : HR ws K (cellsOf [p0, p1, p2]) := inferInstance
    have hM8 : HR ws M (bs m) := inferInstance
    have f9 : OffB (rowOf (some fa)) z9 := inferInstance
    have f7 : OffB (rowOf (some fa)) z7 := inferInstance
    have f8 : OffB (rowOf (some fa)) z8 := inferInstance
    have n18 : Nw w1 ws := inferInstance
    have nw8 : Nw w ws := inferInstance
    have nfa0 : NewA _ (some fa) := inferInstance
    have ab0 : Above w (rowOf (some fa)) := by
      have := NewA.mono (w0 := w) nfa0
      infer_instance
    have ab1 : Above w1 (rowOf (some fa)) := by
      have := NewA.mono (w0 := w1) nfa0
      infer_instance
    have hnb0 : ¬ nb = 0 := by omega
    have fA : OffR (rowOf (some fa)) A (cellsOf [r, q]) := inferInstance
    have fK : OffR (rowOf (some fa)) K (cellsOf [p0, p1, p2]) := inferInstance
    have fM : OffR (rowOf (some fa)) M (bs m) := inferInstance
    clear hOF hGF hOF1 hB91
    obtain ⟨q0, hq0, hq1⟩ := and_lowQ at'
    have HAND := Lib.hid hq0
    obtain ⟨j, hj⟩ : ∃ j, j = q0 % nb := ⟨_, rfl⟩
    have hjn : j < nb := by rw [hj]; exact Nat.mod_lt _ (by omega)
    have HREM : Hid ((q0 : Int).tmod (nb : Int) = (j : Int)) := Lib.hid (by rw [hj]; exact (Int.ofNat_tmod q0 nb).symm)
    have hvd := bs_getqQ m j (by rw [HM.out]; exact hjn)
    obtain ⟨u, hu⟩ : ∃ u, u = bget m j := ⟨_, rfl⟩
    rw [← hu] at hvd
    obtain ⟨v, hv⟩ : ∃ v, v = bits .xor .u8 (u.toNat : Int) y := ⟨_, rfl⟩
    have hv0 : 0 ≤ v ∧ v < 256 := by rw [hv]; exact xor_u8_in _ _
    have HXOR : Hid (bits .xor .u8 (u.toNat : Int) y = v) := Lib.hid hv.symm
    have hjm : j < m.length := by rw [HM.out]; exact hjn
    clear hq0 hj hu hv
    refine wp_region_N ((rowOf (some fa))) (by kernel_rfl) (fun wd _ _ => ?_)
    refine' takeH (i := 0) (v := _) rfl (by kernel_rfl) (by kernel_rfl) (by kernel_rfl) (fun _ _ _ h => h) (yields_of (by rfl) (fun w' _ => ?_)) inferInstance ?_
    rotate_left
    · (first | ((with_reducible apply (ev_fieldE (t := 74))); (exact Try.underlying74); (exact rfl); (kernel_rfl); (exact rfl); infer_instance; (exact cells_pos (by decide) (by omega))) | (go_simp; try with_reducible rfl))
    try simp only [Act.put, sA]; try simp only [sB, sC]
    refine' takeH (i := 1) (v := _) rfl (by kernel_rfl) (by kernel_rfl) (by kernel_rfl) (fun _ _ _ h => h) (yields_of (by rfl) (fun w' _ => ?_)) inferInstance ?_
    rotate_left
    · (first | ((with_reducible apply ev_loadrow); (exact rfl); infer_instance; infer_instance; (first | (with_reducible assumption) | (with_reducible exact H32.size _) | (with_reducible exact enc_sz _ rfl) | kernel_rfl)) | ((with_reducible apply (ev_loadhash (t := 23))); (exact rfl); infer_instance; infer_instance; (first | (with_reducible assumption) | omega)) | ((with_reducible apply ev_loadcellN); (exact rfl); infer_instance; infer_instance; (exact rfl)) | ((with_reducible apply (ev_loadE (α := MarkR) (t := 74))); infer_instance; (exact rfl); infer_instance; (exact rfl); (decide); (first | (with_reducible assumption) | omega | (focus (simp; done)) | (focus (simp; omega; done)) | decide)) | ((with_reducible apply (ev_loadF (α := MarkR))); infer_instance; (exact rfl); infer_instance; (exact rfl); (first | (with_reducible assumption) | omega | (focus (simp; done)) | (focus (simp; omega; done)) | decide); (exact rfl)) | ((with_reducible apply (ev_loadint (t := 3))); (exact rfl); infer_instance; infer_instance; (first | (with_reducible assumption) | omega)) | ((with_reducible apply (ev_loadbyte (t := 5))); (exact rfl); infer_instance; infer_instance; (first | (with_reducible assumption) | omega)) | (go_simp; try with_reducible rfl))
    try simp only [Act.put, sA]; try simp only [sB, sC]
    refine' takeH (i := 2) (v := _) rfl (by kernel_rfl) (by kernel_rfl) (by kernel_rfl) (fun _ _ _ h => h) (yields_of (by rfl) (fun w' _ => ?_)) inferInstance ?_
    rotate_left
    · (go_simp; try with_reducible rfl)
    try simp only [Act.put, sA]; try simp only [sB, sC]
    refine' takeH (i := 3) (v := _) rfl (by kernel_rfl) (by kernel_rfl) (by kernel_rfl) (fun _ _ _ h => h) (yields_of (by rfl) (fun w' _ => ?_)) inferInstance ?_
    rotate_left
    · (go_simp; try with_reducible rfl)
    try simp only [Act.put, sA]; try simp only [sB, sC]
    try simp only [HAND.out]
    try simp only [HREM.out]
    try simp only [HXOR.out]
    refine' takeH (i := 4) (v := _) rfl (by kernel_rfl) (by kernel_rfl) (by kernel_rfl) (fun _ _ _ h => h) (yields_of (by rfl) (fun w' _ => ?_)) inferInstance ?_
    rotate_left
    · (go_simp; try with_reducible rfl)
    try simp only [Act.put, sA]; try simp only [sB, sC]
    refine' takeH (i := 5) (v := _) rfl (by kernel_rfl) (by kernel_rfl) (by kernel_rfl) (fun _ _ _ h => h) (yields_of (by rfl) (fun w' _ => ?_)) inferInstance ?_
    rotate_left
    · (go_simp; try with_reducible rfl)
    try simp only [Act.put, sA]; try simp only [sB, sC]
    refine' takeH (i := 6) (v := _) rfl (by kernel_rfl) (by kernel_rfl) (by kernel_rfl) (fun _ _ _ h => h) (yields_of (by rfl) (fun w' _ => ?_)) inferInstance ?_
    rotate_left
    · (go_simp; try with_reducible rfl)
    try simp only [Act.put, sA]; try simp only [sB, sC]
    try simp only [HAND.out]
    try simp only [HREM.out]
    try simp only [HXOR.out]
    refine' takeH (i := 7) (v := _) rfl (by kernel_rfl) (by kernel_rfl) (by kernel_rfl) (fun _ _ _ h => h) (yields_of (by rfl) (fun w' _ => ?_)) inferInstance ?_
    rotate_left
    · (first | ((with_reducible apply ev_indexNQ); (exact rfl); (exact rfl); infer_instance; (exact hjn)))
    try simp only [Act.put, sA]; try simp only [sB, sC]
    refine' takeH (i := 9) (v := _) rfl (by kernel_rfl) (by kernel_rfl) (by kernel_rfl) (fun _ _ _ h => h) (yields_of (by rfl) (fun w' _ => ?_)) inferInstance ?_
    rotate_left
    · (go_simp; try with_reducible rfl)
    try simp only [Act.put, sA]; try simp only [sB, sC]
    refine goH (i := 8) (by kernel_rfl) rfl (fun K_ hK_ => ?_)
    rw [if_pos (by kernel_rfl)]
    refine wpr_of_list ?_
    (first | ((with_reducible apply wpl_indexNQ); (exact rfl); (exact rfl); infer_instance; (exact hjn)) | ((with_reducible apply wpl_load1); (exact rfl); infer_instance; infer_instance; (exact hvd)) | ((with_reducible apply wpl_storeBQ); (exact rfl); (exact rfl); infer_instance; (exact hjm); (exact hv0); intro ws _ hOG) | ((with_reducible apply wpl_loadrow); (exact rfl); infer_instance; infer_instance; (first | (with_reducible assumption) | (with_reducible exact H32.size _) | (with_reducible exact enc_sz _ rfl) | kernel_rfl)) | ((with_reducible apply wpl_loadcellN); (exact rfl); infer_instance; (exact rfl)) | ((with_reducible apply (wpl_loadhash (t := 23))); (exact rfl); infer_instance; infer_instance; (first | (with_reducible assumption) | omega)) | ((with_reducible apply (wpl_loadE (α := MarkR) (t := 74))); infer_instance; (exact rfl); infer_instance; (exact rfl); (decide); (first | (with_reducible assumption) | omega | (focus (simp; done)) | (focus (simp; omega; done)) | decide)) | ((with_reducible apply (wpl_loadF (α := MarkR))); infer_instance; (exact rfl); infer_instance; (exact rfl); (first | (with_reducible assumption) | omega | (focus (simp; done)) | (focus (simp; omega; done)) | decide); (exact rfl)) | ((with_reducible apply (wpl_loadint (t := 3))); (exact rfl); infer_instance; infer_instance; (first | (with_reducible assumption) | omega)) | ((with_reducible apply (wpl_loadbyte (t := 5))); (exact rfl); infer_instance; infer_instance; (first | (with_reducible assumption) | omega)))
    refine wpList_nil ?_
    unfold onlyN
    refine hK_.out _ _ inferInstance (fun _ => ?_)
    clear hK_ K_
    try simp only [Act.put, sA]; try simp only [sB, sC]
    refine' takeH (i := 10) (v := _) rfl (by kernel_rfl) (by kernel_rfl) (by kernel_rfl) (fun _ _ _ h => h) (yields_of (by rfl) (fun w' _ => ?_)) inferInstance ?_
    rotate_left
    · (go_simp; try with_reducible rfl)
    try simp only [Act.put, sA]; try simp only [sB, sC]
    try simp only [HAND.out]
    try simp only [HREM.out]
    try simp only [HXOR.out]
    refine' takeH (i := 11) (v := _) rfl (by kernel_rfl) (by kernel_rfl) (by kernel_rfl) (fun _ _ _ h => h) (yields_of (by rfl) (fun w' _ => ?_)) inferInstance ?_
    rotate_left
    · (first | ((with_reducible apply ev_indexNQ); (exact rfl); (exact rfl); infer_instance; (exact hjn)))
    try simp only [Act.put, sA]; try simp only [sB, sC]
    refine goH (i := 12) (by kernel_rfl) rfl (fun K_ hK_ => ?_)
    rw [if_pos (by kernel_rfl)]
    refine wpr_of_list ?_
    (first | ((with_reducible apply wpl_indexNQ); (exact rfl); (exact rfl); infer_instance; (exact hjn)) | ((with_reducible apply wpl_load1); (exact rfl); infer_instance; infer_instance; (exact hvd)) | ((with_reducible apply wpl_storeBQ); (exact rfl); (exact rfl); infer_instance; (exact hjm); (exact hv0); intro ws _ hOG) | ((with_reducible apply wpl_storerow); (exact rfl); (exact rfl); infer_instance; infer_instance; (first | (with_reducible assumption) | (with_reducible exact H32.size _) | (with_reducible exact enc_sz _ rfl) | kernel_rfl); (first | (with_reducible assumption) | (with_reducible exact H32.size _) | (with_reducible exact enc_sz _ rfl) | kernel_rfl); (first | (with_reducible exact u8s_one _) | (with_reducible assumption) | (with_reducible exact enc_one _) | kernel_rfl); intro ws _ _) | ((with_reducible apply wpl_storecell); (exact rfl); (exact rfl); infer_instance; (exact rfl); (first | (with_reducible assumption) | omega | (focus (simp; done)) | (focus (simp; omega; done)) | decide); intro ws _ _) | ((with_reducible apply (wpl_storehash (t := 23))); (exact rfl); (exact rfl); infer_instance; infer_instance; (first | (with_reducible assumption) | omega | (focus (simp; done)) | (focus (simp; omega; done)) | decide); intro ws _ _) | ((with_reducible apply (wpl_storeint (t := 3))); (exact rfl); (exact rfl); infer_instance; (first | (with_reducible assumption) | omega); intro ws _ _) | ((with_reducible apply (wpl_storebyte (t := 5))); (exact rfl); (exact rfl); infer_instance; (first | (with_reducible assumption) | omega | (focus (simp; done)) | (focus (simp; omega; done)) | decide); (constructor <;> omega); intro ws _ _))
    refine wpList_nil ?_
    unfold onlyN
    refine hK_.out _ _ inferInstance (fun _ => ?_)
    clear hK_ K_
    try simp only [Act.put]
    refine wpAnyH_done (by kernel_rfl) ?_ _
    go_wp2_with (first | go_skip | ((with_reducible apply wpl_alloc); intro z wz _ _ _) | ((with_reducible apply (wpl_guard (op := .load _ _))); (exact rfl)) | ((with_reducible apply wpl_loadrow); (exact rfl); infer_instance; infer_instance; (first | (with_reducible assumption) | (with_reducible exact H32.size _) | (with_reducible exact enc_sz _ rfl) | kernel_rfl)) | ((with_reducible apply wpl_loadcellN); (exact rfl); infer_instance; (exact rfl)) | ((with_reducible apply wpl_storerow); (exact rfl); (exact rfl); infer_instance; infer_instance; (first | (with_reducible assumption) | (with_reducible exact H32.size _) | (with_reducible exact enc_sz _ rfl) | kernel_rfl); (first | (with_reducible assumption) | (with_reducible exact H32.size _) | (with_reducible exact enc_sz _ rfl) | kernel_rfl); (first | (with_reducible exact u8s_one _) | (with_reducible assumption) | (with_reducible exact enc_one _) | kernel_rfl); intro ws _ _) | ((with_reducible apply wpl_storecell); (exact rfl); (exact rfl); infer_instance; (exact rfl); (first | (with_reducible assumption) | omega | (focus (simp; done)) | (focus (simp; omega; done)) | decide); intro ws _ _))
    obtain ⟨m', hm'⟩ : ∃ x, x = m.set j (b8 v) := ⟨_, rfl⟩
    have HM2 : Hid (m'.length = nb) := Lib.hid (by rw [hm', List.length_set, HM.out])
    have hOF3 : HO ws 5 1 (some fa) nb cf (bs m') := by
      rw [hm']
      infer_instance
    have nw9 : Nw w ws := inferInstance
    have n19 : Nw w1 ws := inferInstance
    have h7a : HB ws z7 61 #[.slice M nb cb, .slice A 2 cm] := inferInstance
    have h8a : HB ws z8 63 #[.slice K 3 ck, .int .i64 1] := inferInstance
    have h9a : HB ws z9 61 #[.slice (some fa) nb cf, .slice A 2 cm] := inferInstance
    have hA9 : HR ws A (cellsOf [r, q]) := inferInstance
    have hK9 : HR ws K (cellsOf [p0, p1, p2]) := inferInstance
    have hM9 : HR ws M (bs m) := inferInstance
    clear hOG hm' HAND HREM HXOR
    have kb1 := run_mark { r with key := p1 }
    have kb2 := run_mark { q with key := p0 }
    have kbT := run_twoM { r with key := p1 } { q with key := p0 }
    have kbG : ∀ (G : Option Addr) w, (Instr.build 61 #[(0, .slice M nb cb), (1, .slice G 2 2)]).run Try.prog w = .ok (.agg #[.slice M nb cb, .slice G 2 2]) w := fun _ _ => by kernel_rfl
    refine wp_region_N (nowhere) (by kernel_rfl) (fun wd _ _ => ?_)
    refine' takeH (i := 0) (v := _) rfl (by kernel_rfl) (by kernel_rfl) (by kernel_rfl) (fun _ _ _ h => h) (yields_of (by rfl) (fun w' _ => ?_)) inferInstance ?_
    rotate_left
    · (go_simp; try with_reducible rfl)
    try simp only [Act.put, sA]; try simp only [sB, sC]
    refine' takeH (i := 1) (v := _) rfl (by kernel_rfl) (by kernel_rfl) (by kernel_rfl) (fun _ _ _ h => h) (yields_of (by rfl) (fun w' _ => ?_)) inferInstance ?_
    rotate_left
    · (first | ((with_reducible apply (ev_fieldE (t := 74))); (exact Try.underlying74); (exact rfl); (kernel_rfl); (exact rfl); infer_instance; (exact cells_pos (by decide) (by omega))) | (go_simp; try with_reducible rfl))
    try simp only [Act.put, sA]; try simp only [sB, sC]
    refine' takeH (i := 2) (v := _) rfl (by kernel_rfl) (by kernel_rfl) (by kernel_rfl) (fun _ _ _ h => h) (yields_of (by rfl) (fun w' _ => ?_)) inferInstance ?_
    rotate_left
    · (first | ((with_reducible apply ev_loadrow); (exact rfl); infer_instance; infer_instance; (first | (with_reducible assumption) | (with_reducible exact H32.size _) | (with_reducible exact enc_sz _ rfl) | kernel_rfl)) | ((with_reducible apply (ev_loadhash (t := 23))); (exact rfl); infer_instance; infer_instance; (first | (with_reducible assumption) | omega)) | ((with_reducible apply ev_loadcellN); (exact rfl); infer_instance; infer_instance; (exact rfl)) | ((with_reducible apply (ev_loadE (α := MarkR) (t := 74))); infer_instance; (exact rfl); infer_instance; (exact rfl); (decide); (first | (with_reducible assumption) | omega | (focus (simp; done)) | (focus (simp; omega; done)) | decide)) | ((with_reducible apply (ev_loadF (α := MarkR))); infer_instance; (exact rfl); infer_instance; (exact rfl); (first | (with_reducible assumption) | omega | (focus (simp; done)) | (focus (simp; omega; done)) | decide); (exact rfl)) | ((with_reducible apply (ev_loadint (t := 3))); (exact rfl); infer_instance; infer_instance; (first | (with_reducible assumption) | omega)) | ((with_reducible apply (ev_loadbyte (t := 5))); (exact rfl); infer_instance; infer_instance; (first | (with_reducible assumption) | omega)) | (go_simp; try with_reducible rfl))
    try simp only [Act.put, sA]; try simp only [sB, sC]
    refine' takeH (i := 3) (v := _) rfl (by kernel_rfl) (by kernel_rfl) (by kernel_rfl) (fun _ _ _ h => h) (yields_of (by rfl) (fun w' _ => ?_)) inferInstance ?_
    rotate_left
    · (first | ((with_reducible apply (ev_indexH (k := 1))); (exact rfl); (exact rfl); infer_instance; infer_instance; (exact rfl); (decide)))
    try simp only [Act.put, sA]; try simp only [sB, sC]
    refine' takeH (i := 4) (v := _) rfl (by kernel_rfl) (by kernel_rfl) (by kernel_rfl) (fun _ _ _ h => h) (yields_of (by rfl) (fun w' _ => ?_)) inferInstance ?_
    rotate_left
    · (first | ((with_reducible apply (ev_loadhash (k := 1))); (exact rfl); infer_instance; infer_instance; (simp)))
    try simp only [Act.put, sA]; try simp only [sB, sC]
    refine' takeH (i := 5) (v := _) rfl (by kernel_rfl) (by kernel_rfl) (by kernel_rfl) (fun _ _ _ h => h) (yields_of (by rfl) (fun w' _ => ?_)) inferInstance ?_
    rotate_left
    · (first | ((with_reducible apply (ev_fieldE (t := 74))); (exact Try.underlying74); (exact rfl); (kernel_rfl); (exact rfl); infer_instance; (exact cells_pos (by decide) (by omega))) | (go_simp; try with_reducible rfl))
    try simp only [Act.put, sA]; try simp only [sB, sC]
    refine' takeH (i := 6) (v := _) rfl (by kernel_rfl) (by kernel_rfl) (by kernel_rfl) (fun _ _ _ h => h) (yields_of (by rfl) (fun w' _ => ?_)) inferInstance ?_
    rotate_left
    · (first | ((with_reducible apply ev_loadrow); (exact rfl); infer_instance; infer_instance; (first | (with_reducible assumption) | (with_reducible exact H32.size _) | (with_reducible exact enc_sz _ rfl) | kernel_rfl)) | ((with_reducible apply (ev_loadhash (t := 23))); (exact rfl); infer_instance; infer_instance; (first | (with_reducible assumption) | omega)) | ((with_reducible apply ev_loadcellN); (exact rfl); infer_instance; infer_instance; (exact rfl)) | ((with_reducible apply (ev_loadE (α := MarkR) (t := 74))); infer_instance; (exact rfl); infer_instance; (exact rfl); (decide); (first | (with_reducible assumption) | omega | (focus (simp; done)) | (focus (simp; omega; done)) | decide)) | ((with_reducible apply (ev_loadF (α := MarkR))); infer_instance; (exact rfl); infer_instance; (exact rfl); (first | (with_reducible assumption) | omega | (focus (simp; done)) | (focus (simp; omega; done)) | decide); (exact rfl)) | ((with_reducible apply (ev_loadint (t := 3))); (exact rfl); infer_instance; infer_instance; (first | (with_reducible assumption) | omega)) | ((with_reducible apply (ev_loadbyte (t := 5))); (exact rfl); infer_instance; infer_instance; (first | (with_reducible assumption) | omega)) | (go_simp; try with_reducible rfl))
    try simp only [Act.put, sA]; try simp only [sB, sC]
    refine' takeH (i := 7) (v := _) rfl (by kernel_rfl) (by kernel_rfl) (by kernel_rfl) (fun _ _ _ h => h) (yields_of (by rfl) (fun w' _ => ?_)) inferInstance ?_
    rotate_left
    · (first | ((with_reducible apply (ev_indexE (α := MarkR) (k := 0))); (exact rfl); (exact rfl); infer_instance; infer_instance; (exact rfl); (exact rfl); (decide); (decide)))
    try simp only [Act.put, sA]; try simp only [sB, sC]
    refine' takeH (i := 8) (v := _) rfl (by kernel_rfl) (by kernel_rfl) (by kernel_rfl) (fun _ _ _ h => h) (yields_of (by rfl) (fun w' _ => ?_)) inferInstance ?_
    rotate_left
    · (first | ((with_reducible apply (ev_fieldE (t := 74))); (exact Try.underlying74); (exact rfl); (kernel_rfl); (exact rfl); infer_instance; (exact cells_pos (l := [r, q]) (by decide) (by simp))))
    try simp only [Act.put, sA]; try simp only [sB, sC]
    refine' takeH (i := 9) (v := _) rfl (by kernel_rfl) (by kernel_rfl) (by kernel_rfl) (fun _ _ _ h => h) (yields_of (by rfl) (fun w' _ => ?_)) inferInstance ?_
    rotate_left
    · (first | ((with_reducible apply (ev_loadEP (α := MarkR) (k := 0) (j := 32))); infer_instance; (exact rfl); infer_instance; (exact rfl); (decide); (simp); (exact mark_sig _); (exact rfl)))
    try simp only [Act.put, sA]; try simp only [sB, sC]
    refine' takeH (i := 10) (v := _) rfl (by kernel_rfl) (by kernel_rfl) (by kernel_rfl) (fun _ _ _ h => h) (yields_of (by rfl) (fun w' _ => ?_)) inferInstance ?_
    rotate_left
    · (first | ((with_reducible apply ev_build); (exact kb1 _)))
    try simp only [Act.put, sA]; try simp only [sB, sC]
    refine' takeH (i := 11) (v := _) rfl (by kernel_rfl) (by kernel_rfl) (by kernel_rfl) (fun _ _ _ h => h) (yields_of (by rfl) (fun w' _ => ?_)) inferInstance ?_
    rotate_left
    · (first | ((with_reducible apply (ev_fieldE (t := 74))); (exact Try.underlying74); (exact rfl); (kernel_rfl); (exact rfl); infer_instance; (exact cells_pos (by decide) (by omega))) | (go_simp; try with_reducible rfl))
    try simp only [Act.put, sA]; try simp only [sB, sC]
    refine' takeH (i := 12) (v := _) rfl (by kernel_rfl) (by kernel_rfl) (by kernel_rfl) (fun _ _ _ h => h) (yields_of (by rfl) (fun w' _ => ?_)) inferInstance ?_
    rotate_left
    · (first | ((with_reducible apply ev_loadrow); (exact rfl); infer_instance; infer_instance; (first | (with_reducible assumption) | (with_reducible exact H32.size _) | (with_reducible exact enc_sz _ rfl) | kernel_rfl)) | ((with_reducible apply (ev_loadhash (t := 23))); (exact rfl); infer_instance; infer_instance; (first | (with_reducible assumption) | omega)) | ((with_reducible apply ev_loadcellN); (exact rfl); infer_instance; infer_instance; (exact rfl)) | ((with_reducible apply (ev_loadE (α := MarkR) (t := 74))); infer_instance; (exact rfl); infer_instance; (exact rfl); (decide); (first | (with_reducible assumption) | omega | (focus (simp; done)) | (focus (simp; omega; done)) | decide)) | ((with_reducible apply (ev_loadF (α := MarkR))); infer_instance; (exact rfl); infer_instance; (exact rfl); (first | (with_reducible assumption) | omega | (focus (simp; done)) | (focus (simp; omega; done)) | decide); (exact rfl)) | ((with_reducible apply (ev_loadint (t := 3))); (exact rfl); infer_instance; infer_instance; (first | (with_reducible assumption) | omega)) | ((with_reducible apply (ev_loadbyte (t := 5))); (exact rfl); infer_instance; infer_instance; (first | (with_reducible assumption) | omega)) | (go_simp; try with_reducible rfl))
    try simp only [Act.put, sA]; try simp only [sB, sC]
    refine' takeH (i := 13) (v := _) rfl (by kernel_rfl) (by kernel_rfl) (by kernel_rfl) (fun _ _ _ h => h) (yields_of (by rfl) (fun w' _ => ?_)) inferInstance ?_
    rotate_left
    · (first | ((with_reducible apply (ev_indexH (k := 0))); (exact rfl); (exact rfl); infer_instance; infer_instance; (exact rfl); (decide)))
    try simp only [Act.put, sA]; try simp only [sB, sC]
    refine' takeH (i := 14) (v := _) rfl (by kernel_rfl) (by kernel_rfl) (by kernel_rfl) (fun _ _ _ h => h) (yields_of (by rfl) (fun w' _ => ?_)) inferInstance ?_
    rotate_left
    · (first | ((with_reducible apply (ev_loadhash (k := 0))); (exact rfl); infer_instance; infer_instance; (simp)))
    try simp only [Act.put, sA]; try simp only [sB, sC]
    refine' takeH (i := 15) (v := _) rfl (by kernel_rfl) (by kernel_rfl) (by kernel_rfl) (fun _ _ _ h => h) (yields_of (by rfl) (fun w' _ => ?_)) inferInstance ?_
    rotate_left
    · (first | ((with_reducible apply (ev_fieldE (t := 74))); (exact Try.underlying74); (exact rfl); (kernel_rfl); (exact rfl); infer_instance; (exact cells_pos (by decide) (by omega))) | (go_simp; try with_reducible rfl))
    try simp only [Act.put, sA]; try simp only [sB, sC]
    refine' takeH (i := 16) (v := _) rfl (by kernel_rfl) (by kernel_rfl) (by kernel_rfl) (fun _ _ _ h => h) (yields_of (by rfl) (fun w' _ => ?_)) inferInstance ?_
    rotate_left
    · (first | ((with_reducible apply ev_loadrow); (exact rfl); infer_instance; infer_instance; (first | (with_reducible assumption) | (with_reducible exact H32.size _) | (with_reducible exact enc_sz _ rfl) | kernel_rfl)) | ((with_reducible apply (ev_loadhash (t := 23))); (exact rfl); infer_instance; infer_instance; (first | (with_reducible assumption) | omega)) | ((with_reducible apply ev_loadcellN); (exact rfl); infer_instance; infer_instance; (exact rfl)) | ((with_reducible apply (ev_loadE (α := MarkR) (t := 74))); infer_instance; (exact rfl); infer_instance; (exact rfl); (decide); (first | (with_reducible assumption) | omega | (focus (simp; done)) | (focus (simp; omega; done)) | decide)) | ((with_reducible apply (ev_loadF (α := MarkR))); infer_instance; (exact rfl); infer_instance; (exact rfl); (first | (with_reducible assumption) | omega | (focus (simp; done)) | (focus (simp; omega; done)) | decide); (exact rfl)) | ((with_reducible apply (ev_loadint (t := 3))); (exact rfl); infer_instance; infer_instance; (first | (with_reducible assumption) | omega)) | ((with_reducible apply (ev_loadbyte (t := 5))); (exact rfl); infer_instance; infer_instance; (first | (with_reducible assumption) | omega)) | (go_simp; try with_reducible rfl))
    try simp only [Act.put, sA]; try simp only [sB, sC]
    refine' takeH (i := 17) (v := _) rfl (by kernel_rfl) (by kernel_rfl) (by kernel_rfl) (fun _ _ _ h => h) (yields_of (by rfl) (fun w' _ => ?_)) inferInstance ?_
    rotate_left
    · (first | ((with_reducible apply (ev_indexE (α := MarkR) (k := 1))); (exact rfl); (exact rfl); infer_instance; infer_instance; (exact rfl); (exact rfl); (decide); (decide)))
    try simp only [Act.put, sA]; try simp only [sB, sC]
    refine' takeH (i := 18) (v := _) rfl (by kernel_rfl) (by kernel_rfl) (by kernel_rfl) (fun _ _ _ h => h) (yields_of (by rfl) (fun w' _ => ?_)) inferInstance ?_
    rotate_left
    · (first | ((with_reducible apply (ev_fieldE (t := 74))); (exact Try.underlying74); (exact rfl); (kernel_rfl); (exact rfl); infer_instance; (exact cells_pos (l := [r, q]) (by decide) (by simp))))
    try simp only [Act.put, sA]; try simp only [sB, sC]
    refine' takeH (i := 19) (v := _) rfl (by kernel_rfl) (by kernel_rfl) (by kernel_rfl) (fun _ _ _ h => h) (yields_of (by rfl) (fun w' _ => ?_)) inferInstance ?_
    rotate_left
    · (first | ((with_reducible apply (ev_loadEP (α := MarkR) (k := 1) (j := 32))); infer_instance; (exact rfl); infer_instance; (exact rfl); (decide); (simp); (exact mark_sig _); (exact rfl)))
    try simp only [Act.put, sA]; try simp only [sB, sC]
    refine' takeH (i := 20) (v := _) rfl (by kernel_rfl) (by kernel_rfl) (by kernel_rfl) (fun _ _ _ h => h) (yields_of (by rfl) (fun w' _ => ?_)) inferInstance ?_
    rotate_left
    · (first | ((with_reducible apply ev_build); (exact kb2 _)))
    try simp only [Act.put, sA]; try simp only [sB, sC]
    refine wpAnyH_ready (rs := [21, 23]) (by kernel_rfl) (by simp) (AllReadyH.cons rfl (fun K_ hK_ => ?_) (AllReadyH.cons rfl (fun K_ hK_ => ?_) AllReadyH.nil))
    focus
      rw [if_pos (by kernel_rfl)]
      refine wpr_of_list ?_
      (first | ((with_reducible apply (stop_dst (dst := some 61))); (try simp only [Act.put, sA, sB, sC]); ((with_reducible apply (wpl_build (dst := some 61))); (exact kb1 _))) | ((with_reducible apply (stop_dst (dst := some 71))); (try simp only [Act.put, sA, sB, sC]); ((with_reducible apply (wpl_build (dst := some 71))); (exact kb2 _))) | ((with_reducible apply (stop_dst (dst := some 72))); (try simp only [Act.put, sA, sB, sC]); ((with_reducible apply (wpl_bslice (dst := some 72))); (exact kbT _); intro zt wb _ _ _)) | ((with_reducible apply (stop_dst (dst := some 73))); (try simp only [Act.put, sA, sB, sC]); ((with_reducible apply (wpl_build (dst := some 73))); (exact kbG _ _))))
      refine wpList_nil ?_
      unfold onlyN
      refine hK_.out _ _ inferInstance (fun _ => ?_)
      clear hK_ K_
      try simp only [Act.put, sA]; try simp only [sB, sC]
      refine' takeH (i := 22) (v := _) rfl (by kernel_rfl) (by kernel_rfl) (by kernel_rfl) (fun _ _ _ h => h) (yields_of (by rfl) (fun w' _ => ?_)) inferInstance ?_
      rotate_left
      · (first | ((with_reducible apply ev_build); (exact kbG _ _)))
      try simp only [Act.put, sA]; try simp only [sB, sC]
      refine goH (i := 23) (by kernel_rfl) rfl (fun K_ hK_ => ?_)
      rw [if_pos (by kernel_rfl)]
      refine wpr_of_list ?_
      (first | ((with_reducible apply (stop_dst (dst := some 61))); (try simp only [Act.put, sA, sB, sC]); ((with_reducible apply (wpl_build (dst := some 61))); (exact kb1 _))) | ((with_reducible apply (stop_dst (dst := some 71))); (try simp only [Act.put, sA, sB, sC]); ((with_reducible apply (wpl_build (dst := some 71))); (exact kb2 _))) | ((with_reducible apply (stop_dst (dst := some 72))); (try simp only [Act.put, sA, sB, sC]); ((with_reducible apply (wpl_bslice (dst := some 72))); (exact kbT _); intro zt wb _ _ _)) | ((with_reducible apply (stop_dst (dst := some 73))); (try simp only [Act.put, sA, sB, sC]); ((with_reducible apply (wpl_build (dst := some 73))); (exact kbG _ _))) | ((with_reducible apply (wpl_alloc (dst := some 10))); intro z10 wz10 _ _ _) | ((with_reducible apply wpl_alloc); intro z wz _ _ _))
      refine wpList_nil ?_
      unfold onlyN
      refine hK_.out _ _ inferInstance (fun _ => ?_)
      clear hK_ K_
      try simp only [Act.put, sA]; try simp only [sB, sC]
      refine goH (i := 24) (by kernel_rfl) rfl (fun K_ hK_ => ?_)
      rw [if_pos (by kernel_rfl)]
      refine wpr_of_list ?_
      (first | ((with_reducible apply (stop_dst (dst := some 61))); (try simp only [Act.put, sA, sB, sC]); ((with_reducible apply (wpl_build (dst := some 61))); (exact kb1 _))) | ((with_reducible apply (stop_dst (dst := some 71))); (try simp only [Act.put, sA, sB, sC]); ((with_reducible apply (wpl_build (dst := some 71))); (exact kb2 _))) | ((with_reducible apply (stop_dst (dst := some 72))); (try simp only [Act.put, sA, sB, sC]); ((with_reducible apply (wpl_bslice (dst := some 72))); (exact kbT _); intro zt wb _ _ _)) | ((with_reducible apply (stop_dst (dst := some 73))); (try simp only [Act.put, sA, sB, sC]); ((with_reducible apply (wpl_build (dst := some 73))); (exact kbG _ _))) | ((with_reducible apply wpl_storerow); (exact rfl); (exact rfl); infer_instance; infer_instance; (first | (with_reducible assumption) | (with_reducible exact H32.size _) | (with_reducible exact enc_sz _ rfl) | kernel_rfl); (first | (with_reducible assumption) | (with_reducible exact H32.size _) | (with_reducible exact enc_sz _ rfl) | kernel_rfl); (first | (with_reducible exact u8s_one _) | (with_reducible assumption) | (with_reducible exact enc_one _) | kernel_rfl); intro ws _ _) | ((with_reducible apply wpl_storecell); (exact rfl); (exact rfl); infer_instance; (exact rfl); (first | (with_reducible assumption) | omega | (focus (simp; done)) | (focus (simp; omega; done)) | decide); intro ws _ _) | ((with_reducible apply (wpl_storehash (t := 23))); (exact rfl); (exact rfl); infer_instance; infer_instance; (first | (with_reducible assumption) | omega | (focus (simp; done)) | (focus (simp; omega; done)) | decide); intro ws _ _) | ((with_reducible apply (wpl_storeint (t := 3))); (exact rfl); (exact rfl); infer_instance; (first | (with_reducible assumption) | omega); intro ws _ _) | ((with_reducible apply (wpl_storebyte (t := 5))); (exact rfl); (exact rfl); infer_instance; (first | (with_reducible assumption) | omega | (focus (simp; done)) | (focus (simp; omega; done)) | decide); (constructor <;> omega); intro ws _ _))
      refine wpList_nil ?_
      unfold onlyN
      refine hK_.out _ _ inferInstance (fun _ => ?_)
      clear hK_ K_
      try simp only [Act.put]
      refine wpAnyH_done (by kernel_rfl) ?_ _
    rotate_left 1
    focus
      rw [if_pos (by kernel_rfl)]
      refine wpr_of_list ?_
      (first | ((with_reducible apply (stop_dst (dst := some 61))); (try simp only [Act.put, sA, sB, sC]); ((with_reducible apply (wpl_build (dst := some 61))); (exact kb1 _))) | ((with_reducible apply (stop_dst (dst := some 71))); (try simp only [Act.put, sA, sB, sC]); ((with_reducible apply (wpl_build (dst := some 71))); (exact kb2 _))) | ((with_reducible apply (stop_dst (dst := some 72))); (try simp only [Act.put, sA, sB, sC]); ((with_reducible apply (wpl_bslice (dst := some 72))); (exact kbT _); intro zt wb _ _ _)) | ((with_reducible apply (stop_dst (dst := some 73))); (try simp only [Act.put, sA, sB, sC]); ((with_reducible apply (wpl_build (dst := some 73))); (exact kbG _ _))) | ((with_reducible apply (wpl_alloc (dst := some 10))); intro z10 wz10 _ _ _) | ((with_reducible apply wpl_alloc); intro z wz _ _ _))
      refine wpList_nil ?_
      unfold onlyN
      refine hK_.out _ _ inferInstance (fun _ => ?_)
      clear hK_ K_
      try simp only [Act.put, sA]; try simp only [sB, sC]
      refine goH (i := 21) (by kernel_rfl) rfl (fun K_ hK_ => ?_)
      rw [if_pos (by kernel_rfl)]
      refine wpr_of_list ?_
      (first | ((with_reducible apply (stop_dst (dst := some 61))); (try simp only [Act.put, sA, sB, sC]); ((with_reducible apply (wpl_build (dst := some 61))); (exact kb1 _))) | ((with_reducible apply (stop_dst (dst := some 71))); (try simp only [Act.put, sA, sB, sC]); ((with_reducible apply (wpl_build (dst := some 71))); (exact kb2 _))) | ((with_reducible apply (stop_dst (dst := some 72))); (try simp only [Act.put, sA, sB, sC]); ((with_reducible apply (wpl_bslice (dst := some 72))); (exact kbT _); intro zt wb _ _ _)) | ((with_reducible apply (stop_dst (dst := some 73))); (try simp only [Act.put, sA, sB, sC]); ((with_reducible apply (wpl_build (dst := some 73))); (exact kbG _ _))))
      refine wpList_nil ?_
      unfold onlyN
      refine hK_.out _ _ inferInstance (fun _ => ?_)
      clear hK_ K_
      try simp only [Act.put, sA]; try simp only [sB, sC]
      refine' takeH (i := 22) (v := _) rfl (by kernel_rfl) (by kernel_rfl) (by kernel_rfl) (fun _ _ _ h => h) (yields_of (by rfl) (fun w' _ => ?_)) inferInstance ?_
      rotate_left
      · (first | ((with_reducible apply ev_build); (exact kbG _ _)))
      try simp only [Act.put, sA]; try simp only [sB, sC]
      refine goH (i := 24) (by kernel_rfl) rfl (fun K_ hK_ => ?_)
      rw [if_pos (by kernel_rfl)]
      refine wpr_of_list ?_
      (first | ((with_reducible apply (stop_dst (dst := some 61))); (try simp only [Act.put, sA, sB, sC]); ((with_reducible apply (wpl_build (dst := some 61))); (exact kb1 _))) | ((with_reducible apply (stop_dst (dst := some 71))); (try simp only [Act.put, sA, sB, sC]); ((with_reducible apply (wpl_build (dst := some 71))); (exact kb2 _))) | ((with_reducible apply (stop_dst (dst := some 72))); (try simp only [Act.put, sA, sB, sC]); ((with_reducible apply (wpl_bslice (dst := some 72))); (exact kbT _); intro zt wb _ _ _)) | ((with_reducible apply (stop_dst (dst := some 73))); (try simp only [Act.put, sA, sB, sC]); ((with_reducible apply (wpl_build (dst := some 73))); (exact kbG _ _))) | ((with_reducible apply wpl_storerow); (exact rfl); (exact rfl); infer_instance; infer_instance; (first | (with_reducible assumption) | (with_reducible exact H32.size _) | (with_reducible exact enc_sz _ rfl) | kernel_rfl); (first | (with_reducible assumption) | (with_reducible exact H32.size _) | (with_reducible exact enc_sz _ rfl) | kernel_rfl); (first | (with_reducible exact u8s_one _) | (with_reducible assumption) | (with_reducible exact enc_one _) | kernel_rfl); intro ws _ _) | ((with_reducible apply wpl_storecell); (exact rfl); (exact rfl); infer_instance; (exact rfl); (first | (with_reducible assumption) | omega | (focus (simp; done)) | (focus (simp; omega; done)) | decide); intro ws _ _) | ((with_reducible apply (wpl_storehash (t := 23))); (exact rfl); (exact rfl); infer_instance; infer_instance; (first | (with_reducible assumption) | omega | (focus (simp; done)) | (focus (simp; omega; done)) | decide); intro ws _ _) | ((with_reducible apply (wpl_storeint (t := 3))); (exact rfl); (exact rfl); infer_instance; (first | (with_reducible assumption) | omega); intro ws _ _) | ((with_reducible apply (wpl_storebyte (t := 5))); (exact rfl); (exact rfl); infer_instance; (first | (with_reducible assumption) | omega | (focus (simp; done)) | (focus (simp; omega; done)) | decide); (constructor <;> omega); intro ws _ _))
      refine wpList_nil ?_
      unfold onlyN
      refine hK_.out _ _ inferInstance (fun _ => ?_)
      clear hK_ K_
      try simp only [Act.put]
      refine wpAnyH_done (by kernel_rfl) ?_ _
    rotate_left 1
    all_goals
      go_wp2_with (first | go_skip | ((with_reducible apply wpl_alloc); intro z wz _ _ _) | ((with_reducible apply (wpl_guard (op := .load _ _))); (exact rfl)) | ((with_reducible apply wpl_loadrow); (exact rfl); infer_instance; infer_instance; (first | (with_reducible assumption) | (with_reducible exact H32.size _) | (with_reducible exact enc_sz _ rfl) | kernel_rfl)) | ((with_reducible apply wpl_loadcellN); (exact rfl); infer_instance; (exact rfl)) | ((with_reducible apply wpl_storerow); (exact rfl); (exact rfl); infer_instance; infer_instance; (first | (with_reducible assumption) | (with_reducible exact H32.size _) | (with_reducible exact enc_sz _ rfl) | kernel_rfl); (first | (with_reducible assumption) | (with_reducible exact H32.size _) | (with_reducible exact enc_sz _ rfl) | kernel_rfl); (first | (with_reducible exact u8s_one _) | (with_reducible assumption) | (with_reducible exact enc_one _) | kernel_rfl); intro ws _ _) | ((with_reducible apply wpl_storecell); (exact rfl); (exact rfl); infer_instance; (exact rfl); (first | (with_reducible assumption) | omega | (focus (simp; done)) | (focus (simp; omega; done)) | decide); intro ws _ _))
      have hG : HR ws (some ⟨zt, 0, none⟩) (cellsOf [({ r with key := p1 } : MarkR), { q with key := p0 }]) := by
        have h1 := HR.ofBlkL (inferInstance : HB ws zt 74 (cellsOf [({ r with key := p1 } : MarkR), { q with key := p0 }]).toArray)
        exact h1
      have hMI2 : ∀ x ∈ [({ r with key := p1 } : MarkR), { q with key := p0 }], MarkIn w1 x := by
        intro x hx
        rcases List.mem_cons.1 hx with hx | hx
        · rw [hx]
          exact HMI.out r (by simp)
        · rw [List.mem_singleton.1 hx]
          exact HMI.out q (by simp)
      have HMI2 := Lib.hid hMI2
      obtain ⟨r', hr'⟩ : ∃ x : MarkR, x = { r with key := p1 } := ⟨_, rfl⟩
      obtain ⟨q', hq'⟩ : ∃ x : MarkR, x = { q with key := p0 } := ⟨_, rfl⟩
      rw [← hr', ← hq'] at HMI2 HW2 hG
      clear hMI2 hr' hq' kb1 kb2 kbT kbG
      refine (meets_calls (l := [r, q]) (ks := [p0, p1, p2]) (n := 2) (nk := 3) 1 (fun r h => MarkIn.nw (HMI.out r h)) rfl hcm (by decide) HM.out hcap hn rfl (by decide) hck).mono ?_
      rw [HW1.out]
      rintro e w5 ⟨rfl, _⟩
      go_wp2_with (first | go_skip | ((with_reducible apply wpl_alloc); intro z wz _ _ _) | ((with_reducible apply (wpl_guard (op := .load _ _))); (exact rfl)) | ((with_reducible apply wpl_loadrow); (exact rfl); infer_instance; infer_instance; (first | (with_reducible assumption) | (with_reducible exact H32.size _) | (with_reducible exact enc_sz _ rfl) | kernel_rfl)) | ((with_reducible apply wpl_loadcellN); (exact rfl); infer_instance; (exact rfl)) | ((with_reducible apply wpl_storerow); (exact rfl); (exact rfl); infer_instance; infer_instance; (first | (with_reducible assumption) | (with_reducible exact H32.size _) | (with_reducible exact enc_sz _ rfl) | kernel_rfl); (first | (with_reducible assumption) | (with_reducible exact H32.size _) | (with_reducible exact enc_sz _ rfl) | kernel_rfl); (first | (with_reducible exact u8s_one _) | (with_reducible assumption) | (with_reducible exact enc_one _) | kernel_rfl); intro ws _ _) | ((with_reducible apply wpl_storecell); (exact rfl); (exact rfl); infer_instance; (exact rfl); (first | (with_reducible assumption) | omega | (focus (simp; done)) | (focus (simp; omega; done)) | decide); intro ws _ _))
      obtain ⟨B, hB⟩ : ∃ B, B = meetsB m' [r, q] [p0, p1, p2] 1 := ⟨_, rfl⟩
      have HB := Lib.hid hB
      clear hB
      refine (meets_calls (l := [r, q]) (ks := [p0, p1, p2]) (n := 2) (nk := 3) 1 (fun r h => MarkIn.nw (HMI.out r h)) rfl hcm (by decide) HM2.out hcf hn rfl (by decide) hck).mono ?_
      rw [← HB.out]
      rintro e w6 ⟨rfl, _⟩
      cases B
      case false =>
        go_wp2_with (first | go_skip | ((with_reducible apply wpl_alloc); intro z wz _ _ _) | ((with_reducible apply (wpl_guard (op := .load _ _))); (exact rfl)) | ((with_reducible apply wpl_loadrow); (exact rfl); infer_instance; infer_instance; (first | (with_reducible assumption) | (with_reducible exact H32.size _) | (with_reducible exact enc_sz _ rfl) | kernel_rfl)) | ((with_reducible apply wpl_loadcellN); (exact rfl); infer_instance; (exact rfl)) | ((with_reducible apply wpl_storerow); (exact rfl); (exact rfl); infer_instance; infer_instance; (first | (with_reducible assumption) | (with_reducible exact H32.size _) | (with_reducible exact enc_sz _ rfl) | kernel_rfl); (first | (with_reducible assumption) | (with_reducible exact H32.size _) | (with_reducible exact enc_sz _ rfl) | kernel_rfl); (first | (with_reducible exact u8s_one _) | (with_reducible assumption) | (with_reducible exact enc_one _) | kernel_rfl); intro ws _ _) | ((with_reducible apply wpl_storecell); (exact rfl); (exact rfl); infer_instance; (exact rfl); (first | (with_reducible assumption) | omega | (focus (simp; done)) | (focus (simp; omega; done)) | decide); intro ws _ _))
        refine (who_calls (l := [r', q']) (ks := [p0, p1, p2]) (n := 2) (nk := 3) 1 (fun r h => MarkIn.nw (HMI2.out r h)) rfl (Nat.le_refl _) (by decide) HM.out hcap hn rfl (by decide)).mono ?_
        rw [HW2.out]
        rintro e w7 ⟨B1, n1', c1', rfl, hlen1, _, _⟩
        obtain rfl : n1' = 0 := hlen1.symm
        go_wp2_with (first | go_skip | ((with_reducible apply wpl_alloc); intro z wz _ _ _) | ((with_reducible apply (wpl_guard (op := .load _ _))); (exact rfl)) | ((with_reducible apply wpl_loadrow); (exact rfl); infer_instance; infer_instance; (first | (with_reducible assumption) | (with_reducible exact H32.size _) | (with_reducible exact enc_sz _ rfl) | kernel_rfl)) | ((with_reducible apply wpl_loadcellN); (exact rfl); infer_instance; (exact rfl)) | ((with_reducible apply wpl_storerow); (exact rfl); (exact rfl); infer_instance; infer_instance; (first | (with_reducible assumption) | (with_reducible exact H32.size _) | (with_reducible exact enc_sz _ rfl) | kernel_rfl); (first | (with_reducible assumption) | (with_reducible exact H32.size _) | (with_reducible exact enc_sz _ rfl) | kernel_rfl); (first | (with_reducible exact u8s_one _) | (with_reducible assumption) | (with_reducible exact enc_one _) | kernel_rfl); intro ws _ _) | ((with_reducible apply wpl_storecell); (exact rfl); (exact rfl); infer_instance; (exact rfl); (first | (with_reducible assumption) | omega | (focus (simp; done)) | (focus (simp; omega; done)) | decide); intro ws _ _))
        refine (qKnown_calls _).mono ?_
        rintro e w8 ⟨rfl, _⟩
        go_wp2_with (first | go_skip | ((with_reducible apply wpl_alloc); intro z wz _ _ _) | ((with_reducible apply (wpl_guard (op := .load _ _))); (exact rfl)) | ((with_reducible apply wpl_loadrow); (exact rfl); infer_instance; infer_instance; (first | (with_reducible assumption) | (with_reducible exact H32.size _) | (with_reducible exact enc_sz _ rfl) | kernel_rfl)) | ((with_reducible apply wpl_loadcellN); (exact rfl); infer_instance; (exact rfl)) | ((with_reducible apply wpl_storerow); (exact rfl); (exact rfl); infer_instance; infer_instance; (first | (with_reducible assumption) | (with_reducible exact H32.size _) | (with_reducible exact enc_sz _ rfl) | kernel_rfl); (first | (with_reducible assumption) | (with_reducible exact H32.size _) | (with_reducible exact enc_sz _ rfl) | kernel_rfl); (first | (with_reducible exact u8s_one _) | (with_reducible assumption) | (with_reducible exact enc_one _) | kernel_rfl); intro ws _ _) | ((with_reducible apply wpl_storecell); (exact rfl); (exact rfl); infer_instance; (exact rfl); (first | (with_reducible assumption) | omega | (focus (simp; done)) | (focus (simp; omega; done)) | decide); intro ws _ _))
        go_ret
        exact ⟨rfl, (stepN (w0 := w)).chg⟩
      case true =>
        go_wp2_with (first | go_skip | ((with_reducible apply wpl_alloc); intro z wz _ _ _) | ((with_reducible apply (wpl_guard (op := .load _ _))); (exact rfl)) | ((with_reducible apply wpl_loadrow); (exact rfl); infer_instance; infer_instance; (first | (with_reducible assumption) | (with_reducible exact H32.size _) | (with_reducible exact enc_sz _ rfl) | kernel_rfl)) | ((with_reducible apply wpl_loadcellN); (exact rfl); infer_instance; (exact rfl)) | ((with_reducible apply wpl_storerow); (exact rfl); (exact rfl); infer_instance; infer_instance; (first | (with_reducible assumption) | (with_reducible exact H32.size _) | (with_reducible exact enc_sz _ rfl) | kernel_rfl); (first | (with_reducible assumption) | (with_reducible exact H32.size _) | (with_reducible exact enc_sz _ rfl) | kernel_rfl); (first | (with_reducible exact u8s_one _) | (with_reducible assumption) | (with_reducible exact enc_one _) | kernel_rfl); intro ws _ _) | ((with_reducible apply wpl_storecell); (exact rfl); (exact rfl); infer_instance; (exact rfl); (first | (with_reducible assumption) | omega | (focus (simp; done)) | (focus (simp; omega; done)) | decide); intro ws _ _))
        refine (rmeets_calls (l := [r, q]) (ks := [p0, p1, p2]) (n := 2) (nk := 3) 1 (fun r h => MarkIn.nw (HMI.out r h)) rfl (by decide) HM2.out hn rfl (by decide)).mono ?_
        rw [← HB.out]
        rintro e w9 ⟨rfl, _⟩
        go_wp2_with (first | go_skip | ((with_reducible apply wpl_alloc); intro z wz _ _ _) | ((with_reducible apply (wpl_guard (op := .load _ _))); (exact rfl)) | ((with_reducible apply wpl_loadrow); (exact rfl); infer_instance; infer_instance; (first | (with_reducible assumption) | (with_reducible exact H32.size _) | (with_reducible exact enc_sz _ rfl) | kernel_rfl)) | ((with_reducible apply wpl_loadcellN); (exact rfl); infer_instance; (exact rfl)) | ((with_reducible apply wpl_storerow); (exact rfl); (exact rfl); infer_instance; infer_instance; (first | (with_reducible assumption) | (with_reducible exact H32.size _) | (with_reducible exact enc_sz _ rfl) | kernel_rfl); (first | (with_reducible assumption) | (with_reducible exact H32.size _) | (with_reducible exact enc_sz _ rfl) | kernel_rfl); (first | (with_reducible exact u8s_one _) | (with_reducible assumption) | (with_reducible exact enc_one _) | kernel_rfl); intro ws _ _) | ((with_reducible apply wpl_storecell); (exact rfl); (exact rfl); infer_instance; (exact rfl); (first | (with_reducible assumption) | omega | (focus (simp; done)) | (focus (simp; omega; done)) | decide); intro ws _ _))
        refine (who_calls (l := [r', q']) (ks := [p0, p1, p2]) (n := 2) (nk := 3) 1 (fun r h => MarkIn.nw (HMI2.out r h)) rfl (Nat.le_refl _) (by decide) HM.out hcap hn rfl (by decide)).mono ?_
        rw [HW2.out]
        rintro e w7 ⟨B1, n1', c1', rfl, hlen1, _, _⟩
        obtain rfl : n1' = 0 := hlen1.symm
        go_wp2_with (first | go_skip | ((with_reducible apply wpl_alloc); intro z wz _ _ _) | ((with_reducible apply (wpl_guard (op := .load _ _))); (exact rfl)) | ((with_reducible apply wpl_loadrow); (exact rfl); infer_instance; infer_instance; (first | (with_reducible assumption) | (with_reducible exact H32.size _) | (with_reducible exact enc_sz _ rfl) | kernel_rfl)) | ((with_reducible apply wpl_loadcellN); (exact rfl); infer_instance; (exact rfl)) | ((with_reducible apply wpl_storerow); (exact rfl); (exact rfl); infer_instance; infer_instance; (first | (with_reducible assumption) | (with_reducible exact H32.size _) | (with_reducible exact enc_sz _ rfl) | kernel_rfl); (first | (with_reducible assumption) | (with_reducible exact H32.size _) | (with_reducible exact enc_sz _ rfl) | kernel_rfl); (first | (with_reducible exact u8s_one _) | (with_reducible assumption) | (with_reducible exact enc_one _) | kernel_rfl); intro ws _ _) | ((with_reducible apply wpl_storecell); (exact rfl); (exact rfl); infer_instance; (exact rfl); (first | (with_reducible assumption) | omega | (focus (simp; done)) | (focus (simp; omega; done)) | decide); intro ws _ _))
        refine (qKnown_calls _).mono ?_
        rintro e w8 ⟨rfl, _⟩
        go_wp2_with (first | go_skip | ((with_reducible apply wpl_alloc); intro z wz _ _ _) | ((with_reducible apply (wpl_guard (op := .load _ _))); (exact rfl)) | ((with_reducible apply wpl_loadrow); (exact rfl); infer_instance; infer_instance; (first | (with_reducible assumption) | (with_reducible exact H32.size _) | (with_reducible exact enc_sz _ rfl) | kernel_rfl)) | ((with_reducible apply wpl_loadcellN); (exact rfl); infer_instance; (exact rfl)) | ((with_reducible apply wpl_storerow); (exact rfl); (exact rfl); infer_instance; infer_instance; (first | (with_reducible assumption) | (with_reducible exact H32.size _) | (with_reducible exact enc_sz _ rfl) | kernel_rfl); (first | (with_reducible assumption) | (with_reducible exact H32.size _) | (with_reducible exact enc_sz _ rfl) | kernel_rfl); (first | (with_reducible exact u8s_one _) | (with_reducible assumption) | (with_reducible exact enc_one _) | kernel_rfl); intro ws _ _) | ((with_reducible apply wpl_storecell); (exact rfl); (exact rfl); infer_instance; (exact rfl); (first | (with_reducible assumption) | omega | (focus (simp; done)) | (focus (simp; omega; done)) | decide); intro ws _ _))
        go_ret
        exact ⟨rfl, (stepN (w0 := w)).chg⟩
end Go.Proofs.Ytmijlojjkgeplaa
