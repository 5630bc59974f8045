/- CkJ -/
import Derived.Test.YtcgbgeheiklhhaaTcCkI
open Go Go.RowKit
namespace Go.Proofs.Ytcgbgeheiklhhaa
section
variable {P : Program} {ops : Array Oper} {rest : List Oper} {a : Act} {w : World} {Q : Exit → Act → World → Prop} {dst : Option Tmp} {ty : TypeId} {pos : String} {after : Array Edge} {gd : Option (Nat × Bool)}
/-- an address within a slice that is somewhere -/
theorem ev_indexNQ {t : TypeId} {x ix : Operand} {ad : Addr} {n c k : Nat} (hx : a.eval x = .slice (some ad) n c) (hi : a.eval ix = .int .i64 (k : Int)) {e : TypeId} {bytes : Nat} {z : Value} (E : ElemT P t e 1 bytes z) (h1 : k < n) :
    (execOp a.eval ⟨dst, .indexAddr t x ix, ty, pos, after, gd⟩).run P w = .ok (.value (ptrOf (some ad) k)) w := by
  obtain ⟨ti, hti, hz, hsz, hb⟩ := info_parts E.out.info
  show ((Instr.indexAt t (a.eval x) (a.eval ix)) >>= fun v => pure (Next.value v)).run P w = _
  rw [hx, hi]
  simp [Instr.indexAt, asIntOf, run_underlying E.out.under, sizeOf, typeInfo, hti, hsz, h1, ptrOf, shift]
theorem wpl_indexNQ {t : TypeId} {x ix : Operand} {ad : Addr} {n c k : Nat} (hx : a.eval x = .slice (some ad) n c) (hi : a.eval ix = .int .i64 (k : Int)) {e : TypeId} {bytes : Nat} {z : Value} (E : ElemT P t e 1 bytes z) (h1 : k < n)
    (h : wpList P ops Q rest (a.put dst (ptrOf (some ad) k)) w) : wpList P ops Q (⟨dst, .indexAddr t x ix, ty, pos, after, none⟩ :: rest) a w := wpl_of_run rfl (ev_indexNQ hx hi E h1) h
theorem bs_setQ {d : List UInt8} {k : Nat} {v : Int} (hk : k < d.length) (hv : 0 ≤ v ∧ v < 256) : (bs d).take k ++ [Value.int .u8 v] ++ (bs d).drop (k + 1) = bs (d.set k (b8 v)) := by
  have hs1 : (bs d).take k ++ [Value.int .u8 v] ++ (bs d).drop (k + 1) = (bs d).set k (.int .u8 v) := by
    rw [List.set_eq_take_append_cons_drop, if_pos (by rw [bs_length]; exact hk)]
    simp
  rw [hs1]
  have := b8_in hv.1 hv.2
  rw [bs, bs, List.map_set]
  congr 1
  rw [u8v, ← this]
/-- a byte of a row of the call's own written -/
theorem wpl_storeBQ {t : TypeId} {x y : Operand} {A : Option Addr} {k : Nat} {v : Int} (hx : a.eval x = ptrOf A k) (hy : a.eval y = .int .u8 v) {e : TypeId} {n c : Nat} {d : List UInt8} (ho : HO w e 1 A n c (bs d)) [ht : CellT P t] (hk : k < d.length) (hv : 0 ≤ v ∧ v < 256)
    (h : ∀ w', Step (rowOf A) w w' → HO w' e 1 A n c (bs (d.set k (b8 v))) → wpList P ops Q rest (a.put dst undef) w') : wpList P ops Q (⟨dst, .store t x y, ty, pos, after, none⟩ :: rest) a w := by
  obtain ⟨g, hA, h1, h2, h3⟩ := own_setCells ho.out (k := k) (cs := [.int .u8 v]) (m := 1) rfl (by rw [bs_length]; omega) (by decide)
  refine wpl_of_unit rfl (w' := w.setCells g k [.int .u8 v]) ?_ (h _ ⟨h3⟩ ⟨?_⟩)
  · have hc := h1 0 (by decide)
    have hst := run_store P w ⟨g, k, none⟩ (.int .u8 v) .plain rfl
    rw [Nat.add_zero] at hc
    obtain ⟨u, hu⟩ := Option.isSome_iff_exists.1 hc.1
    rw [hu, hc.2] at hst
    show ((Instr.storeAt t (a.eval x) (a.eval y)) >>= fun _ => pure Next.skip).run P w = _
    rw [hx, hy, hA]
    simp [Instr.storeAt, Instr.sureAddr, ptrOf, shift_some, add_row, storeVar, Value.cells, ht.size1 w, storeCells, add_zero_spot, hst, World.setCells]
  · rw [← bs_setQ hk hv]
    exact h2
end
theorem and_lowQ (a : Int) : ∃ q : Nat, bits .and .i64 a 65535 = (q : Int) ∧ q ≤ 65535 := by
  have hle : (BitVec.ofInt 64 a &&& BitVec.ofInt 64 (65535 : Int)).toNat ≤ 65535 := by
    rw [BitVec.toNat_and]
    have h1 : (BitVec.ofInt 64 (65535 : Int)).toNat = 65535 := by decide
    rw [h1]
    exact Nat.and_le_right
  refine ⟨(BitVec.ofInt 64 a &&& BitVec.ofInt 64 (65535 : Int)).toNat, ?_, hle⟩
  show IntKind.i64.wrap ((BitVec.ofInt 64 a &&& BitVec.ofInt 64 (65535 : Int)).toNat : Int) = _
  rw [IntKind.wrap_i64]
  omega
theorem bs_getqQ (d : List UInt8) (k : Nat) (h : k < d.length) : (bs d)[k]? = some (.int .u8 ((bget d k).toNat : Int)) := by
  rw [bs, List.getElem?_map, List.getElem?_eq_getElem h, bget, List.getD_eq_getElem?_getD, List.getElem?_eq_getElem h]
  rfl
theorem own_none {w : World} {e : TypeId} {size n c : Nat} {xs : List Value} (h : Own w e size none n c xs) : xs.length = 0 := by
  rcases h.form with ⟨_, _, _, rfl⟩ | ⟨g, _, h, _⟩
  · rfl
  · cases h
theorem body_pos (nonce now : Int) : 1 ≤ (bodyS nonce now).length := by
  have c7 : clampN 7 = 7 := by decide
  have e : bodyS nonce now = enc 7 ++ encAll [nonce, now] := by simp [bodyS, encAll, c7]
  rw [e, enc_small (by decide), List.length_append]
  simp
theorem xor_all : ∀ n : Fin 256, bits .xor .u8 ((n.val : Nat) : Int) 1 ≠ ((n.val : Nat) : Int) := by decide +kernel
theorem xor_one_ne (a : UInt8) : bits .xor .u8 (a.toNat : Int) 1 ≠ (a.toNat : Int) := xor_all ⟨a.toNat, a.toNat_lt⟩
theorem hbO {w : World} {z : Nat} {O : H32} {l : List UInt8} (hO : O.l = l) (h : HB w z 23 (u8s l)) : HB w z 23 (u8s O.l) := by
  rw [hO]
  exact h
set_option maxRecDepth 100000 in
set_option maxHeartbeats 3200000 in
theorem clockForged_calls (seed : H32) (nonce now at' : Int) (by' : UInt8) (w : World) : Calls Try.prog 3 #[.agg (u8s seed.l), .int .i64 nonce, .int .i64 now, .int .i64 at', .int .u8 (by'.toNat : Int)] w fun e w' => e = .returned (.bool true) ∧ Chg nowhere w w' := by
  obtain ⟨y, hy⟩ : ∃ y : Int, y = (by'.toNat : Int) := ⟨_, rfl⟩
  have hy0 : 0 ≤ y := by omega
  have hy8 : y < 256 := by have := by'.toNat_lt; omega
  rw [← hy]
  obtain ⟨N, hN⟩ : ∃ N, N = pubS seed := ⟨_, rfl⟩
  have HN := Lib.hid hN
  clear hN hy
  by_cases h1 : 0 ≤ nonce
  · by_cases h2 : nonce ≤ 1073741824
    · by_cases h3 : 0 ≤ now
      · by_cases h4 : now ≤ 1073741824
        · by_cases hy1 : y ≤ 0
          · have e5 : (y == 0) = true := by simp; omega
            go_enter Try.func3, Try.ntmps3
            go_wp2_with (first | go_skip | ((with_reducible apply (wpl_alloc (dst := some 5))); intro y5 wy5 _ _ _) | ((with_reducible apply (wpl_box_agg (dst := some 5))); (exact rfl); intro y5 wy5 _ _ _) | ((with_reducible apply (wpl_box_int (dst := some 5))); (exact rfl); intro y5 wy5 _ _ _) | ((with_reducible apply (wpl_box_slice (dst := some 5))); (exact rfl); intro y5 wy5 _ _ _) | ((with_reducible apply (wpl_box_str (dst := some 5))); (exact rfl); intro y5 wy5 _ _ _) | ((with_reducible apply (wpl_box_bool (dst := some 5))); (exact rfl); intro y5 wy5 _ _ _) | ((with_reducible apply (wpl_box_ptr (dst := some 5))); (exact rfl); intro y5 wy5 _ _ _) | ((with_reducible apply wpl_alloc); intro z wz _ _ _) | ((with_reducible apply wpl_box_agg); (exact rfl); intro z wz _ _ _) | ((with_reducible apply wpl_box_int); (exact rfl); intro z wz _ _ _) | ((with_reducible apply wpl_box_slice); (exact rfl); intro z wz _ _ _) | ((with_reducible apply wpl_box_str); (exact rfl); intro z wz _ _ _) | ((with_reducible apply wpl_box_bool); (exact rfl); intro z wz _ _ _) | ((with_reducible apply wpl_box_ptr); (exact rfl); intro z wz _ _ _) | ((with_reducible apply (wpl_guard (op := .load _ _))); (exact rfl)) | ((with_reducible apply (wpl_guard (op := .fieldAddr _ _ _))); (exact rfl)) | ((with_reducible apply wpl_loadrow); (exact rfl); infer_instance; infer_instance; (first | (with_reducible assumption) | (with_reducible exact H32.size _) | (with_reducible exact enc_sz _ rfl) | kernel_rfl)) | ((with_reducible apply wpl_loadcellN); (exact rfl); infer_instance; (exact rfl)) | ((with_reducible apply wpl_storerow); (exact rfl); (exact rfl); infer_instance; infer_instance; (first | (with_reducible assumption) | (with_reducible exact H32.size _) | (with_reducible exact enc_sz _ rfl) | kernel_rfl); (first | (with_reducible assumption) | (with_reducible exact H32.size _) | (with_reducible exact enc_sz _ rfl) | kernel_rfl); (first | (with_reducible exact u8s_one _) | (with_reducible assumption) | (with_reducible exact enc_one _) | kernel_rfl); intro ws _ _) | ((with_reducible apply wpl_storecell); (exact rfl); (exact rfl); infer_instance; (exact rfl); (first | (with_reducible assumption) | omega | (focus (simp; done)) | (focus (simp; omega; done)) | decide); intro ws _ _))
            go_ret
            exact ⟨rfl, (stepN (w0 := w)).chg⟩
          · have e5 : (y == 0) = false := by simp; omega
            go_enter Try.func3, Try.ntmps3
            go_wp2_with (first | go_skip | ((with_reducible apply (wpl_alloc (dst := some 5))); intro y5 wy5 _ _ _) | ((with_reducible apply (wpl_box_agg (dst := some 5))); (exact rfl); intro y5 wy5 _ _ _) | ((with_reducible apply (wpl_box_int (dst := some 5))); (exact rfl); intro y5 wy5 _ _ _) | ((with_reducible apply (wpl_box_slice (dst := some 5))); (exact rfl); intro y5 wy5 _ _ _) | ((with_reducible apply (wpl_box_str (dst := some 5))); (exact rfl); intro y5 wy5 _ _ _) | ((with_reducible apply (wpl_box_bool (dst := some 5))); (exact rfl); intro y5 wy5 _ _ _) | ((with_reducible apply (wpl_box_ptr (dst := some 5))); (exact rfl); intro y5 wy5 _ _ _) | ((with_reducible apply wpl_alloc); intro z wz _ _ _) | ((with_reducible apply wpl_box_agg); (exact rfl); intro z wz _ _ _) | ((with_reducible apply wpl_box_int); (exact rfl); intro z wz _ _ _) | ((with_reducible apply wpl_box_slice); (exact rfl); intro z wz _ _ _) | ((with_reducible apply wpl_box_str); (exact rfl); intro z wz _ _ _) | ((with_reducible apply wpl_box_bool); (exact rfl); intro z wz _ _ _) | ((with_reducible apply wpl_box_ptr); (exact rfl); intro z wz _ _ _) | ((with_reducible apply (wpl_guard (op := .load _ _))); (exact rfl)) | ((with_reducible apply (wpl_guard (op := .fieldAddr _ _ _))); (exact rfl)) | ((with_reducible apply wpl_loadrow); (exact rfl); infer_instance; infer_instance; (first | (with_reducible assumption) | (with_reducible exact H32.size _) | (with_reducible exact enc_sz _ rfl) | kernel_rfl)) | ((with_reducible apply wpl_loadcellN); (exact rfl); infer_instance; (exact rfl)) | ((with_reducible apply wpl_storerow); (exact rfl); (exact rfl); infer_instance; infer_instance; (first | (with_reducible assumption) | (with_reducible exact H32.size _) | (with_reducible exact enc_sz _ rfl) | kernel_rfl); (first | (with_reducible assumption) | (with_reducible exact H32.size _) | (with_reducible exact enc_sz _ rfl) | kernel_rfl); (first | (with_reducible exact u8s_one _) | (with_reducible assumption) | (with_reducible exact enc_one _) | kernel_rfl); intro ws _ _) | ((with_reducible apply wpl_storecell); (exact rfl); (exact rfl); infer_instance; (exact rfl); (first | (with_reducible assumption) | omega | (focus (simp; done)) | (focus (simp; omega; done)) | decide); intro ws _ _))
            refine (ckNew_calls seed _).mono ?_
            rintro e w1 ⟨zc, zk, rfl, _, hnc, hnk, hcc, hkk, _⟩
            go_wp2_with (first | go_skip | ((with_reducible apply wpl_alloc); intro z wz _ _ _) | ((with_reducible apply wpl_box_agg); (exact rfl); intro z wz _ _ _) | ((with_reducible apply wpl_box_int); (exact rfl); intro z wz _ _ _) | ((with_reducible apply wpl_box_slice); (exact rfl); intro z wz _ _ _) | ((with_reducible apply wpl_box_str); (exact rfl); intro z wz _ _ _) | ((with_reducible apply wpl_box_bool); (exact rfl); intro z wz _ _ _) | ((with_reducible apply wpl_box_ptr); (exact rfl); intro z wz _ _ _) | ((with_reducible apply (wpl_guard (op := .load _ _))); (exact rfl)) | ((with_reducible apply (wpl_guard (op := .fieldAddr _ _ _))); (exact rfl)) | ((with_reducible apply wpl_loadrow); (exact rfl); infer_instance; infer_instance; (first | (with_reducible assumption) | (with_reducible exact H32.size _) | (with_reducible exact enc_sz _ rfl) | kernel_rfl)) | ((with_reducible apply wpl_loadcellN); (exact rfl); infer_instance; (exact rfl)) | ((with_reducible apply wpl_storerow); (exact rfl); (exact rfl); infer_instance; infer_instance; (first | (with_reducible assumption) | (with_reducible exact H32.size _) | (with_reducible exact enc_sz _ rfl) | kernel_rfl); (first | (with_reducible assumption) | (with_reducible exact H32.size _) | (with_reducible exact enc_sz _ rfl) | kernel_rfl); (first | (with_reducible exact u8s_one _) | (with_reducible assumption) | (with_reducible exact enc_one _) | kernel_rfl); intro ws _ _) | ((with_reducible apply wpl_storecell); (exact rfl); (exact rfl); infer_instance; (exact rfl); (first | (with_reducible assumption) | omega | (focus (simp; done)) | (focus (simp; omega; done)) | decide); intro ws _ _))
            refine (attest_calls (zk := zk) nonce now (by simp [numC, *]) (by simp [numC, *]) (Int.le_refl 0)).mono ?_
            rintro e w2 (⟨h, _⟩ | ⟨_, M, n, c, za, r, rfl, _, hk2, hln, hcap, hoM, hrA, hrl, hrp, hby, hap, _⟩)
            · omega
            obtain ⟨nm, na, nl, np, oma, oml, omp, okm, oka, okl, okp⟩ := hap
            have n2 : Nw w w2 := inferInstance
            have hn27 : n ≤ 27 := by rw [← hln]; exact body_len nonce now
            have hn1 : 1 ≤ n := by rw [← hln]; exact body_pos nonce now
            have hkey : r.key = N := by rw [HN.out]; exact hby.1
            have HKEY := Lib.hid hkey
            obtain ⟨m, hm⟩ : ∃ m, m = bodyS nonce now := ⟨_, rfl⟩
            rw [← hm] at hoM hln
            have HM := Lib.hid hln
            obtain ⟨ma, hma⟩ : ∃ ma, M = some ma := by
              rcases M with _ | ma
              · have h0 := own_none hoM.out
                rw [bs_length] at h0
                omega
              · exact ⟨ma, rfl⟩
            subst hma
            clear hm hby hkey hln
            have hn0 : ¬ n = 0 := by omega
            go_wp2_with (first | go_skip | ((with_reducible apply (wpl_guard (op := .call _))); (exact rfl)) | ((with_reducible apply (wpl_guard (op := .load _ _))); (exact rfl)) | ((with_reducible apply (wpl_guard (op := .fieldAddr _ _ _))); (exact rfl)) | ((with_reducible apply (wpl_alloc (dst := some 12))); intro ze wze _ _ _) | ((with_reducible apply (wpl_box_agg (dst := some 12))); (exact rfl); intro ze wze _ _ _) | ((with_reducible apply (wpl_box_int (dst := some 12))); (exact rfl); intro ze wze _ _ _) | ((with_reducible apply (wpl_box_slice (dst := some 12))); (exact rfl); intro ze wze _ _ _) | ((with_reducible apply (wpl_box_str (dst := some 12))); (exact rfl); intro ze wze _ _ _) | ((with_reducible apply (wpl_box_bool (dst := some 12))); (exact rfl); intro ze wze _ _ _) | ((with_reducible apply (wpl_box_ptr (dst := some 12))); (exact rfl); intro ze wze _ _ _) | ((with_reducible apply wpl_alloc); intro z wz _ _ _) | ((with_reducible apply wpl_box_agg); (exact rfl); intro z wz _ _ _) | ((with_reducible apply wpl_box_int); (exact rfl); intro z wz _ _ _) | ((with_reducible apply wpl_box_slice); (exact rfl); intro z wz _ _ _) | ((with_reducible apply wpl_box_str); (exact rfl); intro z wz _ _ _) | ((with_reducible apply wpl_box_bool); (exact rfl); intro z wz _ _ _) | ((with_reducible apply wpl_box_ptr); (exact rfl); intro z wz _ _ _) | ((with_reducible apply (wpl_guard (op := .load _ _))); (exact rfl)) | ((with_reducible apply (wpl_guard (op := .fieldAddr _ _ _))); (exact rfl)) | ((with_reducible apply wpl_loadrow); (exact rfl); infer_instance; infer_instance; (first | (with_reducible assumption) | (with_reducible exact H32.size _) | (with_reducible exact enc_sz _ rfl) | kernel_rfl)) | ((with_reducible apply wpl_loadcellN); (exact rfl); infer_instance; (exact rfl)) | ((with_reducible apply wpl_storerow); (exact rfl); (exact rfl); infer_instance; infer_instance; (first | (with_reducible assumption) | (with_reducible exact H32.size _) | (with_reducible exact enc_sz _ rfl) | kernel_rfl); (first | (with_reducible assumption) | (with_reducible exact H32.size _) | (with_reducible exact enc_sz _ rfl) | kernel_rfl); (first | (with_reducible exact u8s_one _) | (with_reducible assumption) | (with_reducible exact enc_one _) | kernel_rfl); intro ws _ _) | ((with_reducible apply wpl_storecell); (exact rfl); (exact rfl); infer_instance; (exact rfl); (first | (with_reducible assumption) | omega | (focus (simp; done)) | (focus (simp; omega; done)) | decide); intro ws _ _))
            have oe : OffB (only zk) ze := offB_key hk2 inferInstance
            have hze2 : w2.heap.size ≤ ze := Nat.le_of_eq (inferInstance : Born w2 ze).eq.symm
            have hma2 : ma.block < w2.heap.size := hoM.out.lt rfl
            have ome : OffB (rowOf (some ma)) ze := ⟨fun ⟨ad, e, h⟩ => by injection e with e; subst e; omega⟩
            refine (ckPublic_calls (zk := zk)).mono ?_
            rw [← HN.out]
            rintro e w3 ⟨rfl, _, hk3⟩
            have hez3 : HB w3 ze 29 #[.slice (some ma) n c, .slice (some ⟨za, 0, none⟩) 1 1] := inferInstance
            have hx0 := xor_u8_in ((bget N.l 3).toNat : Int) 1
            have hv3 : (u8s N.l)[3]? = some (.int .u8 ((bget N.l 3).toNat : Int)) := by
              have h := bs_getqQ N.l 3 (by rw [N.len]; decide)
              simpa [u8s, bs] using h
            have h3l : 3 < N.l.length := by rw [N.len]; decide
            obtain ⟨O, hO⟩ : ∃ O : H32, O.l = N.l.set 3 (b8 (bits .xor .u8 ((bget N.l 3).toNat : Int) 1)) := ⟨⟨N.l.set 3 (b8 (bits .xor .u8 ((bget N.l 3).toNat : Int) 1)), by rw [List.length_set, N.len]⟩, rfl⟩
            have hne : r.key ≠ O := by
              rw [HKEY.out]
              intro e
              have e1 : b8 (bits .xor .u8 ((bget N.l 3).toNat : Int) 1) = bget N.l 3 := by
                have h1 : bget O.l 3 = b8 (bits .xor .u8 ((bget N.l 3).toNat : Int) 1) := by rw [hO]; simp [bget, N.len]
                rw [← h1, ← e]
              have e2 := b8_in hx0.1 hx0.2
              rw [e1] at e2
              exact xor_one_ne (bget N.l 3) e2
            have HNE := Lib.hid hne
            have HOO := Lib.hid hO
            clear hne hO
            go_wp2_with (first | go_skip | ((with_reducible apply (wpl_loadcell (t := 5) (k := 3))); (exact rfl); infer_instance; (exact hv3)) | ((with_reducible apply wpl_storebyte); (exact rfl); (exact rfl); infer_instance; (exact h3l); (exact hx0); intro wo _ hbo; (have hboO : HB wo zo 23 (u8s O.l) := hbO HOO.out hbo); (have hezo : HB wo ze 29 #[.slice (some ma) n c, .slice (some ⟨za, 0, none⟩) 1 1] := inferInstance)) | ((with_reducible apply (wpl_alloc (dst := some 14))); intro zo wzo _ _ _) | ((with_reducible apply (wpl_box_agg (dst := some 14))); (exact rfl); intro zo wzo _ _ _) | ((with_reducible apply (wpl_box_int (dst := some 14))); (exact rfl); intro zo wzo _ _ _) | ((with_reducible apply (wpl_box_slice (dst := some 14))); (exact rfl); intro zo wzo _ _ _) | ((with_reducible apply (wpl_box_str (dst := some 14))); (exact rfl); intro zo wzo _ _ _) | ((with_reducible apply (wpl_box_bool (dst := some 14))); (exact rfl); intro zo wzo _ _ _) | ((with_reducible apply (wpl_box_ptr (dst := some 14))); (exact rfl); intro zo wzo _ _ _) | ((with_reducible apply wpl_alloc); intro z wz _ _ _) | ((with_reducible apply wpl_box_agg); (exact rfl); intro z wz _ _ _) | ((with_reducible apply wpl_box_int); (exact rfl); intro z wz _ _ _) | ((with_reducible apply wpl_box_slice); (exact rfl); intro z wz _ _ _) | ((with_reducible apply wpl_box_str); (exact rfl); intro z wz _ _ _) | ((with_reducible apply wpl_box_bool); (exact rfl); intro z wz _ _ _) | ((with_reducible apply wpl_box_ptr); (exact rfl); intro z wz _ _ _) | ((with_reducible apply (wpl_guard (op := .load _ _))); (exact rfl)) | ((with_reducible apply (wpl_guard (op := .fieldAddr _ _ _))); (exact rfl)) | ((with_reducible apply wpl_loadrow); (exact rfl); infer_instance; infer_instance; (first | (with_reducible assumption) | (with_reducible exact H32.size _) | (with_reducible exact enc_sz _ rfl) | kernel_rfl)) | ((with_reducible apply wpl_loadcellN); (exact rfl); infer_instance; (exact rfl)) | ((with_reducible apply wpl_storerow); (exact rfl); (exact rfl); infer_instance; infer_instance; (first | (with_reducible assumption) | (with_reducible exact H32.size _) | (with_reducible exact enc_sz _ rfl) | kernel_rfl); (first | (with_reducible assumption) | (with_reducible exact H32.size _) | (with_reducible exact enc_sz _ rfl) | kernel_rfl); (first | (with_reducible exact u8s_one _) | (with_reducible assumption) | (with_reducible exact enc_one _) | kernel_rfl); intro ws _ _) | ((with_reducible apply wpl_storecell); (exact rfl); (exact rfl); infer_instance; (exact rfl); (first | (with_reducible assumption) | omega | (focus (simp; done)) | (focus (simp; omega; done)) | decide); intro ws _ _))
            have hmo : HB wo zo 23 (u8s O.l) := hboO
            refine (check_bad nonce HNE.out HM.out hcap (by omega)).mono ?_
            rintro e w4 ⟨rfl, _⟩
            go_wp2_with (first | go_skip | ((with_reducible apply wpl_alloc); intro z wz _ _ _) | ((with_reducible apply wpl_box_agg); (exact rfl); intro z wz _ _ _) | ((with_reducible apply wpl_box_int); (exact rfl); intro z wz _ _ _) | ((with_reducible apply wpl_box_slice); (exact rfl); intro z wz _ _ _) | ((with_reducible apply wpl_box_str); (exact rfl); intro z wz _ _ _) | ((with_reducible apply wpl_box_bool); (exact rfl); intro z wz _ _ _) | ((with_reducible apply wpl_box_ptr); (exact rfl); intro z wz _ _ _) | ((with_reducible apply (wpl_guard (op := .load _ _))); (exact rfl)) | ((with_reducible apply (wpl_guard (op := .fieldAddr _ _ _))); (exact rfl)) | ((with_reducible apply wpl_loadrow); (exact rfl); infer_instance; infer_instance; (first | (with_reducible assumption) | (with_reducible exact H32.size _) | (with_reducible exact enc_sz _ rfl) | kernel_rfl)) | ((with_reducible apply wpl_loadcellN); (exact rfl); infer_instance; (exact rfl)) | ((with_reducible apply wpl_storerow); (exact rfl); (exact rfl); infer_instance; infer_instance; (first | (with_reducible assumption) | (with_reducible exact H32.size _) | (with_reducible exact enc_sz _ rfl) | kernel_rfl); (first | (with_reducible assumption) | (with_reducible exact H32.size _) | (with_reducible exact enc_sz _ rfl) | kernel_rfl); (first | (with_reducible exact u8s_one _) | (with_reducible assumption) | (with_reducible exact enc_one _) | kernel_rfl); intro ws _ _) | ((with_reducible apply wpl_storecell); (exact rfl); (exact rfl); infer_instance; (exact rfl); (first | (with_reducible assumption) | omega | (focus (simp; done)) | (focus (simp; omega; done)) | decide); intro ws _ _))
            have nmw : NewA w (some ma) := NewA.monoS nm
            have ab0 : Above w (rowOf (some ma)) := by
              have := NewA.mono (w0 := w) nmw
              infer_instance
            have n4 : Nw w w4 := inferInstance
            have hoM4 : HO w4 5 1 (some ma) n c (bs m) := inferInstance
            have hez4 : HB w4 ze 29 #[.slice (some ma) n c, .slice (some ⟨za, 0, none⟩) 1 1] := inferInstance
            have hcz4 : HB w4 zc 51 #[.pointer (some ⟨zk, 0, none⟩)] := inferInstance
            have hk4 : KeyAt w4 zk seed (0 + 1) := inferInstance
            have hrA4 : HR w4 (some ⟨za, 0, none⟩) (cellsOf [r]) := inferInstance
            have hrl4 : HR w4 r.A (cellsOf r.l) := inferInstance
            have hrp4 : HR w4 r.B (cellsOf r.p) := inferInstance
            have omz : OffB (rowOf (some ma)) zc := ⟨fun ⟨ad, e, h⟩ => by
              have h1 := nm.out ad e
              have h2 := hcc.out.lt
              omega⟩
            have omk : OffB (rowOf (some ma)) zk := ⟨fun ⟨ad, e, h⟩ => by
              have h1 := nm.out ad e
              have h2 := hkk.lt
              omega⟩
            obtain ⟨q0, hq0, hq1⟩ := and_lowQ at'
            have HAND := Lib.hid hq0
            obtain ⟨j, hj⟩ : ∃ j, j = q0 % n := ⟨_, rfl⟩
            have hjn : j < n := by rw [hj]; exact Nat.mod_lt _ (by omega)
            have HREM : Hid ((q0 : Int).tmod (n : Int) = (j : Int)) := Lib.hid (by rw [hj]; exact (Int.ofNat_tmod q0 n).symm)
            have hvd := bs_getqQ m j (by rw [HM.out]; exact hjn)
            obtain ⟨u, hu⟩ : ∃ u, u = bget m j := ⟨_, rfl⟩
            rw [← hu] at hvd
            obtain ⟨v, hv⟩ : ∃ v, v = bits .xor .u8 (u.toNat : Int) y := ⟨_, rfl⟩
            have hv0 : 0 ≤ v ∧ v < 256 := by rw [hv]; exact xor_u8_in _ _
            have HXOR : Hid (bits .xor .u8 (u.toNat : Int) y = v) := Lib.hid hv.symm
            have hjm : j < m.length := by rw [HM.out]; exact hjn
            clear hq0 hj hu hv hboO hbo hezo hmo
            refine wp_region_N ((rowOf (some ma))) (by kernel_rfl) (fun wd _ _ => ?_)
            refine' takeH (i := 0) (v := _) rfl (by kernel_rfl) (by kernel_rfl) (by kernel_rfl) (fun _ _ _ h => h) (yields_of (by rfl) (fun w' _ => ?_)) inferInstance ?_
            rotate_left
            · (first | ((with_reducible apply (ev_fieldE (t := 46))); (exact Try.underlying46); (exact rfl); (kernel_rfl); (exact rfl); infer_instance; (exact cells_pos (by decide) (by omega))) | (go_simp; try with_reducible rfl))
            try simp only [Act.put, sA]; try simp only [sB, sC]
            refine' takeH (i := 1) (v := _) rfl (by kernel_rfl) (by kernel_rfl) (by kernel_rfl) (fun _ _ _ h => h) (yields_of (by rfl) (fun w' _ => ?_)) inferInstance ?_
            rotate_left
            · (first | ((with_reducible apply ev_loadrow); (exact rfl); infer_instance; infer_instance; (first | (with_reducible assumption) | (with_reducible exact H32.size _) | (with_reducible exact enc_sz _ rfl) | kernel_rfl)) | ((with_reducible apply (ev_loadhash (t := 23))); (exact rfl); infer_instance; infer_instance; (first | (with_reducible assumption) | omega)) | ((with_reducible apply ev_loadcellN); (exact rfl); infer_instance; infer_instance; (exact rfl)) | ((with_reducible apply (ev_loadE (α := MarkR) (t := 46))); infer_instance; (exact rfl); infer_instance; (exact rfl); (decide); (first | (with_reducible assumption) | omega | (focus (simp; done)) | (focus (simp; omega; done)) | decide)) | ((with_reducible apply (ev_loadF (α := MarkR))); infer_instance; (exact rfl); infer_instance; (exact rfl); (first | (with_reducible assumption) | omega | (focus (simp; done)) | (focus (simp; omega; done)) | decide); (exact rfl)) | ((with_reducible apply (ev_loadint (t := 3))); (exact rfl); infer_instance; infer_instance; (first | (with_reducible assumption) | omega)) | ((with_reducible apply (ev_loadbyte (t := 5))); (exact rfl); infer_instance; infer_instance; (first | (with_reducible assumption) | omega)) | (go_simp; try with_reducible rfl))
            try simp only [Act.put, sA]; try simp only [sB, sC]
            refine' takeH (i := 2) (v := _) rfl (by kernel_rfl) (by kernel_rfl) (by kernel_rfl) (fun _ _ _ h => h) (yields_of (by rfl) (fun w' _ => ?_)) inferInstance ?_
            rotate_left
            · (go_simp; try with_reducible rfl)
            try simp only [Act.put, sA]; try simp only [sB, sC]
            refine' takeH (i := 3) (v := _) rfl (by kernel_rfl) (by kernel_rfl) (by kernel_rfl) (fun _ _ _ h => h) (yields_of (by rfl) (fun w' _ => ?_)) inferInstance ?_
            rotate_left
            · (go_simp; try with_reducible rfl)
            try simp only [Act.put, sA]; try simp only [sB, sC]
            try simp only [HAND.out]
            try simp only [HREM.out]
            try simp only [HXOR.out]
            refine' takeH (i := 4) (v := _) rfl (by kernel_rfl) (by kernel_rfl) (by kernel_rfl) (fun _ _ _ h => h) (yields_of (by rfl) (fun w' _ => ?_)) inferInstance ?_
            rotate_left
            · (first | ((with_reducible apply (ev_fieldE (t := 46))); (exact Try.underlying46); (exact rfl); (kernel_rfl); (exact rfl); infer_instance; (exact cells_pos (by decide) (by omega))) | (go_simp; try with_reducible rfl))
            try simp only [Act.put, sA]; try simp only [sB, sC]
            refine' takeH (i := 5) (v := _) rfl (by kernel_rfl) (by kernel_rfl) (by kernel_rfl) (fun _ _ _ h => h) (yields_of (by rfl) (fun w' _ => ?_)) inferInstance ?_
            rotate_left
            · (first | ((with_reducible apply ev_loadrow); (exact rfl); infer_instance; infer_instance; (first | (with_reducible assumption) | (with_reducible exact H32.size _) | (with_reducible exact enc_sz _ rfl) | kernel_rfl)) | ((with_reducible apply (ev_loadhash (t := 23))); (exact rfl); infer_instance; infer_instance; (first | (with_reducible assumption) | omega)) | ((with_reducible apply ev_loadcellN); (exact rfl); infer_instance; infer_instance; (exact rfl)) | ((with_reducible apply (ev_loadE (α := MarkR) (t := 46))); infer_instance; (exact rfl); infer_instance; (exact rfl); (decide); (first | (with_reducible assumption) | omega | (focus (simp; done)) | (focus (simp; omega; done)) | decide)) | ((with_reducible apply (ev_loadF (α := MarkR))); infer_instance; (exact rfl); infer_instance; (exact rfl); (first | (with_reducible assumption) | omega | (focus (simp; done)) | (focus (simp; omega; done)) | decide); (exact rfl)) | ((with_reducible apply (ev_loadint (t := 3))); (exact rfl); infer_instance; infer_instance; (first | (with_reducible assumption) | omega)) | ((with_reducible apply (ev_loadbyte (t := 5))); (exact rfl); infer_instance; infer_instance; (first | (with_reducible assumption) | omega)) | (go_simp; try with_reducible rfl))
            try simp only [Act.put, sA]; try simp only [sB, sC]
            refine' takeH (i := 6) (v := _) rfl (by kernel_rfl) (by kernel_rfl) (by kernel_rfl) (fun _ _ _ h => h) (yields_of (by rfl) (fun w' _ => ?_)) inferInstance ?_
            rotate_left
            · (go_simp; try with_reducible rfl)
            try simp only [Act.put, sA]; try simp only [sB, sC]
            refine' takeH (i := 7) (v := _) rfl (by kernel_rfl) (by kernel_rfl) (by kernel_rfl) (fun _ _ _ h => h) (yields_of (by rfl) (fun w' _ => ?_)) inferInstance ?_
            rotate_left
            · (go_simp; try with_reducible rfl)
            try simp only [Act.put, sA]; try simp only [sB, sC]
            try simp only [HAND.out]
            try simp only [HREM.out]
            try simp only [HXOR.out]
            refine' takeH (i := 8) (v := _) rfl (by kernel_rfl) (by kernel_rfl) (by kernel_rfl) (fun _ _ _ h => h) (yields_of (by rfl) (fun w' _ => ?_)) inferInstance ?_
            rotate_left
            · (first | ((with_reducible apply ev_indexNQ); (exact rfl); (exact rfl); infer_instance; (exact hjn)))
            try simp only [Act.put, sA]; try simp only [sB, sC]
            refine' takeH (i := 10) (v := _) rfl (by kernel_rfl) (by kernel_rfl) (by kernel_rfl) (fun _ _ _ h => h) (yields_of (by rfl) (fun w' _ => ?_)) inferInstance ?_
            rotate_left
            · (go_simp; try with_reducible rfl)
            try simp only [Act.put, sA]; try simp only [sB, sC]
            refine goH (i := 9) (by kernel_rfl) rfl (fun K_ hK_ => ?_)
            rw [if_pos (by kernel_rfl)]
            refine wpr_of_list ?_
            (first | ((with_reducible apply wpl_indexNQ); (exact rfl); (exact rfl); infer_instance; (exact hjn)) | ((with_reducible apply wpl_load1); (exact rfl); infer_instance; infer_instance; (exact hvd)) | ((with_reducible apply wpl_storeBQ); (exact rfl); (exact rfl); infer_instance; (exact hjm); (exact hv0); intro ws _ hOG) | ((with_reducible apply wpl_loadrow); (exact rfl); infer_instance; infer_instance; (first | (with_reducible assumption) | (with_reducible exact H32.size _) | (with_reducible exact enc_sz _ rfl) | kernel_rfl)) | ((with_reducible apply wpl_loadcellN); (exact rfl); infer_instance; (exact rfl)) | ((with_reducible apply (wpl_loadhash (t := 23))); (exact rfl); infer_instance; infer_instance; (first | (with_reducible assumption) | omega)) | ((with_reducible apply (wpl_loadE (α := MarkR) (t := 46))); infer_instance; (exact rfl); infer_instance; (exact rfl); (decide); (first | (with_reducible assumption) | omega | (focus (simp; done)) | (focus (simp; omega; done)) | decide)) | ((with_reducible apply (wpl_loadF (α := MarkR))); infer_instance; (exact rfl); infer_instance; (exact rfl); (first | (with_reducible assumption) | omega | (focus (simp; done)) | (focus (simp; omega; done)) | decide); (exact rfl)) | ((with_reducible apply (wpl_loadint (t := 3))); (exact rfl); infer_instance; infer_instance; (first | (with_reducible assumption) | omega)) | ((with_reducible apply (wpl_loadbyte (t := 5))); (exact rfl); infer_instance; infer_instance; (first | (with_reducible assumption) | omega)))
            refine wpList_nil ?_
            unfold onlyN
            refine hK_.out _ _ inferInstance (fun _ => ?_)
            clear hK_ K_
            try simp only [Act.put, sA]; try simp only [sB, sC]
            refine' takeH (i := 11) (v := _) rfl (by kernel_rfl) (by kernel_rfl) (by kernel_rfl) (fun _ _ _ h => h) (yields_of (by rfl) (fun w' _ => ?_)) inferInstance ?_
            rotate_left
            · (go_simp; try with_reducible rfl)
            try simp only [Act.put, sA]; try simp only [sB, sC]
            try simp only [HAND.out]
            try simp only [HREM.out]
            try simp only [HXOR.out]
            refine' takeH (i := 12) (v := _) rfl (by kernel_rfl) (by kernel_rfl) (by kernel_rfl) (fun _ _ _ h => h) (yields_of (by rfl) (fun w' _ => ?_)) inferInstance ?_
            rotate_left
            · (first | ((with_reducible apply ev_indexNQ); (exact rfl); (exact rfl); infer_instance; (exact hjn)))
            try simp only [Act.put, sA]; try simp only [sB, sC]
            refine goH (i := 13) (by kernel_rfl) rfl (fun K_ hK_ => ?_)
            rw [if_pos (by kernel_rfl)]
            refine wpr_of_list ?_
            (first | ((with_reducible apply wpl_indexNQ); (exact rfl); (exact rfl); infer_instance; (exact hjn)) | ((with_reducible apply wpl_load1); (exact rfl); infer_instance; infer_instance; (exact hvd)) | ((with_reducible apply wpl_storeBQ); (exact rfl); (exact rfl); infer_instance; (exact hjm); (exact hv0); intro ws _ hOG) | ((with_reducible apply wpl_storerow); (exact rfl); (exact rfl); infer_instance; infer_instance; (first | (with_reducible assumption) | (with_reducible exact H32.size _) | (with_reducible exact enc_sz _ rfl) | kernel_rfl); (first | (with_reducible assumption) | (with_reducible exact H32.size _) | (with_reducible exact enc_sz _ rfl) | kernel_rfl); (first | (with_reducible exact u8s_one _) | (with_reducible assumption) | (with_reducible exact enc_one _) | kernel_rfl); intro ws _ _) | ((with_reducible apply wpl_storecell); (exact rfl); (exact rfl); infer_instance; (exact rfl); (first | (with_reducible assumption) | omega | (focus (simp; done)) | (focus (simp; omega; done)) | decide); intro ws _ _) | ((with_reducible apply (wpl_storehash (t := 23))); (exact rfl); (exact rfl); infer_instance; infer_instance; (first | (with_reducible assumption) | omega | (focus (simp; done)) | (focus (simp; omega; done)) | decide); intro ws _ _) | ((with_reducible apply (wpl_storeint (t := 3))); (exact rfl); (exact rfl); infer_instance; (first | (with_reducible assumption) | omega); intro ws _ _) | ((with_reducible apply (wpl_storebyte (t := 5))); (exact rfl); (exact rfl); infer_instance; (first | (with_reducible assumption) | omega | (focus (simp; done)) | (focus (simp; omega; done)) | decide); (constructor <;> omega); intro ws _ _))
            refine wpList_nil ?_
            unfold onlyN
            refine hK_.out _ _ inferInstance (fun _ => ?_)
            clear hK_ K_
            try simp only [Act.put]
            refine wpAnyH_done (by kernel_rfl) ?_ _
            go_wp2_with (first | go_skip | ((with_reducible apply wpl_alloc); intro z wz _ _ _) | ((with_reducible apply wpl_box_agg); (exact rfl); intro z wz _ _ _) | ((with_reducible apply wpl_box_int); (exact rfl); intro z wz _ _ _) | ((with_reducible apply wpl_box_slice); (exact rfl); intro z wz _ _ _) | ((with_reducible apply wpl_box_str); (exact rfl); intro z wz _ _ _) | ((with_reducible apply wpl_box_bool); (exact rfl); intro z wz _ _ _) | ((with_reducible apply wpl_box_ptr); (exact rfl); intro z wz _ _ _) | ((with_reducible apply (wpl_guard (op := .load _ _))); (exact rfl)) | ((with_reducible apply (wpl_guard (op := .fieldAddr _ _ _))); (exact rfl)) | ((with_reducible apply wpl_loadrow); (exact rfl); infer_instance; infer_instance; (first | (with_reducible assumption) | (with_reducible exact H32.size _) | (with_reducible exact enc_sz _ rfl) | kernel_rfl)) | ((with_reducible apply wpl_loadcellN); (exact rfl); infer_instance; (exact rfl)) | ((with_reducible apply wpl_storerow); (exact rfl); (exact rfl); infer_instance; infer_instance; (first | (with_reducible assumption) | (with_reducible exact H32.size _) | (with_reducible exact enc_sz _ rfl) | kernel_rfl); (first | (with_reducible assumption) | (with_reducible exact H32.size _) | (with_reducible exact enc_sz _ rfl) | kernel_rfl); (first | (with_reducible exact u8s_one _) | (with_reducible assumption) | (with_reducible exact enc_one _) | kernel_rfl); intro ws _ _) | ((with_reducible apply wpl_storecell); (exact rfl); (exact rfl); infer_instance; (exact rfl); (first | (with_reducible assumption) | omega | (focus (simp; done)) | (focus (simp; omega; done)) | decide); intro ws _ _))
            obtain ⟨m', hm'⟩ : ∃ x, x = m.set j (b8 v) := ⟨_, rfl⟩
            have HM2 : Hid (m'.length = n) := Lib.hid (by rw [hm', List.length_set, HM.out])
            have hoM5 : HO ws 5 1 (some ma) n c (bs m') := by
              rw [hm']
              infer_instance
            have n5 : Nw w ws := inferInstance
            have hez5 : HB ws ze 29 #[.slice (some ma) n c, .slice (some ⟨za, 0, none⟩) 1 1] := inferInstance
            have hcz5 : HB ws zc 51 #[.pointer (some ⟨zk, 0, none⟩)] := inferInstance
            have hk5 : KeyAt ws zk seed (0 + 1) := inferInstance
            have hrA5 : HR ws (some ⟨za, 0, none⟩) (cellsOf [r]) := inferInstance
            have hrl5 : HR ws r.A (cellsOf r.l) := inferInstance
            have hrp5 : HR ws r.B (cellsOf r.p) := inferInstance
            clear hOG hm' HAND HREM HXOR
            obtain ⟨R, hR⟩ : ∃ R, R = chkS (meetsB m' [r] [N] 1) m' nonce := ⟨_, rfl⟩
            have HR1 := Lib.hid hR
            clear hR
            refine wp_region_I (KI zk seed (0 + 1)) ((only zk)) (by kernel_rfl) inferInstance (fun wd _ _ => ?_)
            refine' takeH (i := 0) (v := _) rfl (by kernel_rfl) (by kernel_rfl) (by kernel_rfl) (fun _ _ _ h => h) (yields_ofI (by rfl) (fun w' _ => ?_)) inferInstance ?_
            rotate_left
            · (go_simp; try with_reducible rfl)
            try simp only [Act.put, sA]; try simp only [sB, sC]
            refine' takeH (i := 2) (v := _) rfl (by kernel_rfl) (by kernel_rfl) (by kernel_rfl) (fun _ _ _ h => h) (yields_ofI (by rfl) (fun w' _ => ?_)) inferInstance ?_
            rotate_left
            · (first | ((with_reducible apply ev_loadrow); (exact rfl); infer_instance; infer_instance; (first | (with_reducible assumption) | (with_reducible exact H32.size _) | (with_reducible exact enc_sz _ rfl) | kernel_rfl)) | ((with_reducible apply (ev_loadhash (t := 23))); (exact rfl); infer_instance; infer_instance; (first | (with_reducible assumption) | omega)) | ((with_reducible apply ev_loadcellN); (exact rfl); infer_instance; infer_instance; (exact rfl)) | ((with_reducible apply (ev_loadE (α := MarkR) (t := 46))); infer_instance; (exact rfl); infer_instance; (exact rfl); (decide); (first | (with_reducible assumption) | omega | (focus (simp; done)) | (focus (simp; omega; done)) | decide)) | ((with_reducible apply (ev_loadF (α := MarkR))); infer_instance; (exact rfl); infer_instance; (exact rfl); (first | (with_reducible assumption) | omega | (focus (simp; done)) | (focus (simp; omega; done)) | decide); (exact rfl)) | ((with_reducible apply (ev_loadint (t := 3))); (exact rfl); infer_instance; infer_instance; (first | (with_reducible assumption) | omega)) | ((with_reducible apply (ev_loadbyte (t := 5))); (exact rfl); infer_instance; infer_instance; (first | (with_reducible assumption) | omega)) | (go_simp; try with_reducible rfl))
            try simp only [Act.put, sA]; try simp only [sB, sC]
            refine' takeH (i := 3) (v := _) rfl (by kernel_rfl) (by kernel_rfl) (by kernel_rfl) (fun _ _ _ h => h) (yields_ofI (by rfl) (fun w' _ => ?_)) inferInstance ?_
            rotate_left
            · (go_simp; try with_reducible rfl)
            try simp only [Act.put, sA]; try simp only [sB, sC]
            refine goH (i := 1) (by kernel_rfl) rfl (fun K_ hK_ => ?_)
            go_simp
            refine (ckPublic_calls (zk := zk)).mono ?_
            rw [← HN.out]
            rintro e w7 ⟨rfl, _, _⟩
            refine hK_.out _ _ inferInstance (fun _ => ?_)
            clear hK_ K_
            try simp only [Act.put, sA]; try simp only [sB, sC]
            refine goH (i := 4) (by kernel_rfl) rfl (fun K_ hK_ => ?_)
            go_simp
            refine (check_calls (m := m') (l := [r]) N nonce mark_one rfl (Nat.le_refl _) (show 1 ≤ 9223372036854775807 by decide) HM2.out hcap (by omega)).mono ?_
            rw [← HR1.out]
            rintro e w8 ⟨rfl, _⟩
            refine hK_.out _ _ inferInstance (fun _ => ?_)
            clear hK_ K_
            try simp only [Act.put, sA]; try simp only [sB, sC]
            refine' takeH (i := 5) (v := _) rfl (by kernel_rfl) (by kernel_rfl) (by kernel_rfl) (fun _ _ _ h => h) (yields_ofI (by rfl) (fun w' _ => ?_)) inferInstance ?_
            rotate_left
            · (go_simp; try with_reducible rfl)
            try simp only [Act.put, sA]; try simp only [sB, sC]
            refine' takeH (i := 6) (v := _) rfl (by kernel_rfl) (by kernel_rfl) (by kernel_rfl) (fun _ _ _ h => h) (yields_ofI (by rfl) (fun w' _ => ?_)) inferInstance ?_
            rotate_left
            · (go_simp; try with_reducible rfl)
            try simp only [Act.put, sA]; try simp only [sB, sC]
            refine' takeH (i := 7) (v := _) rfl (by kernel_rfl) (by kernel_rfl) (by kernel_rfl) (fun _ _ _ h => h) (yields_ofI (by rfl) (fun w' _ => ?_)) inferInstance ?_
            rotate_left
            · (go_simp; try with_reducible rfl)
            try simp only [Act.put, sA]; try simp only [sB, sC]
            refine' takeH (i := 8) (v := _) rfl (by kernel_rfl) (by kernel_rfl) (by kernel_rfl) (fun _ _ _ h => h) (yields_ofI (by rfl) (fun w' _ => ?_)) inferInstance ?_
            rotate_left
            · (go_simp; try with_reducible rfl)
            try simp only [Act.put, sA]; try simp only [sB, sC]
            refine' takeH (i := 9) (v := _) rfl (by kernel_rfl) (by kernel_rfl) (by kernel_rfl) (fun _ _ _ h => h) (yields_ofI (by rfl) (fun w' _ => ?_)) inferInstance ?_
            rotate_left
            · (go_simp; try with_reducible rfl)
            try simp only [Act.put, sA]; try simp only [sB, sC]
            refine wpAnyH_done (by kernel_rfl) ?_ _
            go_wp2_with (first | go_skip | ((with_reducible apply wpl_alloc); intro z wz _ _ _) | ((with_reducible apply wpl_box_agg); (exact rfl); intro z wz _ _ _) | ((with_reducible apply wpl_box_int); (exact rfl); intro z wz _ _ _) | ((with_reducible apply wpl_box_slice); (exact rfl); intro z wz _ _ _) | ((with_reducible apply wpl_box_str); (exact rfl); intro z wz _ _ _) | ((with_reducible apply wpl_box_bool); (exact rfl); intro z wz _ _ _) | ((with_reducible apply wpl_box_ptr); (exact rfl); intro z wz _ _ _) | ((with_reducible apply (wpl_guard (op := .load _ _))); (exact rfl)) | ((with_reducible apply (wpl_guard (op := .fieldAddr _ _ _))); (exact rfl)) | ((with_reducible apply wpl_loadrow); (exact rfl); infer_instance; infer_instance; (first | (with_reducible assumption) | (with_reducible exact H32.size _) | (with_reducible exact enc_sz _ rfl) | kernel_rfl)) | ((with_reducible apply wpl_loadcellN); (exact rfl); infer_instance; (exact rfl)) | ((with_reducible apply wpl_storerow); (exact rfl); (exact rfl); infer_instance; infer_instance; (first | (with_reducible assumption) | (with_reducible exact H32.size _) | (with_reducible exact enc_sz _ rfl) | kernel_rfl); (first | (with_reducible assumption) | (with_reducible exact H32.size _) | (with_reducible exact enc_sz _ rfl) | kernel_rfl); (first | (with_reducible exact u8s_one _) | (with_reducible assumption) | (with_reducible exact enc_one _) | kernel_rfl); intro ws _ _) | ((with_reducible apply wpl_storecell); (exact rfl); (exact rfl); infer_instance; (exact rfl); (first | (with_reducible assumption) | omega | (focus (simp; done)) | (focus (simp; omega; done)) | decide); intro ws _ _))
            refine wp_region_I (KI zk seed (0 + 1)) ((only zk)) (by kernel_rfl) inferInstance (fun wd _ _ => ?_)
            refine' takeH (i := 0) (v := _) rfl (by kernel_rfl) (by kernel_rfl) (by kernel_rfl) (fun _ _ _ h => h) (yields_ofI (by rfl) (fun w' _ => ?_)) inferInstance ?_
            rotate_left
            · (go_simp; try with_reducible rfl)
            try simp only [Act.put, sA]; try simp only [sB, sC]
            refine' takeH (i := 2) (v := _) rfl (by kernel_rfl) (by kernel_rfl) (by kernel_rfl) (fun _ _ _ h => h) (yields_ofI (by rfl) (fun w' _ => ?_)) inferInstance ?_
            rotate_left
            · (first | ((with_reducible apply ev_loadrow); (exact rfl); infer_instance; infer_instance; (first | (with_reducible assumption) | (with_reducible exact H32.size _) | (with_reducible exact enc_sz _ rfl) | kernel_rfl)) | ((with_reducible apply (ev_loadhash (t := 23))); (exact rfl); infer_instance; infer_instance; (first | (with_reducible assumption) | omega)) | ((with_reducible apply ev_loadcellN); (exact rfl); infer_instance; infer_instance; (exact rfl)) | ((with_reducible apply (ev_loadE (α := MarkR) (t := 46))); infer_instance; (exact rfl); infer_instance; (exact rfl); (decide); (first | (with_reducible assumption) | omega | (focus (simp; done)) | (focus (simp; omega; done)) | decide)) | ((with_reducible apply (ev_loadF (α := MarkR))); infer_instance; (exact rfl); infer_instance; (exact rfl); (first | (with_reducible assumption) | omega | (focus (simp; done)) | (focus (simp; omega; done)) | decide); (exact rfl)) | ((with_reducible apply (ev_loadint (t := 3))); (exact rfl); infer_instance; infer_instance; (first | (with_reducible assumption) | omega)) | ((with_reducible apply (ev_loadbyte (t := 5))); (exact rfl); infer_instance; infer_instance; (first | (with_reducible assumption) | omega)) | (go_simp; try with_reducible rfl))
            try simp only [Act.put, sA]; try simp only [sB, sC]
            refine' takeH (i := 3) (v := _) rfl (by kernel_rfl) (by kernel_rfl) (by kernel_rfl) (fun _ _ _ h => h) (yields_ofI (by rfl) (fun w' _ => ?_)) inferInstance ?_
            rotate_left
            · (go_simp; try with_reducible rfl)
            try simp only [Act.put, sA]; try simp only [sB, sC]
            refine goH (i := 1) (by kernel_rfl) rfl (fun K_ hK_ => ?_)
            go_simp
            refine (ckPublic_calls (zk := zk)).mono ?_
            rw [← HN.out]
            rintro e w9 ⟨rfl, _, _⟩
            refine hK_.out _ _ inferInstance (fun _ => ?_)
            clear hK_ K_
            try simp only [Act.put, sA]; try simp only [sB, sC]
            refine goH (i := 4) (by kernel_rfl) rfl (fun K_ hK_ => ?_)
            go_simp
            refine (rcheck_calls (m := m') (l := [r]) N nonce mark_one rfl (show 1 ≤ 9223372036854775807 by decide) HM2.out hcap (by omega)).mono ?_
            rw [← HR1.out]
            rintro e w10 ⟨rfl, _⟩
            refine hK_.out _ _ inferInstance (fun _ => ?_)
            clear hK_ K_
            try simp only [Act.put, sA]; try simp only [sB, sC]
            refine' takeH (i := 5) (v := _) rfl (by kernel_rfl) (by kernel_rfl) (by kernel_rfl) (fun _ _ _ h => h) (yields_ofI (by rfl) (fun w' _ => ?_)) inferInstance ?_
            rotate_left
            · (go_simp; try with_reducible rfl)
            try simp only [Act.put, sA]; try simp only [sB, sC]
            refine' takeH (i := 6) (v := _) rfl (by kernel_rfl) (by kernel_rfl) (by kernel_rfl) (fun _ _ _ h => h) (yields_ofI (by rfl) (fun w' _ => ?_)) inferInstance ?_
            rotate_left
            · (go_simp; try with_reducible rfl)
            try simp only [Act.put, sA]; try simp only [sB, sC]
            refine' takeH (i := 7) (v := _) rfl (by kernel_rfl) (by kernel_rfl) (by kernel_rfl) (fun _ _ _ h => h) (yields_ofI (by rfl) (fun w' _ => ?_)) inferInstance ?_
            rotate_left
            · (go_simp; try with_reducible rfl)
            try simp only [Act.put, sA]; try simp only [sB, sC]
            refine' takeH (i := 8) (v := _) rfl (by kernel_rfl) (by kernel_rfl) (by kernel_rfl) (fun _ _ _ h => h) (yields_ofI (by rfl) (fun w' _ => ?_)) inferInstance ?_
            rotate_left
            · (go_simp; try with_reducible rfl)
            try simp only [Act.put, sA]; try simp only [sB, sC]
            refine' takeH (i := 9) (v := _) rfl (by kernel_rfl) (by kernel_rfl) (by kernel_rfl) (fun _ _ _ h => h) (yields_ofI (by rfl) (fun w' _ => ?_)) inferInstance ?_
            rotate_left
            · (go_simp; try with_reducible rfl)
            try simp only [Act.put, sA]; try simp only [sB, sC]
            refine wpAnyH_done (by kernel_rfl) ?_ _
            by_cases hR4 : R.2 = 4
            · have e6 : (R.2 == 4) = true := by simp [hR4]
              have e7 : (R.2 != 4) = false := by simp [hR4]
              clear hR4
              go_wp2_with (first | go_skip | ((with_reducible apply wpl_alloc); intro z wz _ _ _) | ((with_reducible apply wpl_box_agg); (exact rfl); intro z wz _ _ _) | ((with_reducible apply wpl_box_int); (exact rfl); intro z wz _ _ _) | ((with_reducible apply wpl_box_slice); (exact rfl); intro z wz _ _ _) | ((with_reducible apply wpl_box_str); (exact rfl); intro z wz _ _ _) | ((with_reducible apply wpl_box_bool); (exact rfl); intro z wz _ _ _) | ((with_reducible apply wpl_box_ptr); (exact rfl); intro z wz _ _ _) | ((with_reducible apply (wpl_guard (op := .load _ _))); (exact rfl)) | ((with_reducible apply (wpl_guard (op := .fieldAddr _ _ _))); (exact rfl)) | ((with_reducible apply wpl_loadrow); (exact rfl); infer_instance; infer_instance; (first | (with_reducible assumption) | (with_reducible exact H32.size _) | (with_reducible exact enc_sz _ rfl) | kernel_rfl)) | ((with_reducible apply wpl_loadcellN); (exact rfl); infer_instance; (exact rfl)) | ((with_reducible apply wpl_storerow); (exact rfl); (exact rfl); infer_instance; infer_instance; (first | (with_reducible assumption) | (with_reducible exact H32.size _) | (with_reducible exact enc_sz _ rfl) | kernel_rfl); (first | (with_reducible assumption) | (with_reducible exact H32.size _) | (with_reducible exact enc_sz _ rfl) | kernel_rfl); (first | (with_reducible exact u8s_one _) | (with_reducible assumption) | (with_reducible exact enc_one _) | kernel_rfl); intro ws _ _) | ((with_reducible apply wpl_storecell); (exact rfl); (exact rfl); infer_instance; (exact rfl); (first | (with_reducible assumption) | omega | (focus (simp; done)) | (focus (simp; omega; done)) | decide); intro ws _ _))
              refine (ckKnown_calls _).mono ?_
              rintro e w11 ⟨rfl, _⟩
              go_wp2_with (first | go_skip | ((with_reducible apply wpl_alloc); intro z wz _ _ _) | ((with_reducible apply wpl_box_agg); (exact rfl); intro z wz _ _ _) | ((with_reducible apply wpl_box_int); (exact rfl); intro z wz _ _ _) | ((with_reducible apply wpl_box_slice); (exact rfl); intro z wz _ _ _) | ((with_reducible apply wpl_box_str); (exact rfl); intro z wz _ _ _) | ((with_reducible apply wpl_box_bool); (exact rfl); intro z wz _ _ _) | ((with_reducible apply wpl_box_ptr); (exact rfl); intro z wz _ _ _) | ((with_reducible apply (wpl_guard (op := .load _ _))); (exact rfl)) | ((with_reducible apply (wpl_guard (op := .fieldAddr _ _ _))); (exact rfl)) | ((with_reducible apply wpl_loadrow); (exact rfl); infer_instance; infer_instance; (first | (with_reducible assumption) | (with_reducible exact H32.size _) | (with_reducible exact enc_sz _ rfl) | kernel_rfl)) | ((with_reducible apply wpl_loadcellN); (exact rfl); infer_instance; (exact rfl)) | ((with_reducible apply wpl_storerow); (exact rfl); (exact rfl); infer_instance; infer_instance; (first | (with_reducible assumption) | (with_reducible exact H32.size _) | (with_reducible exact enc_sz _ rfl) | kernel_rfl); (first | (with_reducible assumption) | (with_reducible exact H32.size _) | (with_reducible exact enc_sz _ rfl) | kernel_rfl); (first | (with_reducible exact u8s_one _) | (with_reducible assumption) | (with_reducible exact enc_one _) | kernel_rfl); intro ws _ _) | ((with_reducible apply wpl_storecell); (exact rfl); (exact rfl); infer_instance; (exact rfl); (first | (with_reducible assumption) | omega | (focus (simp; done)) | (focus (simp; omega; done)) | decide); intro ws _ _))
              go_ret
              exact ⟨rfl, (stepN (w0 := w)).chg⟩
            · have e6 : (R.2 == 4) = false := by simp [hR4]
              have e7 : (R.2 != 4) = true := by simp [hR4]
              clear hR4
              go_wp2_with (first | go_skip | ((with_reducible apply wpl_alloc); intro z wz _ _ _) | ((with_reducible apply wpl_box_agg); (exact rfl); intro z wz _ _ _) | ((with_reducible apply wpl_box_int); (exact rfl); intro z wz _ _ _) | ((with_reducible apply wpl_box_slice); (exact rfl); intro z wz _ _ _) | ((with_reducible apply wpl_box_str); (exact rfl); intro z wz _ _ _) | ((with_reducible apply wpl_box_bool); (exact rfl); intro z wz _ _ _) | ((with_reducible apply wpl_box_ptr); (exact rfl); intro z wz _ _ _) | ((with_reducible apply (wpl_guard (op := .load _ _))); (exact rfl)) | ((with_reducible apply (wpl_guard (op := .fieldAddr _ _ _))); (exact rfl)) | ((with_reducible apply wpl_loadrow); (exact rfl); infer_instance; infer_instance; (first | (with_reducible assumption) | (with_reducible exact H32.size _) | (with_reducible exact enc_sz _ rfl) | kernel_rfl)) | ((with_reducible apply wpl_loadcellN); (exact rfl); infer_instance; (exact rfl)) | ((with_reducible apply wpl_storerow); (exact rfl); (exact rfl); infer_instance; infer_instance; (first | (with_reducible assumption) | (with_reducible exact H32.size _) | (with_reducible exact enc_sz _ rfl) | kernel_rfl); (first | (with_reducible assumption) | (with_reducible exact H32.size _) | (with_reducible exact enc_sz _ rfl) | kernel_rfl); (first | (with_reducible exact u8s_one _) | (with_reducible assumption) | (with_reducible exact enc_one _) | kernel_rfl); intro ws _ _) | ((with_reducible apply wpl_storecell); (exact rfl); (exact rfl); infer_instance; (exact rfl); (first | (with_reducible assumption) | omega | (focus (simp; done)) | (focus (simp; omega; done)) | decide); intro ws _ _))
              refine (ckKnown_calls _).mono ?_
              rintro e w11 ⟨rfl, _⟩
              go_wp2_with (first | go_skip | ((with_reducible apply wpl_alloc); intro z wz _ _ _) | ((with_reducible apply wpl_box_agg); (exact rfl); intro z wz _ _ _) | ((with_reducible apply wpl_box_int); (exact rfl); intro z wz _ _ _) | ((with_reducible apply wpl_box_slice); (exact rfl); intro z wz _ _ _) | ((with_reducible apply wpl_box_str); (exact rfl); intro z wz _ _ _) | ((with_reducible apply wpl_box_bool); (exact rfl); intro z wz _ _ _) | ((with_reducible apply wpl_box_ptr); (exact rfl); intro z wz _ _ _) | ((with_reducible apply (wpl_guard (op := .load _ _))); (exact rfl)) | ((with_reducible apply (wpl_guard (op := .fieldAddr _ _ _))); (exact rfl)) | ((with_reducible apply wpl_loadrow); (exact rfl); infer_instance; infer_instance; (first | (with_reducible assumption) | (with_reducible exact H32.size _) | (with_reducible exact enc_sz _ rfl) | kernel_rfl)) | ((with_reducible apply wpl_loadcellN); (exact rfl); infer_instance; (exact rfl)) | ((with_reducible apply wpl_storerow); (exact rfl); (exact rfl); infer_instance; infer_instance; (first | (with_reducible assumption) | (with_reducible exact H32.size _) | (with_reducible exact enc_sz _ rfl) | kernel_rfl); (first | (with_reducible assumption) | (with_reducible exact H32.size _) | (with_reducible exact enc_sz _ rfl) | kernel_rfl); (first | (with_reducible exact u8s_one _) | (with_reducible assumption) | (with_reducible exact enc_one _) | kernel_rfl); intro ws _ _) | ((with_reducible apply wpl_storecell); (exact rfl); (exact rfl); infer_instance; (exact rfl); (first | (with_reducible assumption) | omega | (focus (simp; done)) | (focus (simp; omega; done)) | decide); intro ws _ _))
              go_ret
              exact ⟨rfl, (stepN (w0 := w)).chg⟩
        · have e4 : decide (1073741824 < now) = true := decide_eq_true (by omega)
          go_enter Try.func3, Try.ntmps3
          go_wp2_with (first | go_skip | ((with_reducible apply (wpl_alloc (dst := some 5))); intro y5 wy5 _ _ _) | ((with_reducible apply (wpl_box_agg (dst := some 5))); (exact rfl); intro y5 wy5 _ _ _) | ((with_reducible apply (wpl_box_int (dst := some 5))); (exact rfl); intro y5 wy5 _ _ _) | ((with_reducible apply (wpl_box_slice (dst := some 5))); (exact rfl); intro y5 wy5 _ _ _) | ((with_reducible apply (wpl_box_str (dst := some 5))); (exact rfl); intro y5 wy5 _ _ _) | ((with_reducible apply (wpl_box_bool (dst := some 5))); (exact rfl); intro y5 wy5 _ _ _) | ((with_reducible apply (wpl_box_ptr (dst := some 5))); (exact rfl); intro y5 wy5 _ _ _) | ((with_reducible apply wpl_alloc); intro z wz _ _ _) | ((with_reducible apply wpl_box_agg); (exact rfl); intro z wz _ _ _) | ((with_reducible apply wpl_box_int); (exact rfl); intro z wz _ _ _) | ((with_reducible apply wpl_box_slice); (exact rfl); intro z wz _ _ _) | ((with_reducible apply wpl_box_str); (exact rfl); intro z wz _ _ _) | ((with_reducible apply wpl_box_bool); (exact rfl); intro z wz _ _ _) | ((with_reducible apply wpl_box_ptr); (exact rfl); intro z wz _ _ _) | ((with_reducible apply (wpl_guard (op := .load _ _))); (exact rfl)) | ((with_reducible apply (wpl_guard (op := .fieldAddr _ _ _))); (exact rfl)) | ((with_reducible apply wpl_loadrow); (exact rfl); infer_instance; infer_instance; (first | (with_reducible assumption) | (with_reducible exact H32.size _) | (with_reducible exact enc_sz _ rfl) | kernel_rfl)) | ((with_reducible apply wpl_loadcellN); (exact rfl); infer_instance; (exact rfl)) | ((with_reducible apply wpl_storerow); (exact rfl); (exact rfl); infer_instance; infer_instance; (first | (with_reducible assumption) | (with_reducible exact H32.size _) | (with_reducible exact enc_sz _ rfl) | kernel_rfl); (first | (with_reducible assumption) | (with_reducible exact H32.size _) | (with_reducible exact enc_sz _ rfl) | kernel_rfl); (first | (with_reducible exact u8s_one _) | (with_reducible assumption) | (with_reducible exact enc_one _) | kernel_rfl); intro ws _ _) | ((with_reducible apply wpl_storecell); (exact rfl); (exact rfl); infer_instance; (exact rfl); (first | (with_reducible assumption) | omega | (focus (simp; done)) | (focus (simp; omega; done)) | decide); intro ws _ _))
          go_ret
          exact ⟨rfl, (stepN (w0 := w)).chg⟩
      · go_enter Try.func3, Try.ntmps3
        go_wp2_with (first | go_skip | ((with_reducible apply (wpl_alloc (dst := some 5))); intro y5 wy5 _ _ _) | ((with_reducible apply (wpl_box_agg (dst := some 5))); (exact rfl); intro y5 wy5 _ _ _) | ((with_reducible apply (wpl_box_int (dst := some 5))); (exact rfl); intro y5 wy5 _ _ _) | ((with_reducible apply (wpl_box_slice (dst := some 5))); (exact rfl); intro y5 wy5 _ _ _) | ((with_reducible apply (wpl_box_str (dst := some 5))); (exact rfl); intro y5 wy5 _ _ _) | ((with_reducible apply (wpl_box_bool (dst := some 5))); (exact rfl); intro y5 wy5 _ _ _) | ((with_reducible apply (wpl_box_ptr (dst := some 5))); (exact rfl); intro y5 wy5 _ _ _) | ((with_reducible apply wpl_alloc); intro z wz _ _ _) | ((with_reducible apply wpl_box_agg); (exact rfl); intro z wz _ _ _) | ((with_reducible apply wpl_box_int); (exact rfl); intro z wz _ _ _) | ((with_reducible apply wpl_box_slice); (exact rfl); intro z wz _ _ _) | ((with_reducible apply wpl_box_str); (exact rfl); intro z wz _ _ _) | ((with_reducible apply wpl_box_bool); (exact rfl); intro z wz _ _ _) | ((with_reducible apply wpl_box_ptr); (exact rfl); intro z wz _ _ _) | ((with_reducible apply (wpl_guard (op := .load _ _))); (exact rfl)) | ((with_reducible apply (wpl_guard (op := .fieldAddr _ _ _))); (exact rfl)) | ((with_reducible apply wpl_loadrow); (exact rfl); infer_instance; infer_instance; (first | (with_reducible assumption) | (with_reducible exact H32.size _) | (with_reducible exact enc_sz _ rfl) | kernel_rfl)) | ((with_reducible apply wpl_loadcellN); (exact rfl); infer_instance; (exact rfl)) | ((with_reducible apply wpl_storerow); (exact rfl); (exact rfl); infer_instance; infer_instance; (first | (with_reducible assumption) | (with_reducible exact H32.size _) | (with_reducible exact enc_sz _ rfl) | kernel_rfl); (first | (with_reducible assumption) | (with_reducible exact H32.size _) | (with_reducible exact enc_sz _ rfl) | kernel_rfl); (first | (with_reducible exact u8s_one _) | (with_reducible assumption) | (with_reducible exact enc_one _) | kernel_rfl); intro ws _ _) | ((with_reducible apply wpl_storecell); (exact rfl); (exact rfl); infer_instance; (exact rfl); (first | (with_reducible assumption) | omega | (focus (simp; done)) | (focus (simp; omega; done)) | decide); intro ws _ _))
        go_ret
        exact ⟨rfl, (stepN (w0 := w)).chg⟩
    · go_enter Try.func3, Try.ntmps3
      go_wp2_with (first | go_skip | ((with_reducible apply (wpl_alloc (dst := some 5))); intro y5 wy5 _ _ _) | ((with_reducible apply (wpl_box_agg (dst := some 5))); (exact rfl); intro y5 wy5 _ _ _) | ((with_reducible apply (wpl_box_int (dst := some 5))); (exact rfl); intro y5 wy5 _ _ _) | ((with_reducible apply (wpl_box_slice (dst := some 5))); (exact rfl); intro y5 wy5 _ _ _) | ((with_reducible apply (wpl_box_str (dst := some 5))); (exact rfl); intro y5 wy5 _ _ _) | ((with_reducible apply (wpl_box_bool (dst := some 5))); (exact rfl); intro y5 wy5 _ _ _) | ((with_reducible apply (wpl_box_ptr (dst := some 5))); (exact rfl); intro y5 wy5 _ _ _) | ((with_reducible apply wpl_alloc); intro z wz _ _ _) | ((with_reducible apply wpl_box_agg); (exact rfl); intro z wz _ _ _) | ((with_reducible apply wpl_box_int); (exact rfl); intro z wz _ _ _) | ((with_reducible apply wpl_box_slice); (exact rfl); intro z wz _ _ _) | ((with_reducible apply wpl_box_str); (exact rfl); intro z wz _ _ _) | ((with_reducible apply wpl_box_bool); (exact rfl); intro z wz _ _ _) | ((with_reducible apply wpl_box_ptr); (exact rfl); intro z wz _ _ _) | ((with_reducible apply (wpl_guard (op := .load _ _))); (exact rfl)) | ((with_reducible apply (wpl_guard (op := .fieldAddr _ _ _))); (exact rfl)) | ((with_reducible apply wpl_loadrow); (exact rfl); infer_instance; infer_instance; (first | (with_reducible assumption) | (with_reducible exact H32.size _) | (with_reducible exact enc_sz _ rfl) | kernel_rfl)) | ((with_reducible apply wpl_loadcellN); (exact rfl); infer_instance; (exact rfl)) | ((with_reducible apply wpl_storerow); (exact rfl); (exact rfl); infer_instance; infer_instance; (first | (with_reducible assumption) | (with_reducible exact H32.size _) | (with_reducible exact enc_sz _ rfl) | kernel_rfl); (first | (with_reducible assumption) | (with_reducible exact H32.size _) | (with_reducible exact enc_sz _ rfl) | kernel_rfl); (first | (with_reducible exact u8s_one _) | (with_reducible assumption) | (with_reducible exact enc_one _) | kernel_rfl); intro ws _ _) | ((with_reducible apply wpl_storecell); (exact rfl); (exact rfl); infer_instance; (exact rfl); (first | (with_reducible assumption) | omega | (focus (simp; done)) | (focus (simp; omega; done)) | decide); intro ws _ _))
      go_ret
      exact ⟨rfl, (stepN (w0 := w)).chg⟩
  · go_enter Try.func3, Try.ntmps3
    go_wp2_with (first | go_skip | ((with_reducible apply (wpl_alloc (dst := some 5))); intro y5 wy5 _ _ _) | ((with_reducible apply (wpl_box_agg (dst := some 5))); (exact rfl); intro y5 wy5 _ _ _) | ((with_reducible apply (wpl_box_int (dst := some 5))); (exact rfl); intro y5 wy5 _ _ _) | ((with_reducible apply (wpl_box_slice (dst := some 5))); (exact rfl); intro y5 wy5 _ _ _) | ((with_reducible apply (wpl_box_str (dst := some 5))); (exact rfl); intro y5 wy5 _ _ _) | ((with_reducible apply (wpl_box_bool (dst := some 5))); (exact rfl); intro y5 wy5 _ _ _) | ((with_reducible apply (wpl_box_ptr (dst := some 5))); (exact rfl); intro y5 wy5 _ _ _) | ((with_reducible apply wpl_alloc); intro z wz _ _ _) | ((with_reducible apply wpl_box_agg); (exact rfl); intro z wz _ _ _) | ((with_reducible apply wpl_box_int); (exact rfl); intro z wz _ _ _) | ((with_reducible apply wpl_box_slice); (exact rfl); intro z wz _ _ _) | ((with_reducible apply wpl_box_str); (exact rfl); intro z wz _ _ _) | ((with_reducible apply wpl_box_bool); (exact rfl); intro z wz _ _ _) | ((with_reducible apply wpl_box_ptr); (exact rfl); intro z wz _ _ _) | ((with_reducible apply (wpl_guard (op := .load _ _))); (exact rfl)) | ((with_reducible apply (wpl_guard (op := .fieldAddr _ _ _))); (exact rfl)) | ((with_reducible apply wpl_loadrow); (exact rfl); infer_instance; infer_instance; (first | (with_reducible assumption) | (with_reducible exact H32.size _) | (with_reducible exact enc_sz _ rfl) | kernel_rfl)) | ((with_reducible apply wpl_loadcellN); (exact rfl); infer_instance; (exact rfl)) | ((with_reducible apply wpl_storerow); (exact rfl); (exact rfl); infer_instance; infer_instance; (first | (with_reducible assumption) | (with_reducible exact H32.size _) | (with_reducible exact enc_sz _ rfl) | kernel_rfl); (first | (with_reducible assumption) | (with_reducible exact H32.size _) | (with_reducible exact enc_sz _ rfl) | kernel_rfl); (first | (with_reducible exact u8s_one _) | (with_reducible assumption) | (with_reducible exact enc_one _) | kernel_rfl); intro ws _ _) | ((with_reducible apply wpl_storecell); (exact rfl); (exact rfl); infer_instance; (exact rfl); (first | (with_reducible assumption) | omega | (focus (simp; done)) | (focus (simp; omega; done)) | decide); intro ws _ _))
    go_ret
    exact ⟨rfl, (stepN (w0 := w)).chg⟩
end Go.Proofs.Ytcgbgeheiklhhaa
