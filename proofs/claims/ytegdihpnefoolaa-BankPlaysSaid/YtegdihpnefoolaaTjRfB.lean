/- RfB -/
import Derived.Test.YtegdihpnefoolaaTjRfA
open Go Go.RowKit
namespace Go.Proofs.Ytegdihpnefoolaa
section
variable {P : Program} {ops : Array Oper} {rest : List Oper} {a : Act} {w : World} {Q : Exit → Act → World → Prop} {dst : Option Tmp} {ty : TypeId} {pos : String} {after : Array Edge}
theorem bs_setB {d : List UInt8} {k : Nat} {v : Int} (hk : k < d.length) (hv : 0 ≤ v ∧ v < 256) : (bs d).take k ++ [Value.int .u8 v] ++ (bs d).drop (k + 1) = bs (d.set k (b8 v)) := by
  have hs1 : (bs d).take k ++ [Value.int .u8 v] ++ (bs d).drop (k + 1) = (bs d).set k (.int .u8 v) := by
    rw [List.set_eq_take_append_cons_drop, if_pos (by rw [bs_length]; exact hk)]
    simp
  rw [hs1]
  have := b8_in hv.1 hv.2
  rw [bs, bs, List.map_set]
  congr 1
  rw [u8v, ← this]
/-- a byte of a row of the call's own written -/
theorem wpl_storeB {t : TypeId} {x y : Operand} {A : Option Addr} {k : Nat} {v : Int} (hx : a.eval x = ptrOf A k) (hy : a.eval y = .int .u8 v) {e : TypeId} {n c : Nat} {d : List UInt8} (ho : HO w e 1 A n c (bs d)) [ht : CellT P t] (hk : k < d.length) (hv : 0 ≤ v ∧ v < 256)
    (h : ∀ w', Step (rowOf A) w w' → HO w' e 1 A n c (bs (d.set k (b8 v))) → wpList P ops Q rest (a.put dst undef) w') : wpList P ops Q (⟨dst, .store t x y, ty, pos, after, none⟩ :: rest) a w := by
  obtain ⟨g, hA, h1, h2, h3⟩ := own_setCells ho.out (k := k) (cs := [.int .u8 v]) (m := 1) rfl (by rw [bs_length]; omega) (by decide)
  refine wpl_of_unit rfl (w' := w.setCells g k [.int .u8 v]) ?_ (h _ ⟨h3⟩ ⟨?_⟩)
  · have hc := h1 0 (by decide)
    have hst := run_store P w ⟨g, k, none⟩ (.int .u8 v) .plain rfl
    rw [Nat.add_zero] at hc
    obtain ⟨u, hu⟩ := Option.isSome_iff_exists.1 hc.1
    rw [hu, hc.2] at hst
    show ((Instr.storeAt t (a.eval x) (a.eval y)) >>= fun _ => pure Next.skip).run P w = _
    rw [hx, hy, hA]
    simp [Instr.storeAt, Instr.sureAddr, ptrOf, shift_some, add_row, storeVar, Value.cells, ht.size1 w, storeCells, add_zero_spot, hst, World.setCells]
  · rw [← bs_setB hk hv]
    exact h2
end
def RFS.pageN (s : RFS) (j : Nat) : List UInt8 := s.pgs.getD j []
/-- an act on a page of the reference's flash -/
def RFS.act (s : RFS) (i : Int) (m : Nat) (f : List UInt8 → Nat → List UInt8) : Nat × RFS :=
  if s.off = true then (11, s) else if i < 0 ∨ (s.pgs.length : Int) ≤ i ∨ 64 < m then (1, s)
  else (s.burn.2.1, { s.burn.2.2 with pgs := s.pgs.set i.toNat (f (s.pageN i.toNat) (min m s.burn.1)) })
def erF : List UInt8 → Nat → List UInt8 := fun pg k => List.replicate k 255 ++ pg.drop k
def prF (b : List UInt8) : List UInt8 → Nat → List UInt8 := fun pg k => fall (pg.take k) (b.take k) ++ pg.drop k
theorem burn_pgs (s : RFS) : s.burn.2.2.pgs = s.pgs := by
  unfold RFS.burn
  split
  · rfl
  · split <;> rfl
theorem burn_le (s : RFS) (h : s.tear ≤ 64) : s.burn.1 ≤ 64 := by
  unfold RFS.burn
  split
  · exact h
  · split <;> exact Nat.le_refl _
theorem erF_step {pg : List UInt8} {k : Nat} (h : k < pg.length) : (erF pg k).set k 255 = erF pg (k + 1) := by
  unfold erF
  rw [List.set_append_right _ _ (by simp), List.length_replicate, Nat.sub_self, List.drop_eq_getElem_cons h, sC, List.replicate_succ', List.append_assoc]
  rfl
theorem prF_get {b pg : List UInt8} {k : Nat} (h : k < pg.length) (hb : k ≤ b.length) : (prF b pg k)[k]? = pg[k]? := by
  unfold prF
  have hl : (fall (pg.take k) (b.take k)).length = k := by simp [fall]; omega
  rw [List.getElem?_append_right (by omega), hl, List.getElem?_drop]
  congr 1
  omega
theorem prF_step {b pg : List UInt8} {k : Nat} (h : k < pg.length) (hb : k < b.length) : (prF b pg k).set k (pg[k] &&& b[k]) = prF b pg (k + 1) := by
  unfold prF
  have hl : (fall (pg.take k) (b.take k)).length = k := by simp [fall]; omega
  have e : fall (pg.take (k + 1)) (b.take (k + 1)) = fall (pg.take k) (b.take k) ++ [pg[k] &&& b[k]] := by
    unfold fall
    rw [List.take_succ_eq_append_getElem h, List.take_succ_eq_append_getElem hb, List.zipWith_append (by simp; omega)]
    rfl
  rw [List.set_append_right _ _ (by omega), hl, Nat.sub_self, List.drop_eq_getElem_cons h, sC, e, List.append_assoc]
  rfl
theorem RF.pgs_len {w : World} {x : Nat} {T : Nat → Prop} {s : RFS} (h : RF w x T s) : s.pgs.length ≤ 256 ∧ s.tear ≤ 64 := by
  obtain ⟨A, n, c, rows, h1, h2, _⟩ := h
  rw [← h2, List.length_map, h1.num]
  exact ⟨h1.most, h1.torn⟩
theorem row_page {rows : List Row} {s : RFS} (h : rows.map Row.p = s.pgs) (j : Nat) (hj : j < rows.length) : (gt rows j).p = s.pageN j := by
  unfold RFS.pageN
  rw [← h]
  simp [gt, List.getD_eq_getElem?_getD, hj]
theorem tab_get {rows : List Row} (j : Nat) (hj : j < rows.length) (h : ∀ r ∈ rows, r.p.length = 64) : (cellsOf rows)[j]? = some (.slice (gt rows j).A 64 (gt rows j).c) := by
  rw [cellsOf_rows, rowsV, List.getElem?_map, List.getElem?_eq_getElem hj]
  have e : gt rows j = rows[j] := by simp [gt, List.getD_eq_getElem?_getD, hj]
  rw [e]
  show some (Value.slice rows[j].A rows[j].p.length rows[j].c) = _
  rw [h _ (List.getElem_mem hj)]
instance : Fact' (([] : List UInt8).length ≤ maxLen) := ⟨Nat.zero_le _⟩
set_option maxRecDepth 100000 in
theorem rfErase_calls {w : World} {x : Nat} {T : Nat → Prop} {s : RFS} (h : RF w x T s) (i : Int) (hlo : -1 ≤ s.left) (hhi : s.left ≤ 9223372036854775807) :
    Calls Try.prog 41 #[.pointer (some ⟨x, 0, none⟩), .int .i64 i] w fun e w' => e = .returned (.int .i64 ((s.act i 64 erF).1 : Int)) ∧ RF w' x T (s.act i 64 erF).2 ∧ Chg T w w' := by
  have h0 := h
  obtain ⟨hn256, ht64⟩ := h.pgs_len
  obtain ⟨A, n, c, rows, h1, h2, h3, h4, h5⟩ := h
  have hb : HB w x 63 _ := ⟨h1.head⟩
  have hl : s.pgs.length = n := by rw [← h2, List.length_map, h1.num]
  rw [hl] at hn256
  have H0 := Lib.hid h0
  clear h0 h1 h2 h4 h5
  obtain ⟨F, hF⟩ : ∃ F, F = s.act i 64 erF := ⟨_, rfl⟩
  rw [← hF]
  cases hoff : s.off
  case true =>
    have hF1 : F = (11, s) := by rw [hF, RFS.act, if_pos hoff]
    clear hF
    rw [hoff] at hb
    subst hF1
    go_enter Try.func41, Try.ntmps41
    go_wp2_with (first | go_skip | ((with_reducible apply (wpl_guard (op := .load _ _))); (exact rfl)) | ((with_reducible apply (wpl_guard (op := .fieldAddr _ _ _))); (exact rfl)) | ((with_reducible apply wpl_loadrow); (exact rfl); infer_instance; infer_instance; (first | (with_reducible assumption) | (with_reducible exact H32.size _) | kernel_rfl)) | ((with_reducible apply wpl_loadcellN); (exact rfl); infer_instance; (exact rfl)) | ((with_reducible apply wpl_storerow); (exact rfl); (exact rfl); infer_instance; infer_instance; (first | (with_reducible assumption) | (with_reducible exact H32.size _) | kernel_rfl); (first | (with_reducible assumption) | (with_reducible exact H32.size _) | kernel_rfl); (first | (with_reducible exact u8s_one _) | (with_reducible assumption) | kernel_rfl); intro ws _ _) | ((with_reducible apply wpl_storecell); (exact rfl); (exact rfl); infer_instance; (exact rfl); (first | (with_reducible assumption) | omega | (focus (simp; done)) | (focus (simp; omega; done)) | decide); intro ws _ _))
    go_ret
    exact ⟨rfl, H0.out, Chg.refl _ _⟩
  case false =>
    rw [hoff] at hb
    by_cases hi : i < 0 ∨ (n : Int) ≤ i
    · have hF1 : F = (1, s) := by
        rw [hF, RFS.act, if_neg (by rw [hoff]; decide), if_pos (by rw [hl]; omega)]
      clear hF
      subst hF1
      by_cases hi0 : i < 0
      · go_enter Try.func41, Try.ntmps41
        go_wp2_with (first | go_skip | ((with_reducible apply (wpl_guard (op := .load _ _))); (exact rfl)) | ((with_reducible apply (wpl_guard (op := .fieldAddr _ _ _))); (exact rfl)) | ((with_reducible apply wpl_loadrow); (exact rfl); infer_instance; infer_instance; (first | (with_reducible assumption) | (with_reducible exact H32.size _) | kernel_rfl)) | ((with_reducible apply wpl_loadcellN); (exact rfl); infer_instance; (exact rfl)) | ((with_reducible apply wpl_storerow); (exact rfl); (exact rfl); infer_instance; infer_instance; (first | (with_reducible assumption) | (with_reducible exact H32.size _) | kernel_rfl); (first | (with_reducible assumption) | (with_reducible exact H32.size _) | kernel_rfl); (first | (with_reducible exact u8s_one _) | (with_reducible assumption) | kernel_rfl); intro ws _ _) | ((with_reducible apply wpl_storecell); (exact rfl); (exact rfl); infer_instance; (exact rfl); (first | (with_reducible assumption) | omega | (focus (simp; done)) | (focus (simp; omega; done)) | decide); intro ws _ _))
        go_ret
        exact ⟨rfl, H0.out, Chg.refl _ _⟩
      · have hi1 : (n : Int) ≤ i := by omega
        go_enter Try.func41, Try.ntmps41
        go_wp2_with (first | go_skip | ((with_reducible apply (wpl_guard (op := .load _ _))); (exact rfl)) | ((with_reducible apply (wpl_guard (op := .fieldAddr _ _ _))); (exact rfl)) | ((with_reducible apply wpl_loadrow); (exact rfl); infer_instance; infer_instance; (first | (with_reducible assumption) | (with_reducible exact H32.size _) | kernel_rfl)) | ((with_reducible apply wpl_loadcellN); (exact rfl); infer_instance; (exact rfl)) | ((with_reducible apply wpl_storerow); (exact rfl); (exact rfl); infer_instance; infer_instance; (first | (with_reducible assumption) | (with_reducible exact H32.size _) | kernel_rfl); (first | (with_reducible assumption) | (with_reducible exact H32.size _) | kernel_rfl); (first | (with_reducible exact u8s_one _) | (with_reducible assumption) | kernel_rfl); intro ws _ _) | ((with_reducible apply wpl_storecell); (exact rfl); (exact rfl); infer_instance; (exact rfl); (first | (with_reducible assumption) | omega | (focus (simp; done)) | (focus (simp; omega; done)) | decide); intro ws _ _))
        go_ret
        exact ⟨rfl, H0.out, Chg.refl _ _⟩
    · have hi0 : ¬ i < 0 := fun h => hi (.inl h)
      have hi1 : ¬ (n : Int) ≤ i := fun h => hi (.inr h)
      obtain ⟨j, rfl⟩ := Int.eq_ofNat_of_zero_le (show 0 ≤ i by omega)
      have hj : j < n := by omega
      have hi2 : (j : Int) < n := by omega
      obtain ⟨m, hm⟩ : ∃ m, m = s.burn.1 := ⟨_, rfl⟩
      have hm64 : m ≤ 64 := by rw [hm]; exact burn_le s ht64
      have hF1 : F = (s.burn.2.1, { s.burn.2.2 with pgs := s.pgs.set j (erF (s.pageN j) m) }) := by
        rw [hF, RFS.act, if_neg (by rw [hoff]; decide), if_neg (by rw [hl]; omega), show ((j : Int)).toNat = j from rfl, ← hm, Nat.min_eq_right hm64]
      have HF := Lib.hid hF1
      have HMB := Lib.hid hm
      clear hF hF1 hm hi
      go_enter Try.func41, Try.ntmps41
      go_wp2_with (first | go_skip | ((with_reducible apply (wpl_guard (op := .load _ _))); (exact rfl)) | ((with_reducible apply (wpl_guard (op := .fieldAddr _ _ _))); (exact rfl)) | ((with_reducible apply wpl_loadrow); (exact rfl); infer_instance; infer_instance; (first | (with_reducible assumption) | (with_reducible exact H32.size _) | kernel_rfl)) | ((with_reducible apply wpl_loadcellN); (exact rfl); infer_instance; (exact rfl)) | ((with_reducible apply wpl_storerow); (exact rfl); (exact rfl); infer_instance; infer_instance; (first | (with_reducible assumption) | (with_reducible exact H32.size _) | kernel_rfl); (first | (with_reducible assumption) | (with_reducible exact H32.size _) | kernel_rfl); (first | (with_reducible exact u8s_one _) | (with_reducible assumption) | kernel_rfl); intro ws _ _) | ((with_reducible apply wpl_storecell); (exact rfl); (exact rfl); infer_instance; (exact rfl); (first | (with_reducible assumption) | omega | (focus (simp; done)) | (focus (simp; omega; done)) | decide); intro ws _ _))
      refine (rfBurn_calls H0.out hlo hhi).mono ?_
      rw [← HMB.out]
      obtain ⟨g, hg⟩ : ∃ g, g = s.burn.2.1 := ⟨_, rfl⟩
      have HG := Lib.hid hg
      rw [← HG.out]
      rintro e w1 ⟨rfl, hrf, hc1⟩
      have HC1 := Lib.hid hc1
      obtain ⟨A1, n1, c1, rows1, h1, h2, h3', h4, h5⟩ := hrf
      have hn1 : n1 = n := by
        rw [← h1.num, ← hl, ← burn_pgs s, ← h2, List.length_map]
      subst hn1
      have hP : (gt rows1 j).p = s.pageN j := by
        rw [row_page h2 j (by rw [h1.num]; exact hj)]
        show s.burn.2.2.pgs.getD j [] = s.pgs.getD j []
        rw [burn_pgs]
      have hjr : j < rows1.length := by rw [h1.num]; exact hj
      have hmm := gt_mem rows1 j hjr
      have hvt := tab_get j hjr h1.len
      have hbx : HB w1 x 63 _ := ⟨h1.head⟩
      have htb : HO w1 22 1 A1 n1 c1 (cellsOf rows1) := ⟨h1.tab⟩
      have hlt : 0 < (cellsOf rows1).length := by rw [cellsOf_rows, rowsV, List.length_map]; omega
      have hlen := h1.len _ hmm
      have hpg : HO w1 5 1 (gt rows1 j).A 64 (gt rows1 j).c (bs (gt rows1 j).p) := ⟨h1.each _ hmm⟩
      have ox : OffB (rowOf (gt rows1 j).A) x := h1.rowx _ hmm
      have ot : OffA (rowOf (gt rows1 j).A) A1 := h1.rowt _ hmm
      rw [hP] at hlen hpg
      have HR1 : Hid (∀ (w' : World) (p : List UInt8), p.length = 64 → Chg (rowOf (gt rows1 j).A) w1 w' → Own w' 5 1 (gt rows1 j).A 64 (gt rows1 j).c (bs p) → RF w' x T ⟨s.pgs.set j p, s.burn.2.2.left, s.burn.2.2.tear, s.burn.2.2.off⟩ ∧ Chg T w1 w') := Lib.hid (fun w' p hp hc hh => RF.setPage h1 (by rw [h2, burn_pgs]) h3' h4 h5 hj hp hc hh)
      obtain ⟨R, hR⟩ : ∃ R, R = (gt rows1 j).A := ⟨_, rfl⟩
      obtain ⟨rc, hrc⟩ : ∃ R, R = (gt rows1 j).c := ⟨_, rfl⟩
      obtain ⟨pg, hpgE⟩ : ∃ R, R = s.pageN j := ⟨_, rfl⟩
      rw [← hR, ← hrc] at hvt
      rw [← hR, ← hrc] at HR1
      rw [← hR, ← hrc, ← hpgE] at hpg
      rw [← hR] at ox ot
      rw [← hpgE] at hlen
      have HPG := Lib.hid hpgE
      clear h1 h2 h4 h5 hl hR hrc hpgE hP hmm hjr hc1 hg
      go_wp2_with (first | go_skip | ((with_reducible apply (wpl_guard (op := .load _ _))); (exact rfl)) | ((with_reducible apply (wpl_guard (op := .fieldAddr _ _ _))); (exact rfl)) | ((with_reducible apply wpl_loadrow); (exact rfl); infer_instance; infer_instance; (first | (with_reducible assumption) | (with_reducible exact H32.size _) | kernel_rfl)) | ((with_reducible apply wpl_loadcellN); (exact rfl); infer_instance; (exact rfl)) | ((with_reducible apply wpl_storerow); (exact rfl); (exact rfl); infer_instance; infer_instance; (first | (with_reducible assumption) | (with_reducible exact H32.size _) | kernel_rfl); (first | (with_reducible assumption) | (with_reducible exact H32.size _) | kernel_rfl); (first | (with_reducible exact u8s_one _) | (with_reducible assumption) | kernel_rfl); intro ws _ _) | ((with_reducible apply wpl_storecell); (exact rfl); (exact rfl); infer_instance; (exact rfl); (first | (with_reducible assumption) | omega | (focus (simp; done)) | (focus (simp; omega; done)) | decide); intro ws _ _))
      go_loopw [7] (fun kv wr => ∃ (k : Nat) (d : List UInt8), k ≤ m ∧ kv = .int .i64 (k : Int) ∧ d.length = 64 ∧ Ch (rowOf R) w1 wr ∧ HB wr x 63 #[.slice A1 n1 c1, .int .i64 s.burn.2.2.left, .int .i64 (s.burn.2.2.tear : Int), .bool s.burn.2.2.off] ∧ HO wr 22 1 A1 n1 c1 (cellsOf rows1) ∧ HO wr 5 1 R 64 rc (bs d) ∧ Hid (d = erF pg k)) (fun kv _ => m - (intOf kv).toNat)
      case atStart => exact ⟨0, pg, Nat.zero_le _, rfl, hlen, inferInstance, inferInstance, inferInstance, inferInstance, Lib.hid rfl⟩
      case round =>
        obtain ⟨k, d, hk, rfl, hd, _, _, _, _, HD⟩ := hrel
        by_cases hlt2 : k < m
        · have hltI : (k : Int) < (m : Int) := by omega
          go_wp2_with (first | go_skip | ((with_reducible apply wpl_index1); (exact rfl); (exact rfl); infer_instance; infer_instance; (exact hlt); (exact hj)) | ((with_reducible apply wpl_load1); (exact rfl); infer_instance; infer_instance; (exact hvt)) | ((with_reducible apply wpl_index1); (exact rfl); (exact rfl); infer_instance; infer_instance; (rw [bs_length]; omega); (omega)) | ((with_reducible apply wpl_storeB); (exact rfl); (exact rfl); infer_instance; (omega); (decide); intro wsb _ _) | ((with_reducible apply (wpl_guard (op := .load _ _))); (exact rfl)) | ((with_reducible apply (wpl_guard (op := .fieldAddr _ _ _))); (exact rfl)) | ((with_reducible apply wpl_loadrow); (exact rfl); infer_instance; infer_instance; (first | (with_reducible assumption) | (with_reducible exact H32.size _) | kernel_rfl)) | ((with_reducible apply wpl_loadcellN); (exact rfl); infer_instance; (exact rfl)) | ((with_reducible apply wpl_storerow); (exact rfl); (exact rfl); infer_instance; infer_instance; (first | (with_reducible assumption) | (with_reducible exact H32.size _) | kernel_rfl); (first | (with_reducible assumption) | (with_reducible exact H32.size _) | kernel_rfl); (first | (with_reducible exact u8s_one _) | (with_reducible assumption) | kernel_rfl); intro ws _ _) | ((with_reducible apply wpl_storecell); (exact rfl); (exact rfl); infer_instance; (exact rfl); (first | (with_reducible assumption) | omega | (focus (simp; done)) | (focus (simp; omega; done)) | decide); intro ws _ _))
          have HD2 : Hid (d.set k (b8 255) = erF pg (k + 1)) := Lib.hid (by
            rw [HD.out]
            exact erF_step (by omega))
          refine ⟨⟨k + 1, d.set k (b8 255), by omega, by go_num, by rw [List.length_set]; exact hd, inferInstance, inferInstance, inferInstance, inferInstance, HD2⟩, by simp [intOf]; omega⟩
        · have hkm : ¬ (k : Int) < (m : Int) := by omega
          have hkm2 : k = m := by omega
          go_wp2_with (first | go_skip | ((with_reducible apply (wpl_guard (op := .load _ _))); (exact rfl)) | ((with_reducible apply (wpl_guard (op := .fieldAddr _ _ _))); (exact rfl)) | ((with_reducible apply wpl_loadrow); (exact rfl); infer_instance; infer_instance; (first | (with_reducible assumption) | (with_reducible exact H32.size _) | kernel_rfl)) | ((with_reducible apply wpl_loadcellN); (exact rfl); infer_instance; (exact rfl)) | ((with_reducible apply wpl_storerow); (exact rfl); (exact rfl); infer_instance; infer_instance; (first | (with_reducible assumption) | (with_reducible exact H32.size _) | kernel_rfl); (first | (with_reducible assumption) | (with_reducible exact H32.size _) | kernel_rfl); (first | (with_reducible exact u8s_one _) | (with_reducible assumption) | kernel_rfl); intro ws _ _) | ((with_reducible apply wpl_storecell); (exact rfl); (exact rfl); infer_instance; (exact rfl); (first | (with_reducible assumption) | omega | (focus (simp; done)) | (focus (simp; omega; done)) | decide); intro ws _ _))
          go_ret
          obtain ⟨hf1, hf2⟩ := HR1.out wr d hd (inferInstance : Ch (rowOf R) w1 wr).out (inferInstance : HO wr 5 1 R 64 rc (bs d)).out
          rw [HF.out, HG.out, ← hkm2, ← HPG.out, ← HD.out]
          exact ⟨rfl, hf1, HC1.out.trans hf2 (fun _ _ h => h)⟩
end Go.Proofs.Ytegdihpnefoolaa
