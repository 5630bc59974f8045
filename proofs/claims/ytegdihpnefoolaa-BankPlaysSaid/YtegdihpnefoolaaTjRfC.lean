/- RfC -/
import Derived.Test.YtegdihpnefoolaaTjRfB
open Go Go.RowKit
namespace Go.Proofs.Ytegdihpnefoolaa
section
variable {P : Program} {ops : Array Oper} {rest : List Oper} {a : Act} {w : World} {Q : Exit → Act → World → Prop} {dst : Option Tmp} {ty : TypeId} {pos : String} {after : Array Edge} {gd : Option (Nat × Bool)}
/-- an address within a slice that is somewhere -/
theorem ev_indexN {t : TypeId} {x ix : Operand} {ad : Addr} {n c k : Nat} (hx : a.eval x = .slice (some ad) n c) (hi : a.eval ix = .int .i64 (k : Int)) {e : TypeId} {bytes : Nat} {z : Value} (E : ElemT P t e 1 bytes z) (h1 : k < n) :
    (execOp a.eval ⟨dst, .indexAddr t x ix, ty, pos, after, gd⟩).run P w = .ok (.value (ptrOf (some ad) k)) w := by
  obtain ⟨ti, hti, hz, hsz, hb⟩ := info_parts E.out.info
  show ((Instr.indexAt t (a.eval x) (a.eval ix)) >>= fun v => pure (Next.value v)).run P w = _
  rw [hx, hi]
  simp [Instr.indexAt, asIntOf, run_underlying E.out.under, sizeOf, typeInfo, hti, hsz, h1, ptrOf, shift]
theorem wpl_indexN {t : TypeId} {x ix : Operand} {ad : Addr} {n c k : Nat} (hx : a.eval x = .slice (some ad) n c) (hi : a.eval ix = .int .i64 (k : Int)) {e : TypeId} {bytes : Nat} {z : Value} (E : ElemT P t e 1 bytes z) (h1 : k < n)
    (h : wpList P ops Q rest (a.put dst (ptrOf (some ad) k)) w) : wpList P ops Q (⟨dst, .indexAddr t x ix, ty, pos, after, none⟩ :: rest) a w := wpl_of_run rfl (ev_indexN hx hi E h1) h
end
theorem bs_getq (d : List UInt8) (k : Nat) (h : k < d.length) : (bs d)[k]? = some (.int .u8 ((bget d k).toNat : Int)) := by
  rw [bs, List.getElem?_map, List.getElem?_eq_getElem h, bget, List.getD_eq_getElem?_getD, List.getElem?_eq_getElem h]
  rfl
set_option maxRecDepth 100000 in
theorem rfProgram_calls {w : World} {x : Nat} {T : Nat → Prop} {s : RFS} (h : RF w x T s) (i : Int) {B : Option Addr} {nb cb : Nat} {b : List UInt8} [hbr : HR w B (bs b)] (hbl : b.length = nb) (hB : Apart T B (bs b)) (hnb : nb ≤ 9223372036854775807) (hlo : -1 ≤ s.left) (hhi : s.left ≤ 9223372036854775807) :
    Calls Try.prog 26 #[.pointer (some ⟨x, 0, none⟩), .int .i64 i, .slice B nb cb] w fun e w' => e = .returned (.int .i64 ((s.act i nb (prF b)).1 : Int)) ∧ RF w' x T (s.act i nb (prF b)).2 ∧ Chg T w w' := by
  have h0 := h
  obtain ⟨hn256, ht64⟩ := h.pgs_len
  obtain ⟨A, n, c, rows, h1, h2, h3, h4, h5⟩ := h
  have hb : HB w x 63 _ := ⟨h1.head⟩
  have hl : s.pgs.length = n := by rw [← h2, List.length_map, h1.num]
  rw [hl] at hn256
  have H0 := Lib.hid h0
  clear h0 h1 h2 h4 h5
  obtain ⟨F, hF⟩ : ∃ F, F = s.act i nb (prF b) := ⟨_, rfl⟩
  rw [← hF]
  cases hoff : s.off
  case true =>
    have hF1 : F = (11, s) := by rw [hF, RFS.act, if_pos hoff]
    clear hF
    rw [hoff] at hb
    subst hF1
    go_enter Try.func26, Try.ntmps26
    go_wp2_with (first | go_skip | ((with_reducible apply (wpl_guard (op := .load _ _))); (exact rfl)) | ((with_reducible apply (wpl_guard (op := .fieldAddr _ _ _))); (exact rfl)) | ((with_reducible apply wpl_loadrow); (exact rfl); infer_instance; infer_instance; (first | (with_reducible assumption) | (with_reducible exact H32.size _) | kernel_rfl)) | ((with_reducible apply wpl_loadcellN); (exact rfl); infer_instance; (exact rfl)) | ((with_reducible apply wpl_storerow); (exact rfl); (exact rfl); infer_instance; infer_instance; (first | (with_reducible assumption) | (with_reducible exact H32.size _) | kernel_rfl); (first | (with_reducible assumption) | (with_reducible exact H32.size _) | kernel_rfl); (first | (with_reducible exact u8s_one _) | (with_reducible assumption) | kernel_rfl); intro ws _ _) | ((with_reducible apply wpl_storecell); (exact rfl); (exact rfl); infer_instance; (exact rfl); (first | (with_reducible assumption) | omega | (focus (simp; done)) | (focus (simp; omega; done)) | decide); intro ws _ _))
    go_ret
    exact ⟨rfl, H0.out, Chg.refl _ _⟩
  case false =>
    rw [hoff] at hb
    by_cases hi : i < 0 ∨ (n : Int) ≤ i ∨ 64 < nb
    · have hF1 : F = (1, s) := by
        rw [hF, RFS.act, if_neg (by rw [hoff]; decide), if_pos (by rw [hl]; omega)]
      clear hF
      subst hF1
      by_cases hi0 : i < 0
      · go_enter Try.func26, Try.ntmps26
        go_wp2_with (first | go_skip | ((with_reducible apply (wpl_guard (op := .load _ _))); (exact rfl)) | ((with_reducible apply (wpl_guard (op := .fieldAddr _ _ _))); (exact rfl)) | ((with_reducible apply wpl_loadrow); (exact rfl); infer_instance; infer_instance; (first | (with_reducible assumption) | (with_reducible exact H32.size _) | kernel_rfl)) | ((with_reducible apply wpl_loadcellN); (exact rfl); infer_instance; (exact rfl)) | ((with_reducible apply wpl_storerow); (exact rfl); (exact rfl); infer_instance; infer_instance; (first | (with_reducible assumption) | (with_reducible exact H32.size _) | kernel_rfl); (first | (with_reducible assumption) | (with_reducible exact H32.size _) | kernel_rfl); (first | (with_reducible exact u8s_one _) | (with_reducible assumption) | kernel_rfl); intro ws _ _) | ((with_reducible apply wpl_storecell); (exact rfl); (exact rfl); infer_instance; (exact rfl); (first | (with_reducible assumption) | omega | (focus (simp; done)) | (focus (simp; omega; done)) | decide); intro ws _ _))
        go_ret
        exact ⟨rfl, H0.out, Chg.refl _ _⟩
      · by_cases hi1 : (n : Int) ≤ i
        · go_enter Try.func26, Try.ntmps26
          go_wp2_with (first | go_skip | ((with_reducible apply (wpl_guard (op := .load _ _))); (exact rfl)) | ((with_reducible apply (wpl_guard (op := .fieldAddr _ _ _))); (exact rfl)) | ((with_reducible apply wpl_loadrow); (exact rfl); infer_instance; infer_instance; (first | (with_reducible assumption) | (with_reducible exact H32.size _) | kernel_rfl)) | ((with_reducible apply wpl_loadcellN); (exact rfl); infer_instance; (exact rfl)) | ((with_reducible apply wpl_storerow); (exact rfl); (exact rfl); infer_instance; infer_instance; (first | (with_reducible assumption) | (with_reducible exact H32.size _) | kernel_rfl); (first | (with_reducible assumption) | (with_reducible exact H32.size _) | kernel_rfl); (first | (with_reducible exact u8s_one _) | (with_reducible assumption) | kernel_rfl); intro ws _ _) | ((with_reducible apply wpl_storecell); (exact rfl); (exact rfl); infer_instance; (exact rfl); (first | (with_reducible assumption) | omega | (focus (simp; done)) | (focus (simp; omega; done)) | decide); intro ws _ _))
          go_ret
          exact ⟨rfl, H0.out, Chg.refl _ _⟩
        have hi3 : 64 < (nb : Int) := by omega
        go_enter Try.func26, Try.ntmps26
        go_wp2_with (first | go_skip | ((with_reducible apply (wpl_guard (op := .load _ _))); (exact rfl)) | ((with_reducible apply (wpl_guard (op := .fieldAddr _ _ _))); (exact rfl)) | ((with_reducible apply wpl_loadrow); (exact rfl); infer_instance; infer_instance; (first | (with_reducible assumption) | (with_reducible exact H32.size _) | kernel_rfl)) | ((with_reducible apply wpl_loadcellN); (exact rfl); infer_instance; (exact rfl)) | ((with_reducible apply wpl_storerow); (exact rfl); (exact rfl); infer_instance; infer_instance; (first | (with_reducible assumption) | (with_reducible exact H32.size _) | kernel_rfl); (first | (with_reducible assumption) | (with_reducible exact H32.size _) | kernel_rfl); (first | (with_reducible exact u8s_one _) | (with_reducible assumption) | kernel_rfl); intro ws _ _) | ((with_reducible apply wpl_storecell); (exact rfl); (exact rfl); infer_instance; (exact rfl); (first | (with_reducible assumption) | omega | (focus (simp; done)) | (focus (simp; omega; done)) | decide); intro ws _ _))
        go_ret
        exact ⟨rfl, H0.out, Chg.refl _ _⟩
    · have hi0 : ¬ i < 0 := fun h => hi (.inl h)
      have hi1 : ¬ (n : Int) ≤ i := fun h => hi (.inr (.inl h))
      have hi3 : ¬ 64 < nb := fun h => hi (.inr (.inr h))
      have hi4 : ¬ 64 < (nb : Int) := by omega
      obtain ⟨j, rfl⟩ := Int.eq_ofNat_of_zero_le (show 0 ≤ i by omega)
      have hj : j < n := by omega
      have hi2 : (j : Int) < n := by omega
      obtain ⟨q, hq⟩ : ∃ m, m = s.burn.1 := ⟨_, rfl⟩
      have hq64 : q ≤ 64 := by rw [hq]; exact burn_le s ht64
      obtain ⟨m, hm⟩ : ∃ m, m = min nb q := ⟨_, rfl⟩
      have hmq : m ≤ q := by omega
      have hmnb : m ≤ nb := by omega
      have hmo : nb ≤ m ∨ q ≤ m := by omega
      have hF1 : F = (s.burn.2.1, { s.burn.2.2 with pgs := s.pgs.set j (prF b (s.pageN j) m) }) := by
        rw [hF, RFS.act, if_neg (by rw [hoff]; decide), if_neg (by rw [hl]; omega), show ((j : Int)).toNat = j from rfl, ← hq, ← hm]
      have HF := Lib.hid hF1
      have HMB := Lib.hid hq
      have HBL := Lib.hid hbl
      clear hF hF1 hm hq hi hbl
      go_enter Try.func26, Try.ntmps26
      go_wp2_with (first | go_skip | ((with_reducible apply (wpl_guard (op := .load _ _))); (exact rfl)) | ((with_reducible apply (wpl_guard (op := .fieldAddr _ _ _))); (exact rfl)) | ((with_reducible apply wpl_loadrow); (exact rfl); infer_instance; infer_instance; (first | (with_reducible assumption) | (with_reducible exact H32.size _) | kernel_rfl)) | ((with_reducible apply wpl_loadcellN); (exact rfl); infer_instance; (exact rfl)) | ((with_reducible apply wpl_storerow); (exact rfl); (exact rfl); infer_instance; infer_instance; (first | (with_reducible assumption) | (with_reducible exact H32.size _) | kernel_rfl); (first | (with_reducible assumption) | (with_reducible exact H32.size _) | kernel_rfl); (first | (with_reducible exact u8s_one _) | (with_reducible assumption) | kernel_rfl); intro ws _ _) | ((with_reducible apply wpl_storecell); (exact rfl); (exact rfl); infer_instance; (exact rfl); (first | (with_reducible assumption) | omega | (focus (simp; done)) | (focus (simp; omega; done)) | decide); intro ws _ _))
      refine (rfBurn_calls H0.out hlo hhi).mono ?_
      rw [← HMB.out]
      obtain ⟨g, hg⟩ : ∃ g, g = s.burn.2.1 := ⟨_, rfl⟩
      have HG := Lib.hid hg
      rw [← HG.out]
      rintro e w1 ⟨rfl, hrf, hc1⟩
      have HC1 := Lib.hid hc1
      obtain ⟨A1, n1, c1, rows1, h1, h2, h3', h4, h5⟩ := hrf
      have hn1 : n1 = n := by
        rw [← h1.num, ← hl, ← burn_pgs s, ← h2, List.length_map]
      subst hn1
      have hP : (gt rows1 j).p = s.pageN j := by
        rw [row_page h2 j (by rw [h1.num]; exact hj)]
        show s.burn.2.2.pgs.getD j [] = s.pgs.getD j []
        rw [burn_pgs]
      have hjr : j < rows1.length := by rw [h1.num]; exact hj
      have hmm := gt_mem rows1 j hjr
      have hvt := tab_get j hjr h1.len
      have hbx : HB w1 x 63 _ := ⟨h1.head⟩
      have htb : HO w1 22 1 A1 n1 c1 (cellsOf rows1) := ⟨h1.tab⟩
      have hlt : 0 < (cellsOf rows1).length := by rw [cellsOf_rows, rowsV, List.length_map]; omega
      have hlen := h1.len _ hmm
      have hpg : HO w1 5 1 (gt rows1 j).A 64 (gt rows1 j).c (bs (gt rows1 j).p) := ⟨h1.each _ hmm⟩
      have ox : OffB (rowOf (gt rows1 j).A) x := h1.rowx _ hmm
      have ot : OffA (rowOf (gt rows1 j).A) A1 := h1.rowt _ hmm
      rw [hP] at hlen hpg
      have HR1 : Hid (∀ (w' : World) (p : List UInt8), p.length = 64 → Chg (rowOf (gt rows1 j).A) w1 w' → Own w' 5 1 (gt rows1 j).A 64 (gt rows1 j).c (bs p) → RF w' x T ⟨s.pgs.set j p, s.burn.2.2.left, s.burn.2.2.tear, s.burn.2.2.off⟩ ∧ Chg T w1 w') := Lib.hid (fun w' p hp hc hh => RF.setPage h1 (by rw [h2, burn_pgs]) h3' h4 h5 hj hp hc hh)
      obtain ⟨R, hR⟩ : ∃ R, R = (gt rows1 j).A := ⟨_, rfl⟩
      obtain ⟨rc, hrc⟩ : ∃ R, R = (gt rows1 j).c := ⟨_, rfl⟩
      obtain ⟨pg, hpgE⟩ : ∃ R, R = s.pageN j := ⟨_, rfl⟩
      rw [← hR, ← hrc] at hvt
      rw [← hR, ← hrc] at HR1
      rw [← hR, ← hrc, ← hpgE] at hpg
      rw [← hR] at ox ot
      rw [← hpgE] at hlen
      have HPG := Lib.hid hpgE
      obtain ⟨ra, hra⟩ : ∃ ra, R = some ra := by
        rcases hpg.out.form with ⟨_, h, _⟩ | ⟨g, _, h, _⟩
        · omega
        · exact ⟨_, h⟩
      have hbr1 : HR w1 B (bs b) := ⟨hbr.out.chg hc1 hB⟩
      have oB : OffR (rowOf R) B (bs b) := ⟨fun hne ad e hk => hB hne ad e (h5 _ hmm _ (by rw [← hR]; exact hk))⟩
      clear h1 h2 h4 h5 hl hR hrc hpgE hP hmm hjr hc1 hg
      subst hra
      go_wp2_with (first | go_skip | ((with_reducible apply (wpl_guard (op := .load _ _))); (exact rfl)) | ((with_reducible apply (wpl_guard (op := .fieldAddr _ _ _))); (exact rfl)) | ((with_reducible apply wpl_loadrow); (exact rfl); infer_instance; infer_instance; (first | (with_reducible assumption) | (with_reducible exact H32.size _) | kernel_rfl)) | ((with_reducible apply wpl_loadcellN); (exact rfl); infer_instance; (exact rfl)) | ((with_reducible apply wpl_storerow); (exact rfl); (exact rfl); infer_instance; infer_instance; (first | (with_reducible assumption) | (with_reducible exact H32.size _) | kernel_rfl); (first | (with_reducible assumption) | (with_reducible exact H32.size _) | kernel_rfl); (first | (with_reducible exact u8s_one _) | (with_reducible assumption) | kernel_rfl); intro ws _ _) | ((with_reducible apply wpl_storecell); (exact rfl); (exact rfl); infer_instance; (exact rfl); (first | (with_reducible assumption) | omega | (focus (simp; done)) | (focus (simp; omega; done)) | decide); intro ws _ _))
      go_loopw [9] (fun kv wr => ∃ (k : Nat) (d : List UInt8), k ≤ m ∧ kv = .int .i64 (k : Int) ∧ d.length = 64 ∧ Ch (rowOf (some ra)) w1 wr ∧ HB wr x 63 #[.slice A1 n1 c1, .int .i64 s.burn.2.2.left, .int .i64 (s.burn.2.2.tear : Int), .bool s.burn.2.2.off] ∧ HO wr 22 1 A1 n1 c1 (cellsOf rows1) ∧ HO wr 5 1 (some ra) 64 rc (bs d) ∧ HR wr B (bs b) ∧ Hid (d = prF b pg k)) (fun kv _ => m - (intOf kv).toNat)
      case atStart => exact ⟨0, pg, Nat.zero_le _, rfl, hlen, inferInstance, inferInstance, inferInstance, inferInstance, inferInstance, Lib.hid rfl⟩
      case round =>
        obtain ⟨k, d, hk, rfl, hd, _, _, _, _, _, HD⟩ := hrel
        by_cases hlt2 : k < m
        · have hltI : (k : Int) < (m : Int) := by omega
          have hkq : (k : Int) < (q : Int) := by omega
          have hknb : (k : Int) < (nb : Int) := by omega
          have hkn : k < nb := by omega
          have hbl2 : k < b.length := by rw [HBL.out]; exact hkn
          have hbl0 : 0 < (bs b).length := by rw [bs_length]; omega
          have hd0 : 0 < (bs d).length := by rw [bs_length]; omega
          have hk64 : k < 64 := by omega
          have hvd : (bs d)[k]? = some (.int .u8 ((bget d k).toNat : Int)) := by
            exact bs_getq d k (by omega)
          have hvb : (bs b)[k]? = some (.int .u8 ((bget b k).toNat : Int)) := by
            exact bs_getq b k hbl2
          obtain ⟨u, hu⟩ : ∃ u, u = bget d k := ⟨_, rfl⟩
          obtain ⟨v, hv⟩ : ∃ v, v = bget b k := ⟨_, rfl⟩
          rw [← hu] at hvd
          rw [← hv] at hvb
          obtain ⟨y, hy⟩ : ∃ y, y = u &&& v := ⟨_, rfl⟩
          have HAND : Hid (bits .and .u8 (u.toNat : Int) (v.toNat : Int) = (y.toNat : Int)) := Lib.hid (by rw [hy]; exact u8_and_eq u v)
          have hy0 : (0 : Int) ≤ (y.toNat : Int) := by omega
          have hy8 : (y.toNat : Int) < 256 := by have := y.toNat_lt; omega
          have HD2 : Hid (d.set k (b8 (y.toNat : Int)) = prF b pg (k + 1)) := Lib.hid (by
            rw [b8_self, hy, hu, hv, HD.out]
            have hkp : k < pg.length := by omega
            have e1 : bget (prF b pg k) k = pg[k] := by
              have := prF_get (b := b) (k := k) hkp (by omega)
              rw [bget, List.getD_eq_getElem?_getD, this, List.getElem?_eq_getElem hkp]
              rfl
            have e2 : bget b k = b[k] := by
              rw [bget, List.getD_eq_getElem?_getD, List.getElem?_eq_getElem hbl2]
              rfl
            rw [e1, e2]
            exact prF_step hkp hbl2)
          have HU := Lib.hid hu
          have HV := Lib.hid hv
          have HY := Lib.hid hy
          clear hu hv hy
          go_wp2_with (first | go_skip | ((with_reducible apply (wpl_guard (op := .load _ _))); (exact rfl)) | ((with_reducible apply (wpl_guard (op := .fieldAddr _ _ _))); (exact rfl)) | ((with_reducible apply wpl_loadrow); (exact rfl); infer_instance; infer_instance; (first | (with_reducible assumption) | (with_reducible exact H32.size _) | kernel_rfl)) | ((with_reducible apply wpl_loadcellN); (exact rfl); infer_instance; (exact rfl)) | ((with_reducible apply wpl_storerow); (exact rfl); (exact rfl); infer_instance; infer_instance; (first | (with_reducible assumption) | (with_reducible exact H32.size _) | kernel_rfl); (first | (with_reducible assumption) | (with_reducible exact H32.size _) | kernel_rfl); (first | (with_reducible exact u8s_one _) | (with_reducible assumption) | kernel_rfl); intro ws _ _) | ((with_reducible apply wpl_storecell); (exact rfl); (exact rfl); infer_instance; (exact rfl); (first | (with_reducible assumption) | omega | (focus (simp; done)) | (focus (simp; omega; done)) | decide); intro ws _ _))
          refine wp_region_N ((rowOf (some ra))) (by kernel_rfl) (fun wd _ _ => ?_)
          refine' takeH (i := 0) (v := _) rfl (by kernel_rfl) (by kernel_rfl) (by kernel_rfl) (fun _ _ _ h => h) (yields_of (by rfl) (fun w' _ => ?_)) inferInstance ?_
          rotate_left
          · (go_simp; try with_reducible rfl)
          try simp only [Act.put, sA]; try simp only [sB, sC]
          refine' takeH (i := 1) (v := _) rfl (by kernel_rfl) (by kernel_rfl) (by kernel_rfl) (fun _ _ _ h => h) (yields_of (by rfl) (fun w' _ => ?_)) inferInstance ?_
          rotate_left
          · (go_simp; try with_reducible rfl)
          try simp only [Act.put, sA]; try simp only [sB, sC]
          refine' takeH (i := 2) (v := _) rfl (by kernel_rfl) (by kernel_rfl) (by kernel_rfl) (fun _ _ _ h => h) (yields_of (by rfl) (fun w' _ => ?_)) inferInstance ?_
          rotate_left
          · (go_simp; try with_reducible rfl)
          try simp only [Act.put, sA]; try simp only [sB, sC]
          refine' takeH (i := 3) (v := _) rfl (by kernel_rfl) (by kernel_rfl) (by kernel_rfl) (fun _ _ _ h => h) (yields_of (by rfl) (fun w' _ => ?_)) inferInstance ?_
          rotate_left
          · (first | ((with_reducible apply ev_load1); (exact rfl); infer_instance; infer_instance; (exact hvt)) | ((with_reducible apply ev_load1); (exact rfl); infer_instance; infer_instance; (exact hvb)) | ((with_reducible apply ev_loadrow); (exact rfl); infer_instance; infer_instance; (first | (with_reducible assumption) | (with_reducible exact H32.size _) | kernel_rfl)) | ((with_reducible apply (ev_loadhash (t := 52))); (exact rfl); infer_instance; infer_instance; (first | (with_reducible assumption) | omega)) | ((with_reducible apply ev_loadcellN); (exact rfl); infer_instance; infer_instance; (exact rfl)) | ((with_reducible apply (ev_loadint (t := 3))); (exact rfl); infer_instance; infer_instance; (first | (with_reducible assumption) | omega)) | ((with_reducible apply (ev_loadbyte (t := 5))); (exact rfl); infer_instance; infer_instance; (first | (with_reducible assumption) | omega)) | (go_simp; try with_reducible rfl))
          try simp only [Act.put, sA]; try simp only [sB, sC]
          refine' takeH (i := 4) (v := _) rfl (by kernel_rfl) (by kernel_rfl) (by kernel_rfl) (fun _ _ _ h => h) (yields_of (by rfl) (fun w' _ => ?_)) inferInstance ?_
          rotate_left
          · (go_simp; try with_reducible rfl)
          try simp only [Act.put, sA]; try simp only [sB, sC]
          refine' takeH (i := 5) (v := _) rfl (by kernel_rfl) (by kernel_rfl) (by kernel_rfl) (fun _ _ _ h => h) (yields_of (by rfl) (fun w' _ => ?_)) inferInstance ?_
          rotate_left
          · (first | ((with_reducible apply ev_index1); (exact rfl); (exact rfl); infer_instance; infer_instance; (exact hlt); (exact hj)) | ((with_reducible apply ev_indexN); (exact rfl); (exact rfl); infer_instance; (exact hk64)) | ((with_reducible apply ev_index1); (exact rfl); (exact rfl); infer_instance; infer_instance; (exact hbl0); (exact hkn)) | ((with_reducible apply ev_indexH'); (exact rfl); (exact rfl); infer_instance; infer_instance; (first | (with_reducible assumption) | omega); (first | (with_reducible assumption) | omega); (first | (with_reducible assumption) | omega)) | ((with_reducible apply ev_indexH); (exact rfl); (exact rfl); infer_instance; infer_instance; (first | (with_reducible assumption) | omega); (first | (with_reducible assumption) | omega)) | (go_simp; try with_reducible rfl))
          try simp only [Act.put, sA]; try simp only [sB, sC]
          refine' takeH (i := 6) (v := _) rfl (by kernel_rfl) (by kernel_rfl) (by kernel_rfl) (fun _ _ _ h => h) (yields_of (by rfl) (fun w' _ => ?_)) inferInstance ?_
          rotate_left
          · (first | ((with_reducible apply ev_load1); (exact rfl); infer_instance; infer_instance; (exact hvt)) | ((with_reducible apply ev_load1); (exact rfl); infer_instance; infer_instance; (exact hvb)) | ((with_reducible apply ev_loadrow); (exact rfl); infer_instance; infer_instance; (first | (with_reducible assumption) | (with_reducible exact H32.size _) | kernel_rfl)) | ((with_reducible apply (ev_loadhash (t := 52))); (exact rfl); infer_instance; infer_instance; (first | (with_reducible assumption) | omega)) | ((with_reducible apply ev_loadcellN); (exact rfl); infer_instance; infer_instance; (exact rfl)) | ((with_reducible apply (ev_loadint (t := 3))); (exact rfl); infer_instance; infer_instance; (first | (with_reducible assumption) | omega)) | ((with_reducible apply (ev_loadbyte (t := 5))); (exact rfl); infer_instance; infer_instance; (first | (with_reducible assumption) | omega)) | (go_simp; try with_reducible rfl))
          try simp only [Act.put, sA]; try simp only [sB, sC]
          refine' takeH (i := 7) (v := _) rfl (by kernel_rfl) (by kernel_rfl) (by kernel_rfl) (fun _ _ _ h => h) (yields_of (by rfl) (fun w' _ => ?_)) inferInstance ?_
          rotate_left
          · (go_simp; try with_reducible rfl)
          try simp only [Act.put, sA]; try simp only [sB, sC]
          refine' takeH (i := 8) (v := _) rfl (by kernel_rfl) (by kernel_rfl) (by kernel_rfl) (fun _ _ _ h => h) (yields_of (by rfl) (fun w' _ => ?_)) inferInstance ?_
          rotate_left
          · (go_simp; try with_reducible rfl)
          try simp only [Act.put, sA]; try simp only [sB, sC]
          refine' takeH (i := 9) (v := _) rfl (by kernel_rfl) (by kernel_rfl) (by kernel_rfl) (fun _ _ _ h => h) (yields_of (by rfl) (fun w' _ => ?_)) inferInstance ?_
          rotate_left
          · (go_simp; try with_reducible rfl)
          try simp only [Act.put, sA]; try simp only [sB, sC]
          refine' takeH (i := 10) (v := _) rfl (by kernel_rfl) (by kernel_rfl) (by kernel_rfl) (fun _ _ _ h => h) (yields_of (by rfl) (fun w' _ => ?_)) inferInstance ?_
          rotate_left
          · (go_simp; try with_reducible rfl)
          try simp only [Act.put, sA]; try simp only [sB, sC]
          refine' takeH (i := 11) (v := _) rfl (by kernel_rfl) (by kernel_rfl) (by kernel_rfl) (fun _ _ _ h => h) (yields_of (by rfl) (fun w' _ => ?_)) inferInstance ?_
          rotate_left
          · (first | ((with_reducible apply ev_load1); (exact rfl); infer_instance; infer_instance; (exact hvt)) | ((with_reducible apply ev_load1); (exact rfl); infer_instance; infer_instance; (exact hvb)) | ((with_reducible apply ev_loadrow); (exact rfl); infer_instance; infer_instance; (first | (with_reducible assumption) | (with_reducible exact H32.size _) | kernel_rfl)) | ((with_reducible apply (ev_loadhash (t := 52))); (exact rfl); infer_instance; infer_instance; (first | (with_reducible assumption) | omega)) | ((with_reducible apply ev_loadcellN); (exact rfl); infer_instance; infer_instance; (exact rfl)) | ((with_reducible apply (ev_loadint (t := 3))); (exact rfl); infer_instance; infer_instance; (first | (with_reducible assumption) | omega)) | ((with_reducible apply (ev_loadbyte (t := 5))); (exact rfl); infer_instance; infer_instance; (first | (with_reducible assumption) | omega)) | (go_simp; try with_reducible rfl))
          try simp only [Act.put, sA]; try simp only [sB, sC]
          refine' takeH (i := 12) (v := _) rfl (by kernel_rfl) (by kernel_rfl) (by kernel_rfl) (fun _ _ _ h => h) (yields_of (by rfl) (fun w' _ => ?_)) inferInstance ?_
          rotate_left
          · (go_simp; try with_reducible rfl)
          try simp only [Act.put, sA]; try simp only [sB, sC]
          refine' takeH (i := 13) (v := _) rfl (by kernel_rfl) (by kernel_rfl) (by kernel_rfl) (fun _ _ _ h => h) (yields_of (by rfl) (fun w' _ => ?_)) inferInstance ?_
          rotate_left
          · (first | ((with_reducible apply ev_index1); (exact rfl); (exact rfl); infer_instance; infer_instance; (exact hlt); (exact hj)) | ((with_reducible apply ev_indexN); (exact rfl); (exact rfl); infer_instance; (exact hk64)) | ((with_reducible apply ev_index1); (exact rfl); (exact rfl); infer_instance; infer_instance; (exact hbl0); (exact hkn)) | ((with_reducible apply ev_indexH'); (exact rfl); (exact rfl); infer_instance; infer_instance; (first | (with_reducible assumption) | omega); (first | (with_reducible assumption) | omega); (first | (with_reducible assumption) | omega)) | ((with_reducible apply ev_indexH); (exact rfl); (exact rfl); infer_instance; infer_instance; (first | (with_reducible assumption) | omega); (first | (with_reducible assumption) | omega)) | (go_simp; try with_reducible rfl))
          try simp only [Act.put, sA]; try simp only [sB, sC]
          refine' takeH (i := 14) (v := _) rfl (by kernel_rfl) (by kernel_rfl) (by kernel_rfl) (fun _ _ _ h => h) (yields_of (by rfl) (fun w' _ => ?_)) inferInstance ?_
          rotate_left
          · (first | ((with_reducible apply ev_load1); (exact rfl); infer_instance; infer_instance; (exact hvt)) | ((with_reducible apply ev_load1); (exact rfl); infer_instance; infer_instance; (exact hvb)) | ((with_reducible apply ev_loadrow); (exact rfl); infer_instance; infer_instance; (first | (with_reducible assumption) | (with_reducible exact H32.size _) | kernel_rfl)) | ((with_reducible apply (ev_loadhash (t := 52))); (exact rfl); infer_instance; infer_instance; (first | (with_reducible assumption) | omega)) | ((with_reducible apply ev_loadcellN); (exact rfl); infer_instance; infer_instance; (exact rfl)) | ((with_reducible apply (ev_loadint (t := 3))); (exact rfl); infer_instance; infer_instance; (first | (with_reducible assumption) | omega)) | ((with_reducible apply (ev_loadbyte (t := 5))); (exact rfl); infer_instance; infer_instance; (first | (with_reducible assumption) | omega)) | (go_simp; try with_reducible rfl))
          try simp only [Act.put, sA]; try simp only [sB, sC]
          refine' takeH (i := 15) (v := _) rfl (by kernel_rfl) (by kernel_rfl) (by kernel_rfl) (fun _ _ _ h => h) (yields_of (by rfl) (fun w' _ => ?_)) inferInstance ?_
          rotate_left
          · (go_simp; try with_reducible rfl)
          try simp only [Act.put, sA]; try simp only [sB, sC]
          refine' takeH (i := 16) (v := _) rfl (by kernel_rfl) (by kernel_rfl) (by kernel_rfl) (fun _ _ _ h => h) (yields_of (by rfl) (fun w' _ => ?_)) inferInstance ?_
          rotate_left
          · (first | ((with_reducible apply ev_index1); (exact rfl); (exact rfl); infer_instance; infer_instance; (exact hlt); (exact hj)) | ((with_reducible apply ev_indexN); (exact rfl); (exact rfl); infer_instance; (exact hk64)) | ((with_reducible apply ev_index1); (exact rfl); (exact rfl); infer_instance; infer_instance; (exact hbl0); (exact hkn)) | ((with_reducible apply ev_indexH'); (exact rfl); (exact rfl); infer_instance; infer_instance; (first | (with_reducible assumption) | omega); (first | (with_reducible assumption) | omega); (first | (with_reducible assumption) | omega)) | ((with_reducible apply ev_indexH); (exact rfl); (exact rfl); infer_instance; infer_instance; (first | (with_reducible assumption) | omega); (first | (with_reducible assumption) | omega)) | (go_simp; try with_reducible rfl))
          try simp only [Act.put, sA]; try simp only [sB, sC]
          refine' takeH (i := 18) (v := _) rfl (by kernel_rfl) (by kernel_rfl) (by kernel_rfl) (fun _ _ _ h => h) (yields_of (by rfl) (fun w' _ => ?_)) inferInstance ?_
          rotate_left
          · (go_simp; try with_reducible rfl)
          try simp only [Act.put, sA]; try simp only [sB, sC]
          refine' takeH (i := 19) (v := _) rfl (by kernel_rfl) (by kernel_rfl) (by kernel_rfl) (fun _ _ _ h => h) (yields_of (by rfl) (fun w' _ => ?_)) inferInstance ?_
          rotate_left
          · (go_simp; try with_reducible rfl)
          try simp only [Act.put, sA]; try simp only [sB, sC]
          refine' takeH (i := 20) (v := _) rfl (by kernel_rfl) (by kernel_rfl) (by kernel_rfl) (fun _ _ _ h => h) (yields_of (by rfl) (fun w' _ => ?_)) inferInstance ?_
          rotate_left
          · (first | ((with_reducible apply ev_index1); (exact rfl); (exact rfl); infer_instance; infer_instance; (exact hlt); (exact hj)) | ((with_reducible apply ev_indexN); (exact rfl); (exact rfl); infer_instance; (exact hk64)) | ((with_reducible apply ev_index1); (exact rfl); (exact rfl); infer_instance; infer_instance; (exact hbl0); (exact hkn)) | ((with_reducible apply ev_indexH'); (exact rfl); (exact rfl); infer_instance; infer_instance; (first | (with_reducible assumption) | omega); (first | (with_reducible assumption) | omega); (first | (with_reducible assumption) | omega)) | ((with_reducible apply ev_indexH); (exact rfl); (exact rfl); infer_instance; infer_instance; (first | (with_reducible assumption) | omega); (first | (with_reducible assumption) | omega)) | (go_simp; try with_reducible rfl))
          try simp only [Act.put, sA]; try simp only [sB, sC]
          refine' takeH (i := 21) (v := _) rfl (by kernel_rfl) (by kernel_rfl) (by kernel_rfl) (fun _ _ _ h => h) (yields_of (by rfl) (fun w' _ => ?_)) inferInstance ?_
          rotate_left
          · (first | ((with_reducible apply ev_load1); (exact rfl); infer_instance; infer_instance; (exact hvt)) | ((with_reducible apply ev_load1); (exact rfl); infer_instance; infer_instance; (exact hvb)) | ((with_reducible apply ev_loadrow); (exact rfl); infer_instance; infer_instance; (first | (with_reducible assumption) | (with_reducible exact H32.size _) | kernel_rfl)) | ((with_reducible apply (ev_loadhash (t := 52))); (exact rfl); infer_instance; infer_instance; (first | (with_reducible assumption) | omega)) | ((with_reducible apply ev_loadcellN); (exact rfl); infer_instance; infer_instance; (exact rfl)) | ((with_reducible apply (ev_loadint (t := 3))); (exact rfl); infer_instance; infer_instance; (first | (with_reducible assumption) | omega)) | ((with_reducible apply (ev_loadbyte (t := 5))); (exact rfl); infer_instance; infer_instance; (first | (with_reducible assumption) | omega)) | (go_simp; try with_reducible rfl))
          try simp only [Act.put, sA]; try simp only [sB, sC]
          refine goH (i := 17) (by kernel_rfl) rfl (fun K_ hK_ => ?_)
          rw [if_pos (by kernel_rfl)]
          refine wpr_of_list ?_
          (first | ((with_reducible apply wpl_indexN); (exact rfl); (exact rfl); infer_instance; (exact hk64)) | ((with_reducible apply wpl_load1); (exact rfl); infer_instance; infer_instance; (exact hvd)) | ((with_reducible apply wpl_storeB); (exact rfl); (exact rfl); infer_instance; (omega); (exact ⟨hy0, hy8⟩); intro wsb _ _) | ((with_reducible apply wpl_loadrow); (exact rfl); infer_instance; infer_instance; (first | (with_reducible assumption) | (with_reducible exact H32.size _) | kernel_rfl)) | ((with_reducible apply wpl_loadcellN); (exact rfl); infer_instance; (exact rfl)) | ((with_reducible apply (wpl_loadhash (t := 52))); (exact rfl); infer_instance; infer_instance; (first | (with_reducible assumption) | omega)) | ((with_reducible apply (wpl_loadint (t := 3))); (exact rfl); infer_instance; infer_instance; (first | (with_reducible assumption) | omega)) | ((with_reducible apply (wpl_loadbyte (t := 5))); (exact rfl); infer_instance; infer_instance; (first | (with_reducible assumption) | omega)))
          refine wpList_nil ?_
          unfold onlyN
          refine hK_.out _ _ inferInstance (fun _ => ?_)
          clear hK_ K_
          try simp only [Act.put, sA]; try simp only [sB, sC]
          refine' takeH (i := 22) (v := _) rfl (by kernel_rfl) (by kernel_rfl) (by kernel_rfl) (fun _ _ _ h => h) (yields_of (by rfl) (fun w' _ => ?_)) inferInstance ?_
          rotate_left
          · (go_simp; try with_reducible rfl)
          try simp only [Act.put, sA]; try simp only [sB, sC]
          try simp only [HAND.out]
          refine' takeH (i := 23) (v := _) rfl (by kernel_rfl) (by kernel_rfl) (by kernel_rfl) (fun _ _ _ h => h) (yields_of (by rfl) (fun w' _ => ?_)) inferInstance ?_
          rotate_left
          · (first | ((with_reducible apply ev_index1); (exact rfl); (exact rfl); infer_instance; infer_instance; (exact hlt); (exact hj)) | ((with_reducible apply ev_indexN); (exact rfl); (exact rfl); infer_instance; (exact hk64)) | ((with_reducible apply ev_index1); (exact rfl); (exact rfl); infer_instance; infer_instance; (exact hbl0); (exact hkn)) | ((with_reducible apply ev_indexH'); (exact rfl); (exact rfl); infer_instance; infer_instance; (first | (with_reducible assumption) | omega); (first | (with_reducible assumption) | omega); (first | (with_reducible assumption) | omega)) | ((with_reducible apply ev_indexH); (exact rfl); (exact rfl); infer_instance; infer_instance; (first | (with_reducible assumption) | omega); (first | (with_reducible assumption) | omega)) | (go_simp; try with_reducible rfl))
          try simp only [Act.put, sA]; try simp only [sB, sC]
          refine goH (i := 24) (by kernel_rfl) rfl (fun K_ hK_ => ?_)
          rw [if_pos (by kernel_rfl)]
          refine wpr_of_list ?_
          (first | ((with_reducible apply wpl_indexN); (exact rfl); (exact rfl); infer_instance; (exact hk64)) | ((with_reducible apply wpl_load1); (exact rfl); infer_instance; infer_instance; (exact hvd)) | ((with_reducible apply wpl_storeB); (exact rfl); (exact rfl); infer_instance; (omega); (exact ⟨hy0, hy8⟩); intro wsb _ _) | ((with_reducible apply wpl_storerow); (exact rfl); (exact rfl); infer_instance; infer_instance; (first | (with_reducible assumption) | (with_reducible exact H32.size _) | kernel_rfl); (first | (with_reducible assumption) | (with_reducible exact H32.size _) | kernel_rfl); (first | (with_reducible exact u8s_one _) | (with_reducible assumption) | kernel_rfl); intro ws _ _) | ((with_reducible apply wpl_storecell); (exact rfl); (exact rfl); infer_instance; (exact rfl); (first | (with_reducible assumption) | omega | (focus (simp; done)) | (focus (simp; omega; done)) | decide); intro ws _ _) | ((with_reducible apply (wpl_storehash (t := 52))); (exact rfl); (exact rfl); infer_instance; infer_instance; (first | (with_reducible assumption) | omega | (focus (simp; done)) | (focus (simp; omega; done)) | decide); intro ws _ _) | ((with_reducible apply (wpl_storeint (t := 3))); (exact rfl); (exact rfl); infer_instance; (first | (with_reducible assumption) | omega); intro ws _ _) | ((with_reducible apply (wpl_storebyte (t := 5))); (exact rfl); (exact rfl); infer_instance; (first | (with_reducible assumption) | omega | (focus (simp; done)) | (focus (simp; omega; done)) | decide); (constructor <;> omega); intro ws _ _))
          refine wpList_nil ?_
          unfold onlyN
          refine hK_.out _ _ inferInstance (fun _ => ?_)
          clear hK_ K_
          try simp only [Act.put]
          refine wpAnyH_done (by kernel_rfl) ?_ _
          go_wp2_with (first | go_skip | ((with_reducible apply (wpl_guard (op := .load _ _))); (exact rfl)) | ((with_reducible apply (wpl_guard (op := .fieldAddr _ _ _))); (exact rfl)) | ((with_reducible apply wpl_loadrow); (exact rfl); infer_instance; infer_instance; (first | (with_reducible assumption) | (with_reducible exact H32.size _) | kernel_rfl)) | ((with_reducible apply wpl_loadcellN); (exact rfl); infer_instance; (exact rfl)) | ((with_reducible apply wpl_storerow); (exact rfl); (exact rfl); infer_instance; infer_instance; (first | (with_reducible assumption) | (with_reducible exact H32.size _) | kernel_rfl); (first | (with_reducible assumption) | (with_reducible exact H32.size _) | kernel_rfl); (first | (with_reducible exact u8s_one _) | (with_reducible assumption) | kernel_rfl); intro ws _ _) | ((with_reducible apply wpl_storecell); (exact rfl); (exact rfl); infer_instance; (exact rfl); (first | (with_reducible assumption) | omega | (focus (simp; done)) | (focus (simp; omega; done)) | decide); intro ws _ _))
          refine ⟨⟨k + 1, d.set k (b8 (y.toNat : Int)), by omega, by go_num, by rw [List.length_set]; exact hd, inferInstance, inferInstance, inferInstance, inferInstance, inferInstance, HD2⟩, by simp [intOf]; omega⟩
        · have hkm2 : k = m := by omega
          by_cases hkq2 : (k : Int) < (q : Int)
          · have hkq3 : (nb : Int) ≤ (k : Int) := by omega
            go_wp2_with (first | go_skip | ((with_reducible apply (wpl_guard (op := .load _ _))); (exact rfl)) | ((with_reducible apply (wpl_guard (op := .fieldAddr _ _ _))); (exact rfl)) | ((with_reducible apply wpl_loadrow); (exact rfl); infer_instance; infer_instance; (first | (with_reducible assumption) | (with_reducible exact H32.size _) | kernel_rfl)) | ((with_reducible apply wpl_loadcellN); (exact rfl); infer_instance; (exact rfl)) | ((with_reducible apply wpl_storerow); (exact rfl); (exact rfl); infer_instance; infer_instance; (first | (with_reducible assumption) | (with_reducible exact H32.size _) | kernel_rfl); (first | (with_reducible assumption) | (with_reducible exact H32.size _) | kernel_rfl); (first | (with_reducible exact u8s_one _) | (with_reducible assumption) | kernel_rfl); intro ws _ _) | ((with_reducible apply wpl_storecell); (exact rfl); (exact rfl); infer_instance; (exact rfl); (first | (with_reducible assumption) | omega | (focus (simp; done)) | (focus (simp; omega; done)) | decide); intro ws _ _))
            go_ret
            obtain ⟨hf1, hf2⟩ := HR1.out wr d hd (inferInstance : Ch (rowOf (some ra)) w1 wr).out (inferInstance : HO wr 5 1 (some ra) 64 rc (bs d)).out
            rw [HF.out, HG.out, ← hkm2, ← HPG.out, ← HD.out]
            exact ⟨rfl, hf1, HC1.out.trans hf2 (fun _ _ h => h)⟩
          · go_wp2_with (first | go_skip | ((with_reducible apply (wpl_guard (op := .load _ _))); (exact rfl)) | ((with_reducible apply (wpl_guard (op := .fieldAddr _ _ _))); (exact rfl)) | ((with_reducible apply wpl_loadrow); (exact rfl); infer_instance; infer_instance; (first | (with_reducible assumption) | (with_reducible exact H32.size _) | kernel_rfl)) | ((with_reducible apply wpl_loadcellN); (exact rfl); infer_instance; (exact rfl)) | ((with_reducible apply wpl_storerow); (exact rfl); (exact rfl); infer_instance; infer_instance; (first | (with_reducible assumption) | (with_reducible exact H32.size _) | kernel_rfl); (first | (with_reducible assumption) | (with_reducible exact H32.size _) | kernel_rfl); (first | (with_reducible exact u8s_one _) | (with_reducible assumption) | kernel_rfl); intro ws _ _) | ((with_reducible apply wpl_storecell); (exact rfl); (exact rfl); infer_instance; (exact rfl); (first | (with_reducible assumption) | omega | (focus (simp; done)) | (focus (simp; omega; done)) | decide); intro ws _ _))
            go_ret
            obtain ⟨hf1, hf2⟩ := HR1.out wr d hd (inferInstance : Ch (rowOf (some ra)) w1 wr).out (inferInstance : HO wr 5 1 (some ra) 64 rc (bs d)).out
            rw [HF.out, HG.out, ← hkm2, ← HPG.out, ← HD.out]
            exact ⟨rfl, hf1, HC1.out.trans hf2 (fun _ _ h => h)⟩
end Go.Proofs.Ytegdihpnefoolaa
