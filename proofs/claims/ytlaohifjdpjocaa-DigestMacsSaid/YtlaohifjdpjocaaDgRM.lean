/- The reference's Mac. -/
import Derived.Test.YtlaohifjdpjocaaDgX
import Derived.Test.YtlaohifjdpjocaaDgRS
import Derived.Deep.OwnRows
open Go Go.RowKit
namespace Go.Proofs.Ytlaohifjdpjocaa
def upto (kf : List UInt8) (y : UInt8) (k : Nat) : List UInt8 := (kf.take k).map (· ^^^ y) ++ nots (64 - k)
theorem upto_len (kf : List UInt8) (y : UInt8) (k : Nat) (h : kf.length = 64) (hk : k ≤ 64) : (upto kf y k).length = 64 := by
  simp [upto, nots_len]; omega
theorem upto_zero (kf : List UInt8) (y : UInt8) : upto kf y 0 = nots 64 := by simp [upto]
theorem upto_end (kf : List UInt8) (y : UInt8) (h : kf.length = 64) : upto kf y 64 = kf.map (· ^^^ y) := by
  simp [upto, nots, List.take_of_length_le (Nat.le_of_eq h)]
theorem upto_set (kf : List UInt8) (y : UInt8) (k : Nat) (h : kf.length = 64) (hk : k < 64) : (upto kf y k).set k (kf.getD k 0 ^^^ y) = upto kf y (k + 1) := by
  have h1 : ((kf.take k).map (· ^^^ y)).length = k := by simp; omega
  unfold upto
  rw [List.set_append_right _ _ (by omega), h1, Nat.sub_self]
  rw [show nots (64 - k) = 0 :: nots (64 - (k + 1)) by unfold nots; rw [← List.replicate_succ]; congr 1; omega]
  rw [List.set_cons_zero, List.take_add_one, List.map_append, List.append_assoc]
  congr 1
  rw [List.getD_eq_getElem?_getD, List.getElem?_eq_getElem (by omega)]
  rfl
theorem keyOf_at (key kx : List UInt8) (h : keyOf key = kx ++ nots (64 - kx.length)) (k : Nat) (hk : k < kx.length) : kx[k]? = some ((keyOf key).getD k 0) := by
  rw [h, List.getD_eq_getElem?_getD, List.getElem?_append_left hk, List.getElem?_eq_getElem hk]
  rfl
theorem keyOf_past (key kx : List UInt8) (h : keyOf key = kx ++ nots (64 - kx.length)) (k : Nat) (hk : kx.length ≤ k) : (keyOf key).getD k 0 = 0 := by
  rw [h, List.getD_eq_getElem?_getD, List.getElem?_append_right hk]
  unfold nots
  rw [List.getElem?_replicate]
  split <;> rfl
theorem xor_u8 (x b : UInt8) (c : Int) (hc : c = (b.toNat : Int)) : bits .xor .u8 (x.toNat : Int) c = ((x ^^^ b).toNat : Int) := by
  subst hc
  exact u8_xor_bytes x b
theorem nots_own {w : World} {g : Nat} {xs : List UInt8} (h : Blk w g 5 (u8s xs)) (hx : xs.length = 64) : Own w 5 1 (some ⟨g, 0, none⟩) 64 64 (bs xs) :=
  Own.of_blk h (Nat.le_refl _) (by decide) (by rw [u8s_size, hx]) (by rw [Nat.mul_one]; simp [u8s]; rw [List.take_of_length_le (by rw [bs_length, hx]; exact Nat.le_refl _)])
theorem make64 (w : World) : (Instr.makeSlice 22 (.int .i64 64) (.int .i64 64)).run Try.prog w = .ok (.slice (some ⟨w.heap.size, 0, none⟩) 64 64) (w.alloc (.cells (u8s (nots 64)) 5)) := by
  have h := run_make_row' (P := Try.prog) 22 5 (.int .u8 0) 1 Try.underlying22 elemB.info rfl .i64 .i64 64 (by decide) (by decide) w
  rw [show madeCells #[Value.int .u8 0] 64 = u8s (nots 64) by kernel_rfl] at h
  exact h
set_option maxRecDepth 100000 in
set_option maxHeartbeats 1600000 in
theorem refMac_calls (A B : Option Addr) (n c m d : Nat) (key p : List UInt8) (w : World) (hr : Rd w A (bs key)) (hn : key.length = n) (hn9 : n ≤ 10000000) (hr2 : Rd w B (bs p)) (hm : p.length = m) (hm9 : m ≤ 10000000) :
    Calls Try.prog 28 #[.slice A n c, .slice B m d] w fun e w' => e = .returned (.agg (u8s (macOf key p))) ∧ Hid (Chg nowhere w w') := by
  have HR := Lib.hid hr
  have HN := Lib.hid hn
  have HR2 := Lib.hid hr2
  have HM := Lib.hid hm
  have HI25 := Lib.hid (show (Try.prog.info? 25).map (·.size) = some 32 by kernel_rfl)
  have HKF : Hid ((keyOf key).length = 64) := Lib.hid (keyOf_len key)
  have HMAC : Hid (macOf key p = sha ((keyOf key).map (· ^^^ 0x5c) ++ sha ((keyOf key).map (· ^^^ 0x36) ++ p))) := Lib.hid rfl
  have HML : Hid ((u8s (macOf key p)).size = 32) := Lib.hid (by rw [u8s_size, macOf_len])
  have HMB : Hid ((bs p).length = m) := Lib.hid (by rw [bs_length, hm])
  have HB0 : Hid (64 + m ≤ lim) := hid_lim (by omega)
  have hmk : ∀ w, (Instr.makeSlice 22 (.int .i64 64) (.int .i64 64)).run Try.prog w = .ok (.slice (some ⟨w.heap.size, 0, none⟩) 64 64) (w.alloc (.cells (u8s (nots 64)) 5)) := make64
  clear hr hn hr2 hm
  by_cases h64 : n ≤ 64
  · have e1 : ¬ (64 : Int) < n := by omega
    have HKX := Lib.hid (show keyOf key = key ++ nots (64 - key.length) by unfold keyOf; rw [if_pos (by rw [HN.out]; exact h64)])
    go_enter Try.func28, Try.ntmps28
    go_wp2_with fail
    obtain ⟨z0, hz0⟩ : ∃ z, z = w.heap.size := ⟨_, rfl⟩
    obtain ⟨w1, hw1⟩ : ∃ w1, w1 = w.alloc (.cells (u8s (nots 32)) 25) := ⟨_, rfl⟩
    have B1 : Hid (Blk w1 z0 25 (u8s (nots 32))) := Lib.hid (by rw [hw1, hz0]; exact Blk.new w _ _)
    have C1 : Hid (Chg nowhere w w1) := Lib.hid (by rw [hw1]; exact (Chg.refl _ _).alloc _)
    have hzw : w.heap.size ≤ z0 := by omega
    change Code.wp _ _ _ _ (w.alloc (.cells (u8s (nots 32)) 25))
    rw [← hw1, ← hz0]
    clear hw1 hz0
    have HKN : Hid (key.length = n) := HN
    refine wp_region_any (by kernel_rfl) ?_
    change wpAny _ _ _ _ _ _ _ (World.drew _)
    have B1' : Hid (Blk (World.drew w1) z0 25 (u8s (nots 32))) := B1
    have C1' : Hid (Chg nowhere w (World.drew w1)) := Lib.hid C1.out.drew
    have K1' : Hid (Rd (World.drew w1) A (bs key)) := (HR.out.later C1.out.drew)
    generalize World.drew w1 = w2 at *
    refine wpAny_ready (rs := [0, 1]) (by kernel_rfl) (by simp) ?_
    refine AllReady.cons rfl (fun K hK => ?_) (AllReady.cons rfl (fun K hK => ?_) AllReady.nil)
    · go_simp
      refine hK _ _ ?_
      clear hK K
      refine wpAny_take (i := 2) (v := ?_) rfl (by kernel_rfl) (by kernel_rfl) (by kernel_rfl) (fun _ _ _ h => h) (Or.inl ⟨by rfl, ?_⟩) ?_
      rotate_left
      · intro w
        go_simp
        try with_reducible rfl
      refine wpAny_ready (rs := [1]) (by kernel_rfl) (by simp) ?_
      refine AllReady.cons rfl (fun K hK => ?_) AllReady.nil
      go_simp
      refine hK _ _ ?_
      clear hK K
      refine wpAny_take (i := 3) (v := ?_) rfl (by kernel_rfl) (by kernel_rfl) (by kernel_rfl) (fun _ _ _ h => h) (Or.inl ⟨by rfl, ?_⟩) ?_
      rotate_left
      · intro w
        go_simp
        try with_reducible rfl
      refine wpAny_done (by kernel_rfl) ?_ _
      go_wp2_with fail
      obtain ⟨za, hza⟩ : ∃ z, z = w2.heap.size := ⟨_, rfl⟩
      obtain ⟨zb, hzb⟩ : ∃ z, z = w2.heap.size + 1 := ⟨_, rfl⟩
      obtain ⟨w3, hw3⟩ : ∃ w3, w3 = (w2.alloc (.cells (u8s (nots 64)) 5)).alloc (.cells (u8s (nots 64)) 5) := ⟨_, rfl⟩
      have BA : Hid (Blk w3 za 5 (u8s (nots 64))) := Lib.hid (by rw [hw3, hza]; exact (Blk.new w2 _ _).alloc _)
      have BB : Hid (Blk w3 zb 5 (u8s (nots 64))) := Lib.hid (by rw [hw3, hzb]; exact Blk.new1 w2 _ _ _)
      rw [← hw3, ← hzb, ← hza]
      have C3 : Hid (Chg nowhere w2 w3) := Lib.hid (by rw [hw3]; exact ((Chg.refl _ _).alloc _).alloc _)
      have hab : za ≠ zb := by omega
      have hba : zb ≠ za := by omega
      have h0a : z0 ≠ za := by have := B1'.out.lt; omega
      have h0b : z0 ≠ zb := by have := B1'.out.lt; omega
      have hwa : w2.heap.size ≤ za := by omega
      have hwb : w2.heap.size ≤ zb := by omega
      clear hza hzb hw3
      go_loopw [8, 9] (fun i _ wr => ∃ k : Nat, k ≤ 64 ∧ i = .int .i64 k ∧ Blk wr za 5 (u8s (upto (keyOf key) 0x5c k)) ∧ Blk wr zb 5 (u8s (upto (keyOf key) 0x36 k)) ∧ Chg nowhere w2 wr) (fun i _ _ => 64 - (intOf i).toNat)
      case atStart => exact ⟨0, Nat.zero_le _, rfl, by rw [upto_zero]; exact BA.out, by rw [upto_zero]; exact BB.out, C3.out⟩
      case round =>
        obtain ⟨k, hk, rfl, h1, h2, h3⟩ := hrel
        have H1 := Lib.hid h1
        have H2 := Lib.hid h2
        have H3 := Lib.hid h3
        clear h1 h2 h3
        by_cases hlt : k < 64
        · have e1 : (k : Int) < 64 := by omega
          have hcA : wr.cell? ⟨za, k, none⟩ = some (.int .u8 (((upto (keyOf key) 0x5c k).getD k 0).toNat : Int)) := by
            rw [H1.out.cell, u8s_get _ _ (by rw [upto_len _ _ _ HKF.out hk]; omega)]
          have hfA : wr.frozen? ⟨za, k, none⟩ = false := H1.out.frozen k
          have hfB0 : wr.frozen? ⟨zb, k, none⟩ = false := H2.out.frozen k
          have hcB0 : wr.cell? ⟨zb, k, none⟩ = some (.int .u8 (((upto (keyOf key) 0x36 k).getD k 0).toNat : Int)) := by
            rw [H2.out.cell, u8s_get _ _ (by rw [upto_len _ _ _ HKF.out hk]; omega)]
          have hs1 := upto_set (keyOf key) 0x5c k HKF.out hlt
          have hs2 := upto_set (keyOf key) 0x36 k HKF.out hlt
          by_cases hin : k < n
          · have e3 : (k : Int) < n := by omega
            obtain ⟨ad, x, hAe, hxk, hca⟩ := (K1'.out.later H3.out).byte (k := k) (by rw [HKN.out]; exact hin)
            subst hAe
            have hx : x = (keyOf key).getD k 0 := by
              have h := keyOf_at key key HKX.out k (by rw [HKN.out]; exact hin)
              rw [hxk] at h
              injection h
            obtain ⟨y1, hy1⟩ : ∃ y, y = x ^^^ (0x5c : UInt8) := ⟨_, rfl⟩
            obtain ⟨y2, hy2⟩ : ∃ y, y = x ^^^ (0x36 : UInt8) := ⟨_, rfl⟩
            have q1 := xor_u8 x 0x5c 92 rfl
            have q2 := xor_u8 x 0x36 54 rfl
            rw [← hy1] at q1
            rw [← hy2] at q2
            rw [← hx, ← hy1] at hs1
            rw [← hx, ← hy2] at hs2
            clear hx hy1 hy2
            have HNA := Lib.hid (H1.out.set_ k (.int .u8 (y1.toNat : Int)))
            have HN1 : Hid (Blk (wr.setCell ⟨za, k, none⟩ (.int .u8 (y1.toNat : Int))) za 5 (u8s (upto (keyOf key) 0x5c (k + 1)))) := Lib.hid (by
              rw [← hs1]
              exact (u8s_set (upto (keyOf key) 0x5c k) k y1) ▸ HNA.out)
            have HN2 : Hid (Blk (wr.setCell ⟨za, k, none⟩ (.int .u8 (y1.toNat : Int))) zb 5 (u8s (upto (keyOf key) 0x36 k))) := Lib.hid (H2.out.far (p := ⟨za, k, none⟩) hba _)
            have hcB : (wr.setCell ⟨za, k, none⟩ (.int .u8 (y1.toNat : Int))).cell? ⟨zb, k, none⟩ = some (.int .u8 (((upto (keyOf key) 0x36 k).getD k 0).toNat : Int)) := by
              rw [HN2.out.cell, u8s_get _ _ (by rw [upto_len _ _ _ HKF.out hk]; omega)]
            have hfB : (wr.setCell ⟨za, k, none⟩ (.int .u8 (y1.toNat : Int))).frozen? ⟨zb, k, none⟩ = false := HN2.out.frozen k
            have HN3 := Lib.hid (HN2.out.set_ k (.int .u8 (y2.toNat : Int)))
            have HN4 : Hid (Blk ((wr.setCell ⟨za, k, none⟩ (.int .u8 (y1.toNat : Int))).setCell ⟨zb, k, none⟩ (.int .u8 (y2.toNat : Int))) zb 5 (u8s (upto (keyOf key) 0x36 (k + 1)))) := Lib.hid (by
              rw [← hs2]
              exact (u8s_set (upto (keyOf key) 0x36 k) k y2) ▸ HN3.out)
            have HN5 : Hid (Blk ((wr.setCell ⟨za, k, none⟩ (.int .u8 (y1.toNat : Int))).setCell ⟨zb, k, none⟩ (.int .u8 (y2.toNat : Int))) za 5 (u8s (upto (keyOf key) 0x5c (k + 1)))) := Lib.hid (HN1.out.far (p := ⟨zb, k, none⟩) hab _)
            have HC : Hid (Chg nowhere w2 ((wr.setCell ⟨za, k, none⟩ (.int .u8 (y1.toNat : Int))).setCell ⟨zb, k, none⟩ (.int .u8 (y2.toNat : Int)))) := Lib.hid ((H3.out.setCell (p := ⟨za, k, none⟩) (fun h => by have h' : za < w2.heap.size := h; omega) _).setCell (p := ⟨zb, k, none⟩) (fun h => by have h' : zb < w2.heap.size := h; omega) _)
            generalize ((upto (keyOf key) 0x5c k).getD k 0) = x1 at *
            generalize ((upto (keyOf key) 0x36 k).getD k 0) = x2 at *
            clear hs1 hs2 HNA HN3
            go_wp2_with fail
            exact ⟨⟨k + 1, by omega, by go_num, HN5.out, HN4.out, HC.out⟩, by simp [intOf]; omega⟩
          · have e3 : ¬ (k : Int) < n := by omega
            have hx := keyOf_past key key HKX.out k (by rw [HKN.out]; omega)
            rw [hx] at hs1 hs2
            have HNA := Lib.hid (H1.out.set_ k (.int .u8 92))
            have HN1 : Hid (Blk (wr.setCell ⟨za, k, none⟩ (.int .u8 92)) za 5 (u8s (upto (keyOf key) 0x5c (k + 1)))) := Lib.hid (by
              rw [← hs1]
              exact (u8s_set (upto (keyOf key) 0x5c k) k 92) ▸ HNA.out)
            have HN2 : Hid (Blk (wr.setCell ⟨za, k, none⟩ (.int .u8 92)) zb 5 (u8s (upto (keyOf key) 0x36 k))) := Lib.hid (H2.out.far (p := ⟨za, k, none⟩) hba _)
            have hcB : (wr.setCell ⟨za, k, none⟩ (.int .u8 92)).cell? ⟨zb, k, none⟩ = some (.int .u8 (((upto (keyOf key) 0x36 k).getD k 0).toNat : Int)) := by
              rw [HN2.out.cell, u8s_get _ _ (by rw [upto_len _ _ _ HKF.out hk]; omega)]
            have hfB : (wr.setCell ⟨za, k, none⟩ (.int .u8 92)).frozen? ⟨zb, k, none⟩ = false := HN2.out.frozen k
            have HN3 := Lib.hid (HN2.out.set_ k (.int .u8 54))
            have HN4 : Hid (Blk ((wr.setCell ⟨za, k, none⟩ (.int .u8 92)).setCell ⟨zb, k, none⟩ (.int .u8 54)) zb 5 (u8s (upto (keyOf key) 0x36 (k + 1)))) := Lib.hid (by
              rw [← hs2]
              exact (u8s_set (upto (keyOf key) 0x36 k) k 54) ▸ HN3.out)
            have HN5 : Hid (Blk ((wr.setCell ⟨za, k, none⟩ (.int .u8 92)).setCell ⟨zb, k, none⟩ (.int .u8 54)) za 5 (u8s (upto (keyOf key) 0x5c (k + 1)))) := Lib.hid (HN1.out.far (p := ⟨zb, k, none⟩) hab _)
            have HC : Hid (Chg nowhere w2 ((wr.setCell ⟨za, k, none⟩ (.int .u8 92)).setCell ⟨zb, k, none⟩ (.int .u8 54))) := Lib.hid ((H3.out.setCell (p := ⟨za, k, none⟩) (fun h => by have h' : za < w2.heap.size := h; omega) _).setCell (p := ⟨zb, k, none⟩) (fun h => by have h' : zb < w2.heap.size := h; omega) _)
            generalize ((upto (keyOf key) 0x5c k).getD k 0) = x1 at *
            generalize ((upto (keyOf key) 0x36 k).getD k 0) = x2 at *
            clear hs1 hs2 HNA HN3
            go_wp2_with fail
            exact ⟨⟨k + 1, by omega, by go_num, HN5.out, HN4.out, HC.out⟩, by simp [intOf]; omega⟩
        · have e1 : (64 : Int) ≤ k := by omega
          obtain rfl : k = 64 := by omega
          rw [upto_end _ _ HKF.out] at H1 H2
          obtain ⟨k1, hk1⟩ : ∃ k, k = (keyOf key).map (· ^^^ (0x36 : UInt8)) := ⟨_, rfl⟩
          obtain ⟨k2, hk2⟩ : ∃ k, k = (keyOf key).map (· ^^^ (0x5c : UInt8)) := ⟨_, rfl⟩
          have HK1L : Hid (k1.length = 64) := Lib.hid (by rw [hk1, List.length_map, keyOf_len])
          have HK2L : Hid (k2.length = 64) := Lib.hid (by rw [hk2, List.length_map, keyOf_len])
          obtain ⟨inn, hinn⟩ : ∃ x, x = sha (k1 ++ p) := ⟨_, rfl⟩
          have HIL : Hid (inn.length = 32) := Lib.hid (by rw [hinn, sha_len])
          have HMAC2 : Hid (sha (k2 ++ inn) = macOf key p) := Lib.hid (by rw [hinn, hk1, hk2]; rfl)
          rw [← hk2] at H1
          rw [← hk1] at H2
          have HIN := Lib.hid hinn
          clear hk1 hk2 hinn
          have HCW : Hid (Chg nowhere w wr) := Lib.hid (C1'.out.step H3.out (fun _ h => h.elim))
          have HOB : Hid (Own wr 5 1 (some ⟨zb, 0, none⟩) 64 64 (bs k1)) := Lib.hid (nots_own H2.out HK1L.out)
          have HZ : Hid (Blk wr z0 25 (u8s (nots 32))) := Lib.hid (B1'.out.chg H3.out (fun h => h))
          have HRP := Lib.hid (HR2.out.later HCW.out)
          go_wp2_with (at_builtin; refine wpList_append_many rfl (.tmp 41) (.tmp 42) elemB rfl (Nat.le_refl _) rfl HOB.out rfl HRP.out HMB (bs_one p) HB0 ?_)
          intro A5 c5 w5 hown5 hchg5 hA5
          have hne1 : Chg (fun k => zb = k) wr w5 := hchg5
          have HO5 : Hid (Own w5 5 1 A5 (64 + m) c5 (bs (k1 ++ p))) := Lib.hid (by rw [← bs_append]; exact hown5)
          have HC5 : Hid (Chg nowhere w w5) := Lib.hid (HCW.out.step hne1 (fun x hx => by
            have h1 : zb = x := hx
            have h2 := C1'.out.size
            omega))
          have BA5 : Hid (Blk w5 za 5 (u8s k2)) := Lib.hid (H1.out.chg hne1 (fun h => hba h))
          have HZ5 : Hid (Blk w5 z0 25 (u8s (nots 32))) := Lib.hid (HZ.out.chg hne1 (fun h => h0b h.symm))
          clear hown5 hchg5 hA5 hne1
          go_wp2_with fail
          refine (dRefSum_calls A5 (64 + m) c5 (k1 ++ p) _ HO5.out.rd (by rw [List.length_append, HK1L.out, HM.out]) (by omega)).mono ?_
          rintro e w6 ⟨rfl, h6⟩
          rw [← HIN.out]
          have HC6 := Lib.hid (HC5.out.step h6.out (fun _ h => h.elim))
          have BA6 := Lib.hid (BA5.out.chg h6.out (fun h => h))
          have HZ6 := Lib.hid (HZ5.out.chg h6.out (fun h => h))
          have HILS : Hid ((u8s inn).size = 32) := Lib.hid (by rw [u8s_size, HIL.out])
          have HIB : Hid ((bs inn).length = 32) := Lib.hid (by rw [bs_length, HIL.out])
          have HB6 : Hid (64 + 32 ≤ lim) := hid_lim (by decide)
          have hza6 : za < w6.heap.size := BA6.out.lt
          clear h6
          go_wp2_with (first | (refine wpList_store_row rfl 25 _ _ rfl w6.heap.size (u8s inn) rfl rfl 25 _ (heap_alloc_new w6 _) (by rw [HILS.out]; exact HI25.out) (by rw [HILS.out]; rfl) (u8s_one _) ?_) | (at_builtin; refine wpList_append_many rfl (.tmp 45) (.tmp 46) elemB rfl (Nat.le_refl _) rfl (nots_own ((BA6.out.alloc _).rowFar (Nat.ne_of_lt hza6) _) HK2L.out) rfl (rd_u8s ((Blk.new w6 _ _).row_ _)) HIB (bs_one inn) HB6 ?_))
          intro A7 c7 w7 hown7 hchg7 hA7
          rw [World.setRow_alloc_new] at hchg7
          have hne2 : Chg (fun k => za = k) (w6.alloc (.cells (u8s inn) 25)) w7 := hchg7
          have HO7 : Hid (Own w7 5 1 A7 (64 + 32) c7 (bs (k2 ++ inn))) := Lib.hid (by rw [← bs_append]; exact hown7)
          have HC7 : Hid (Chg nowhere w w7) := Lib.hid ((HC6.out.alloc _).step hne2 (fun x hx => by
            have h1 : za = x := hx
            have h2 := C1'.out.size
            omega))
          have HZ7 : Hid (Blk w7 z0 25 (u8s (nots 32))) := Lib.hid ((HZ6.out.alloc _).chg hne2 (fun h => h0a h.symm))
          clear hown7 hchg7 hA7 hne2
          go_wp2_with fail
          refine (dRefSum_calls A7 (64 + 32) c7 (k2 ++ inn) _ HO7.out.rd (by rw [List.length_append, HK2L.out, HIL.out]) (by decide)).mono ?_
          rintro e w8 ⟨rfl, h8⟩
          rw [HMAC2.out]
          have HC8 := Lib.hid (HC7.out.step h8.out (fun _ h => h.elim))
          have HZ8 := Lib.hid (HZ7.out.chg h8.out (fun h => h))
          clear h8
          go_wp2_with (refine wpList_store_row rfl 25 _ _ rfl z0 (u8s (macOf key p)) rfl rfl 25 _ HZ8.out (by rw [HML.out]; exact HI25.out) (by rw [HML.out]; rfl) (u8s_one _) ?_)
          refine bodyPost_ret (v := .agg (u8s (macOf key p))) (results_cell_row rfl _ _ z0 25 _ (0, 0) _ rfl (HZ8.out.row_ _) Try.underlying25 rfl (by rw [HML.out]; exact HI25.out)) rfl ⟨rfl, ?_⟩
          exact HC8.out.setRow (fun h => by omega) _

    · go_simp
      refine hK _ _ ?_
      clear hK K
      refine wpAny_ready (rs := [0]) (by kernel_rfl) (by simp) ?_
      refine AllReady.cons rfl (fun K hK => ?_) AllReady.nil
      go_simp
      refine hK _ _ ?_
      clear hK K
      refine wpAny_take (i := 2) (v := ?_) rfl (by kernel_rfl) (by kernel_rfl) (by kernel_rfl) (fun _ _ _ h => h) (Or.inl ⟨by rfl, ?_⟩) ?_
      rotate_left
      · intro w
        go_simp
        try with_reducible rfl
      refine wpAny_take (i := 3) (v := ?_) rfl (by kernel_rfl) (by kernel_rfl) (by kernel_rfl) (fun _ _ _ h => h) (Or.inl ⟨by rfl, ?_⟩) ?_
      rotate_left
      · intro w
        go_simp
        try with_reducible rfl
      refine wpAny_done (by kernel_rfl) ?_ _
      go_wp2_with fail
      obtain ⟨za, hza⟩ : ∃ z, z = w2.heap.size + 1 := ⟨_, rfl⟩
      obtain ⟨zb, hzb⟩ : ∃ z, z = w2.heap.size := ⟨_, rfl⟩
      obtain ⟨w3, hw3⟩ : ∃ w3, w3 = (w2.alloc (.cells (u8s (nots 64)) 5)).alloc (.cells (u8s (nots 64)) 5) := ⟨_, rfl⟩
      have BA : Hid (Blk w3 za 5 (u8s (nots 64))) := Lib.hid (by rw [hw3, hza]; exact Blk.new1 w2 _ _ _)
      have BB : Hid (Blk w3 zb 5 (u8s (nots 64))) := Lib.hid (by rw [hw3, hzb]; exact (Blk.new w2 _ _).alloc _)
      rw [← hw3, ← hza, ← hzb]
      have C3 : Hid (Chg nowhere w2 w3) := Lib.hid (by rw [hw3]; exact ((Chg.refl _ _).alloc _).alloc _)
      have hab : za ≠ zb := by omega
      have hba : zb ≠ za := by omega
      have h0a : z0 ≠ za := by have := B1'.out.lt; omega
      have h0b : z0 ≠ zb := by have := B1'.out.lt; omega
      have hwa : w2.heap.size ≤ za := by omega
      have hwb : w2.heap.size ≤ zb := by omega
      clear hza hzb hw3
      go_loopw [8, 9] (fun i _ wr => ∃ k : Nat, k ≤ 64 ∧ i = .int .i64 k ∧ Blk wr za 5 (u8s (upto (keyOf key) 0x5c k)) ∧ Blk wr zb 5 (u8s (upto (keyOf key) 0x36 k)) ∧ Chg nowhere w2 wr) (fun i _ _ => 64 - (intOf i).toNat)
      case atStart => exact ⟨0, Nat.zero_le _, rfl, by rw [upto_zero]; exact BA.out, by rw [upto_zero]; exact BB.out, C3.out⟩
      case round =>
        obtain ⟨k, hk, rfl, h1, h2, h3⟩ := hrel
        have H1 := Lib.hid h1
        have H2 := Lib.hid h2
        have H3 := Lib.hid h3
        clear h1 h2 h3
        by_cases hlt : k < 64
        · have e1 : (k : Int) < 64 := by omega
          have hcA : wr.cell? ⟨za, k, none⟩ = some (.int .u8 (((upto (keyOf key) 0x5c k).getD k 0).toNat : Int)) := by
            rw [H1.out.cell, u8s_get _ _ (by rw [upto_len _ _ _ HKF.out hk]; omega)]
          have hfA : wr.frozen? ⟨za, k, none⟩ = false := H1.out.frozen k
          have hfB0 : wr.frozen? ⟨zb, k, none⟩ = false := H2.out.frozen k
          have hcB0 : wr.cell? ⟨zb, k, none⟩ = some (.int .u8 (((upto (keyOf key) 0x36 k).getD k 0).toNat : Int)) := by
            rw [H2.out.cell, u8s_get _ _ (by rw [upto_len _ _ _ HKF.out hk]; omega)]
          have hs1 := upto_set (keyOf key) 0x5c k HKF.out hlt
          have hs2 := upto_set (keyOf key) 0x36 k HKF.out hlt
          by_cases hin : k < n
          · have e3 : (k : Int) < n := by omega
            obtain ⟨ad, x, hAe, hxk, hca⟩ := (K1'.out.later H3.out).byte (k := k) (by rw [HKN.out]; exact hin)
            subst hAe
            have hx : x = (keyOf key).getD k 0 := by
              have h := keyOf_at key key HKX.out k (by rw [HKN.out]; exact hin)
              rw [hxk] at h
              injection h
            obtain ⟨y1, hy1⟩ : ∃ y, y = x ^^^ (0x5c : UInt8) := ⟨_, rfl⟩
            obtain ⟨y2, hy2⟩ : ∃ y, y = x ^^^ (0x36 : UInt8) := ⟨_, rfl⟩
            have q1 := xor_u8 x 0x5c 92 rfl
            have q2 := xor_u8 x 0x36 54 rfl
            rw [← hy1] at q1
            rw [← hy2] at q2
            rw [← hx, ← hy1] at hs1
            rw [← hx, ← hy2] at hs2
            clear hx hy1 hy2
            have HNA := Lib.hid (H1.out.set_ k (.int .u8 (y1.toNat : Int)))
            have HN1 : Hid (Blk (wr.setCell ⟨za, k, none⟩ (.int .u8 (y1.toNat : Int))) za 5 (u8s (upto (keyOf key) 0x5c (k + 1)))) := Lib.hid (by
              rw [← hs1]
              exact (u8s_set (upto (keyOf key) 0x5c k) k y1) ▸ HNA.out)
            have HN2 : Hid (Blk (wr.setCell ⟨za, k, none⟩ (.int .u8 (y1.toNat : Int))) zb 5 (u8s (upto (keyOf key) 0x36 k))) := Lib.hid (H2.out.far (p := ⟨za, k, none⟩) hba _)
            have hcB : (wr.setCell ⟨za, k, none⟩ (.int .u8 (y1.toNat : Int))).cell? ⟨zb, k, none⟩ = some (.int .u8 (((upto (keyOf key) 0x36 k).getD k 0).toNat : Int)) := by
              rw [HN2.out.cell, u8s_get _ _ (by rw [upto_len _ _ _ HKF.out hk]; omega)]
            have hfB : (wr.setCell ⟨za, k, none⟩ (.int .u8 (y1.toNat : Int))).frozen? ⟨zb, k, none⟩ = false := HN2.out.frozen k
            have HN3 := Lib.hid (HN2.out.set_ k (.int .u8 (y2.toNat : Int)))
            have HN4 : Hid (Blk ((wr.setCell ⟨za, k, none⟩ (.int .u8 (y1.toNat : Int))).setCell ⟨zb, k, none⟩ (.int .u8 (y2.toNat : Int))) zb 5 (u8s (upto (keyOf key) 0x36 (k + 1)))) := Lib.hid (by
              rw [← hs2]
              exact (u8s_set (upto (keyOf key) 0x36 k) k y2) ▸ HN3.out)
            have HN5 : Hid (Blk ((wr.setCell ⟨za, k, none⟩ (.int .u8 (y1.toNat : Int))).setCell ⟨zb, k, none⟩ (.int .u8 (y2.toNat : Int))) za 5 (u8s (upto (keyOf key) 0x5c (k + 1)))) := Lib.hid (HN1.out.far (p := ⟨zb, k, none⟩) hab _)
            have HC : Hid (Chg nowhere w2 ((wr.setCell ⟨za, k, none⟩ (.int .u8 (y1.toNat : Int))).setCell ⟨zb, k, none⟩ (.int .u8 (y2.toNat : Int)))) := Lib.hid ((H3.out.setCell (p := ⟨za, k, none⟩) (fun h => by have h' : za < w2.heap.size := h; omega) _).setCell (p := ⟨zb, k, none⟩) (fun h => by have h' : zb < w2.heap.size := h; omega) _)
            generalize ((upto (keyOf key) 0x5c k).getD k 0) = x1 at *
            generalize ((upto (keyOf key) 0x36 k).getD k 0) = x2 at *
            clear hs1 hs2 HNA HN3
            go_wp2_with fail
            exact ⟨⟨k + 1, by omega, by go_num, HN5.out, HN4.out, HC.out⟩, by simp [intOf]; omega⟩
          · have e3 : ¬ (k : Int) < n := by omega
            have hx := keyOf_past key key HKX.out k (by rw [HKN.out]; omega)
            rw [hx] at hs1 hs2
            have HNA := Lib.hid (H1.out.set_ k (.int .u8 92))
            have HN1 : Hid (Blk (wr.setCell ⟨za, k, none⟩ (.int .u8 92)) za 5 (u8s (upto (keyOf key) 0x5c (k + 1)))) := Lib.hid (by
              rw [← hs1]
              exact (u8s_set (upto (keyOf key) 0x5c k) k 92) ▸ HNA.out)
            have HN2 : Hid (Blk (wr.setCell ⟨za, k, none⟩ (.int .u8 92)) zb 5 (u8s (upto (keyOf key) 0x36 k))) := Lib.hid (H2.out.far (p := ⟨za, k, none⟩) hba _)
            have hcB : (wr.setCell ⟨za, k, none⟩ (.int .u8 92)).cell? ⟨zb, k, none⟩ = some (.int .u8 (((upto (keyOf key) 0x36 k).getD k 0).toNat : Int)) := by
              rw [HN2.out.cell, u8s_get _ _ (by rw [upto_len _ _ _ HKF.out hk]; omega)]
            have hfB : (wr.setCell ⟨za, k, none⟩ (.int .u8 92)).frozen? ⟨zb, k, none⟩ = false := HN2.out.frozen k
            have HN3 := Lib.hid (HN2.out.set_ k (.int .u8 54))
            have HN4 : Hid (Blk ((wr.setCell ⟨za, k, none⟩ (.int .u8 92)).setCell ⟨zb, k, none⟩ (.int .u8 54)) zb 5 (u8s (upto (keyOf key) 0x36 (k + 1)))) := Lib.hid (by
              rw [← hs2]
              exact (u8s_set (upto (keyOf key) 0x36 k) k 54) ▸ HN3.out)
            have HN5 : Hid (Blk ((wr.setCell ⟨za, k, none⟩ (.int .u8 92)).setCell ⟨zb, k, none⟩ (.int .u8 54)) za 5 (u8s (upto (keyOf key) 0x5c (k + 1)))) := Lib.hid (HN1.out.far (p := ⟨zb, k, none⟩) hab _)
            have HC : Hid (Chg nowhere w2 ((wr.setCell ⟨za, k, none⟩ (.int .u8 92)).setCell ⟨zb, k, none⟩ (.int .u8 54))) := Lib.hid ((H3.out.setCell (p := ⟨za, k, none⟩) (fun h => by have h' : za < w2.heap.size := h; omega) _).setCell (p := ⟨zb, k, none⟩) (fun h => by have h' : zb < w2.heap.size := h; omega) _)
            generalize ((upto (keyOf key) 0x5c k).getD k 0) = x1 at *
            generalize ((upto (keyOf key) 0x36 k).getD k 0) = x2 at *
            clear hs1 hs2 HNA HN3
            go_wp2_with fail
            exact ⟨⟨k + 1, by omega, by go_num, HN5.out, HN4.out, HC.out⟩, by simp [intOf]; omega⟩
        · have e1 : (64 : Int) ≤ k := by omega
          obtain rfl : k = 64 := by omega
          rw [upto_end _ _ HKF.out] at H1 H2
          obtain ⟨k1, hk1⟩ : ∃ k, k = (keyOf key).map (· ^^^ (0x36 : UInt8)) := ⟨_, rfl⟩
          obtain ⟨k2, hk2⟩ : ∃ k, k = (keyOf key).map (· ^^^ (0x5c : UInt8)) := ⟨_, rfl⟩
          have HK1L : Hid (k1.length = 64) := Lib.hid (by rw [hk1, List.length_map, keyOf_len])
          have HK2L : Hid (k2.length = 64) := Lib.hid (by rw [hk2, List.length_map, keyOf_len])
          obtain ⟨inn, hinn⟩ : ∃ x, x = sha (k1 ++ p) := ⟨_, rfl⟩
          have HIL : Hid (inn.length = 32) := Lib.hid (by rw [hinn, sha_len])
          have HMAC2 : Hid (sha (k2 ++ inn) = macOf key p) := Lib.hid (by rw [hinn, hk1, hk2]; rfl)
          rw [← hk2] at H1
          rw [← hk1] at H2
          have HIN := Lib.hid hinn
          clear hk1 hk2 hinn
          have HCW : Hid (Chg nowhere w wr) := Lib.hid (C1'.out.step H3.out (fun _ h => h.elim))
          have HOB : Hid (Own wr 5 1 (some ⟨zb, 0, none⟩) 64 64 (bs k1)) := Lib.hid (nots_own H2.out HK1L.out)
          have HZ : Hid (Blk wr z0 25 (u8s (nots 32))) := Lib.hid (B1'.out.chg H3.out (fun h => h))
          have HRP := Lib.hid (HR2.out.later HCW.out)
          go_wp2_with (at_builtin; refine wpList_append_many rfl (.tmp 41) (.tmp 42) elemB rfl (Nat.le_refl _) rfl HOB.out rfl HRP.out HMB (bs_one p) HB0 ?_)
          intro A5 c5 w5 hown5 hchg5 hA5
          have hne1 : Chg (fun k => zb = k) wr w5 := hchg5
          have HO5 : Hid (Own w5 5 1 A5 (64 + m) c5 (bs (k1 ++ p))) := Lib.hid (by rw [← bs_append]; exact hown5)
          have HC5 : Hid (Chg nowhere w w5) := Lib.hid (HCW.out.step hne1 (fun x hx => by
            have h1 : zb = x := hx
            have h2 := C1'.out.size
            omega))
          have BA5 : Hid (Blk w5 za 5 (u8s k2)) := Lib.hid (H1.out.chg hne1 (fun h => hba h))
          have HZ5 : Hid (Blk w5 z0 25 (u8s (nots 32))) := Lib.hid (HZ.out.chg hne1 (fun h => h0b h.symm))
          clear hown5 hchg5 hA5 hne1
          go_wp2_with fail
          refine (dRefSum_calls A5 (64 + m) c5 (k1 ++ p) _ HO5.out.rd (by rw [List.length_append, HK1L.out, HM.out]) (by omega)).mono ?_
          rintro e w6 ⟨rfl, h6⟩
          rw [← HIN.out]
          have HC6 := Lib.hid (HC5.out.step h6.out (fun _ h => h.elim))
          have BA6 := Lib.hid (BA5.out.chg h6.out (fun h => h))
          have HZ6 := Lib.hid (HZ5.out.chg h6.out (fun h => h))
          have HILS : Hid ((u8s inn).size = 32) := Lib.hid (by rw [u8s_size, HIL.out])
          have HIB : Hid ((bs inn).length = 32) := Lib.hid (by rw [bs_length, HIL.out])
          have HB6 : Hid (64 + 32 ≤ lim) := hid_lim (by decide)
          have hza6 : za < w6.heap.size := BA6.out.lt
          clear h6
          go_wp2_with (first | (refine wpList_store_row rfl 25 _ _ rfl w6.heap.size (u8s inn) rfl rfl 25 _ (heap_alloc_new w6 _) (by rw [HILS.out]; exact HI25.out) (by rw [HILS.out]; rfl) (u8s_one _) ?_) | (at_builtin; refine wpList_append_many rfl (.tmp 45) (.tmp 46) elemB rfl (Nat.le_refl _) rfl (nots_own ((BA6.out.alloc _).rowFar (Nat.ne_of_lt hza6) _) HK2L.out) rfl (rd_u8s ((Blk.new w6 _ _).row_ _)) HIB (bs_one inn) HB6 ?_))
          intro A7 c7 w7 hown7 hchg7 hA7
          rw [World.setRow_alloc_new] at hchg7
          have hne2 : Chg (fun k => za = k) (w6.alloc (.cells (u8s inn) 25)) w7 := hchg7
          have HO7 : Hid (Own w7 5 1 A7 (64 + 32) c7 (bs (k2 ++ inn))) := Lib.hid (by rw [← bs_append]; exact hown7)
          have HC7 : Hid (Chg nowhere w w7) := Lib.hid ((HC6.out.alloc _).step hne2 (fun x hx => by
            have h1 : za = x := hx
            have h2 := C1'.out.size
            omega))
          have HZ7 : Hid (Blk w7 z0 25 (u8s (nots 32))) := Lib.hid ((HZ6.out.alloc _).chg hne2 (fun h => h0a h.symm))
          clear hown7 hchg7 hA7 hne2
          go_wp2_with fail
          refine (dRefSum_calls A7 (64 + 32) c7 (k2 ++ inn) _ HO7.out.rd (by rw [List.length_append, HK2L.out, HIL.out]) (by decide)).mono ?_
          rintro e w8 ⟨rfl, h8⟩
          rw [HMAC2.out]
          have HC8 := Lib.hid (HC7.out.step h8.out (fun _ h => h.elim))
          have HZ8 := Lib.hid (HZ7.out.chg h8.out (fun h => h))
          clear h8
          go_wp2_with (refine wpList_store_row rfl 25 _ _ rfl z0 (u8s (macOf key p)) rfl rfl 25 _ HZ8.out (by rw [HML.out]; exact HI25.out) (by rw [HML.out]; rfl) (u8s_one _) ?_)
          refine bodyPost_ret (v := .agg (u8s (macOf key p))) (results_cell_row rfl _ _ z0 25 _ (0, 0) _ rfl (HZ8.out.row_ _) Try.underlying25 rfl (by rw [HML.out]; exact HI25.out)) rfl ⟨rfl, ?_⟩
          exact HC8.out.setRow (fun h => by omega) _

  · have e1 : (64 : Int) < n := by omega
    have HKN : Hid ((sha key).length = 32) := Lib.hid (sha_len key)
    have HSLS : Hid ((u8s (sha key)).size = 32) := Lib.hid (by rw [u8s_size, sha_len])
    have HKX := Lib.hid (show keyOf key = sha key ++ nots (64 - (sha key).length) by unfold keyOf; rw [if_neg (by rw [HN.out]; exact h64), sha_len])
    go_enter Try.func28, Try.ntmps28
    go_wp2_with fail
    refine (dRefSum_calls A n c key _ (HR.out.alloc _) HN.out (by omega)).mono ?_
    rintro e w0 ⟨rfl, h0⟩
    have B0 : Hid (Blk w0 w.heap.size 25 (u8s (nots 32))) := Lib.hid ((show Blk (w.alloc (.cells (u8s (nots 32)) 25)) w.heap.size 25 (u8s (nots 32)) from Blk.new w _ _).chg h0.out (fun h => h))
    have C0 : Hid (Chg nowhere w w0) := Lib.hid (((Chg.refl _ _).alloc _).step h0.out (fun _ h => h.elim))
    clear h0
    go_wp2_with (refine wpList_store_row rfl 25 _ _ rfl w0.heap.size (u8s (sha key)) rfl rfl 25 _ (heap_alloc_new w0 _) (by rw [HSLS.out]; exact HI25.out) (by rw [HSLS.out]; rfl) (u8s_one _) ?_)
    rw [World.setRow_alloc_new]
    obtain ⟨z0, hz0⟩ : ∃ z, z = w.heap.size := ⟨_, rfl⟩
    obtain ⟨w1, hw1⟩ : ∃ w1, w1 = w0.alloc (.cells (u8s (sha key)) 25) := ⟨_, rfl⟩
    obtain ⟨AK, hAK⟩ : ∃ A : Option Addr, A = some ⟨w0.heap.size, 0, none⟩ := ⟨_, rfl⟩
    have B1 : Hid (Blk w1 z0 25 (u8s (nots 32))) := Lib.hid (by rw [hw1, hz0]; exact B0.out.alloc _)
    have C1 : Hid (Chg nowhere w w1) := Lib.hid (by rw [hw1]; exact C0.out.alloc _)
    have R1 : Hid (Rd w1 AK (bs (sha key))) := Lib.hid (by rw [hw1, hAK]; exact rd_u8s (Blk.new w0 _ _))
    have hzw : w.heap.size ≤ z0 := by omega
    rw [← hw1, ← hz0, ← hAK]
    clear hw1 hz0 hAK
    refine wp_region_any (by kernel_rfl) ?_
    change wpAny _ _ _ _ _ _ _ (World.drew _)
    have B1' : Hid (Blk (World.drew w1) z0 25 (u8s (nots 32))) := B1
    have C1' : Hid (Chg nowhere w (World.drew w1)) := Lib.hid C1.out.drew
    have K1' : Hid (Rd (World.drew w1) AK (bs (sha key))) := R1
    generalize World.drew w1 = w2 at *
    refine wpAny_ready (rs := [0, 1]) (by kernel_rfl) (by simp) ?_
    refine AllReady.cons rfl (fun K hK => ?_) (AllReady.cons rfl (fun K hK => ?_) AllReady.nil)
    · go_simp
      refine hK _ _ ?_
      clear hK K
      refine wpAny_take (i := 2) (v := ?_) rfl (by kernel_rfl) (by kernel_rfl) (by kernel_rfl) (fun _ _ _ h => h) (Or.inl ⟨by rfl, ?_⟩) ?_
      rotate_left
      · intro w
        go_simp
        try with_reducible rfl
      refine wpAny_ready (rs := [1]) (by kernel_rfl) (by simp) ?_
      refine AllReady.cons rfl (fun K hK => ?_) AllReady.nil
      go_simp
      refine hK _ _ ?_
      clear hK K
      refine wpAny_take (i := 3) (v := ?_) rfl (by kernel_rfl) (by kernel_rfl) (by kernel_rfl) (fun _ _ _ h => h) (Or.inl ⟨by rfl, ?_⟩) ?_
      rotate_left
      · intro w
        go_simp
        try with_reducible rfl
      refine wpAny_done (by kernel_rfl) ?_ _
      go_wp2_with fail
      obtain ⟨za, hza⟩ : ∃ z, z = w2.heap.size := ⟨_, rfl⟩
      obtain ⟨zb, hzb⟩ : ∃ z, z = w2.heap.size + 1 := ⟨_, rfl⟩
      obtain ⟨w3, hw3⟩ : ∃ w3, w3 = (w2.alloc (.cells (u8s (nots 64)) 5)).alloc (.cells (u8s (nots 64)) 5) := ⟨_, rfl⟩
      have BA : Hid (Blk w3 za 5 (u8s (nots 64))) := Lib.hid (by rw [hw3, hza]; exact (Blk.new w2 _ _).alloc _)
      have BB : Hid (Blk w3 zb 5 (u8s (nots 64))) := Lib.hid (by rw [hw3, hzb]; exact Blk.new1 w2 _ _ _)
      rw [← hw3, ← hzb, ← hza]
      have C3 : Hid (Chg nowhere w2 w3) := Lib.hid (by rw [hw3]; exact ((Chg.refl _ _).alloc _).alloc _)
      have hab : za ≠ zb := by omega
      have hba : zb ≠ za := by omega
      have h0a : z0 ≠ za := by have := B1'.out.lt; omega
      have h0b : z0 ≠ zb := by have := B1'.out.lt; omega
      have hwa : w2.heap.size ≤ za := by omega
      have hwb : w2.heap.size ≤ zb := by omega
      clear hza hzb hw3
      go_loopw [8, 9] (fun i _ wr => ∃ k : Nat, k ≤ 64 ∧ i = .int .i64 k ∧ Blk wr za 5 (u8s (upto (keyOf key) 0x5c k)) ∧ Blk wr zb 5 (u8s (upto (keyOf key) 0x36 k)) ∧ Chg nowhere w2 wr) (fun i _ _ => 64 - (intOf i).toNat)
      case atStart => exact ⟨0, Nat.zero_le _, rfl, by rw [upto_zero]; exact BA.out, by rw [upto_zero]; exact BB.out, C3.out⟩
      case round =>
        obtain ⟨k, hk, rfl, h1, h2, h3⟩ := hrel
        have H1 := Lib.hid h1
        have H2 := Lib.hid h2
        have H3 := Lib.hid h3
        clear h1 h2 h3
        by_cases hlt : k < 64
        · have e1 : (k : Int) < 64 := by omega
          have hcA : wr.cell? ⟨za, k, none⟩ = some (.int .u8 (((upto (keyOf key) 0x5c k).getD k 0).toNat : Int)) := by
            rw [H1.out.cell, u8s_get _ _ (by rw [upto_len _ _ _ HKF.out hk]; omega)]
          have hfA : wr.frozen? ⟨za, k, none⟩ = false := H1.out.frozen k
          have hfB0 : wr.frozen? ⟨zb, k, none⟩ = false := H2.out.frozen k
          have hcB0 : wr.cell? ⟨zb, k, none⟩ = some (.int .u8 (((upto (keyOf key) 0x36 k).getD k 0).toNat : Int)) := by
            rw [H2.out.cell, u8s_get _ _ (by rw [upto_len _ _ _ HKF.out hk]; omega)]
          have hs1 := upto_set (keyOf key) 0x5c k HKF.out hlt
          have hs2 := upto_set (keyOf key) 0x36 k HKF.out hlt
          by_cases hin : k < 32
          · have e3 : (k : Int) < 32 := by omega
            obtain ⟨ad, x, hAe, hxk, hca⟩ := (K1'.out.later H3.out).byte (k := k) (by rw [HKN.out]; exact hin)
            subst hAe
            have hx : x = (keyOf key).getD k 0 := by
              have h := keyOf_at key (sha key) HKX.out k (by rw [HKN.out]; exact hin)
              rw [hxk] at h
              injection h
            obtain ⟨y1, hy1⟩ : ∃ y, y = x ^^^ (0x5c : UInt8) := ⟨_, rfl⟩
            obtain ⟨y2, hy2⟩ : ∃ y, y = x ^^^ (0x36 : UInt8) := ⟨_, rfl⟩
            have q1 := xor_u8 x 0x5c 92 rfl
            have q2 := xor_u8 x 0x36 54 rfl
            rw [← hy1] at q1
            rw [← hy2] at q2
            rw [← hx, ← hy1] at hs1
            rw [← hx, ← hy2] at hs2
            clear hx hy1 hy2
            have HNA := Lib.hid (H1.out.set_ k (.int .u8 (y1.toNat : Int)))
            have HN1 : Hid (Blk (wr.setCell ⟨za, k, none⟩ (.int .u8 (y1.toNat : Int))) za 5 (u8s (upto (keyOf key) 0x5c (k + 1)))) := Lib.hid (by
              rw [← hs1]
              exact (u8s_set (upto (keyOf key) 0x5c k) k y1) ▸ HNA.out)
            have HN2 : Hid (Blk (wr.setCell ⟨za, k, none⟩ (.int .u8 (y1.toNat : Int))) zb 5 (u8s (upto (keyOf key) 0x36 k))) := Lib.hid (H2.out.far (p := ⟨za, k, none⟩) hba _)
            have hcB : (wr.setCell ⟨za, k, none⟩ (.int .u8 (y1.toNat : Int))).cell? ⟨zb, k, none⟩ = some (.int .u8 (((upto (keyOf key) 0x36 k).getD k 0).toNat : Int)) := by
              rw [HN2.out.cell, u8s_get _ _ (by rw [upto_len _ _ _ HKF.out hk]; omega)]
            have hfB : (wr.setCell ⟨za, k, none⟩ (.int .u8 (y1.toNat : Int))).frozen? ⟨zb, k, none⟩ = false := HN2.out.frozen k
            have HN3 := Lib.hid (HN2.out.set_ k (.int .u8 (y2.toNat : Int)))
            have HN4 : Hid (Blk ((wr.setCell ⟨za, k, none⟩ (.int .u8 (y1.toNat : Int))).setCell ⟨zb, k, none⟩ (.int .u8 (y2.toNat : Int))) zb 5 (u8s (upto (keyOf key) 0x36 (k + 1)))) := Lib.hid (by
              rw [← hs2]
              exact (u8s_set (upto (keyOf key) 0x36 k) k y2) ▸ HN3.out)
            have HN5 : Hid (Blk ((wr.setCell ⟨za, k, none⟩ (.int .u8 (y1.toNat : Int))).setCell ⟨zb, k, none⟩ (.int .u8 (y2.toNat : Int))) za 5 (u8s (upto (keyOf key) 0x5c (k + 1)))) := Lib.hid (HN1.out.far (p := ⟨zb, k, none⟩) hab _)
            have HC : Hid (Chg nowhere w2 ((wr.setCell ⟨za, k, none⟩ (.int .u8 (y1.toNat : Int))).setCell ⟨zb, k, none⟩ (.int .u8 (y2.toNat : Int)))) := Lib.hid ((H3.out.setCell (p := ⟨za, k, none⟩) (fun h => by have h' : za < w2.heap.size := h; omega) _).setCell (p := ⟨zb, k, none⟩) (fun h => by have h' : zb < w2.heap.size := h; omega) _)
            generalize ((upto (keyOf key) 0x5c k).getD k 0) = x1 at *
            generalize ((upto (keyOf key) 0x36 k).getD k 0) = x2 at *
            clear hs1 hs2 HNA HN3
            go_wp2_with fail
            exact ⟨⟨k + 1, by omega, by go_num, HN5.out, HN4.out, HC.out⟩, by simp [intOf]; omega⟩
          · have e3 : ¬ (k : Int) < 32 := by omega
            have hx := keyOf_past key (sha key) HKX.out k (by rw [HKN.out]; omega)
            rw [hx] at hs1 hs2
            have HNA := Lib.hid (H1.out.set_ k (.int .u8 92))
            have HN1 : Hid (Blk (wr.setCell ⟨za, k, none⟩ (.int .u8 92)) za 5 (u8s (upto (keyOf key) 0x5c (k + 1)))) := Lib.hid (by
              rw [← hs1]
              exact (u8s_set (upto (keyOf key) 0x5c k) k 92) ▸ HNA.out)
            have HN2 : Hid (Blk (wr.setCell ⟨za, k, none⟩ (.int .u8 92)) zb 5 (u8s (upto (keyOf key) 0x36 k))) := Lib.hid (H2.out.far (p := ⟨za, k, none⟩) hba _)
            have hcB : (wr.setCell ⟨za, k, none⟩ (.int .u8 92)).cell? ⟨zb, k, none⟩ = some (.int .u8 (((upto (keyOf key) 0x36 k).getD k 0).toNat : Int)) := by
              rw [HN2.out.cell, u8s_get _ _ (by rw [upto_len _ _ _ HKF.out hk]; omega)]
            have hfB : (wr.setCell ⟨za, k, none⟩ (.int .u8 92)).frozen? ⟨zb, k, none⟩ = false := HN2.out.frozen k
            have HN3 := Lib.hid (HN2.out.set_ k (.int .u8 54))
            have HN4 : Hid (Blk ((wr.setCell ⟨za, k, none⟩ (.int .u8 92)).setCell ⟨zb, k, none⟩ (.int .u8 54)) zb 5 (u8s (upto (keyOf key) 0x36 (k + 1)))) := Lib.hid (by
              rw [← hs2]
              exact (u8s_set (upto (keyOf key) 0x36 k) k 54) ▸ HN3.out)
            have HN5 : Hid (Blk ((wr.setCell ⟨za, k, none⟩ (.int .u8 92)).setCell ⟨zb, k, none⟩ (.int .u8 54)) za 5 (u8s (upto (keyOf key) 0x5c (k + 1)))) := Lib.hid (HN1.out.far (p := ⟨zb, k, none⟩) hab _)
            have HC : Hid (Chg nowhere w2 ((wr.setCell ⟨za, k, none⟩ (.int .u8 92)).setCell ⟨zb, k, none⟩ (.int .u8 54))) := Lib.hid ((H3.out.setCell (p := ⟨za, k, none⟩) (fun h => by have h' : za < w2.heap.size := h; omega) _).setCell (p := ⟨zb, k, none⟩) (fun h => by have h' : zb < w2.heap.size := h; omega) _)
            generalize ((upto (keyOf key) 0x5c k).getD k 0) = x1 at *
            generalize ((upto (keyOf key) 0x36 k).getD k 0) = x2 at *
            clear hs1 hs2 HNA HN3
            go_wp2_with fail
            exact ⟨⟨k + 1, by omega, by go_num, HN5.out, HN4.out, HC.out⟩, by simp [intOf]; omega⟩
        · have e1 : (64 : Int) ≤ k := by omega
          obtain rfl : k = 64 := by omega
          rw [upto_end _ _ HKF.out] at H1 H2
          obtain ⟨k1, hk1⟩ : ∃ k, k = (keyOf key).map (· ^^^ (0x36 : UInt8)) := ⟨_, rfl⟩
          obtain ⟨k2, hk2⟩ : ∃ k, k = (keyOf key).map (· ^^^ (0x5c : UInt8)) := ⟨_, rfl⟩
          have HK1L : Hid (k1.length = 64) := Lib.hid (by rw [hk1, List.length_map, keyOf_len])
          have HK2L : Hid (k2.length = 64) := Lib.hid (by rw [hk2, List.length_map, keyOf_len])
          obtain ⟨inn, hinn⟩ : ∃ x, x = sha (k1 ++ p) := ⟨_, rfl⟩
          have HIL : Hid (inn.length = 32) := Lib.hid (by rw [hinn, sha_len])
          have HMAC2 : Hid (sha (k2 ++ inn) = macOf key p) := Lib.hid (by rw [hinn, hk1, hk2]; rfl)
          rw [← hk2] at H1
          rw [← hk1] at H2
          have HIN := Lib.hid hinn
          clear hk1 hk2 hinn
          have HCW : Hid (Chg nowhere w wr) := Lib.hid (C1'.out.step H3.out (fun _ h => h.elim))
          have HOB : Hid (Own wr 5 1 (some ⟨zb, 0, none⟩) 64 64 (bs k1)) := Lib.hid (nots_own H2.out HK1L.out)
          have HZ : Hid (Blk wr z0 25 (u8s (nots 32))) := Lib.hid (B1'.out.chg H3.out (fun h => h))
          have HRP := Lib.hid (HR2.out.later HCW.out)
          go_wp2_with (at_builtin; refine wpList_append_many rfl (.tmp 41) (.tmp 42) elemB rfl (Nat.le_refl _) rfl HOB.out rfl HRP.out HMB (bs_one p) HB0 ?_)
          intro A5 c5 w5 hown5 hchg5 hA5
          have hne1 : Chg (fun k => zb = k) wr w5 := hchg5
          have HO5 : Hid (Own w5 5 1 A5 (64 + m) c5 (bs (k1 ++ p))) := Lib.hid (by rw [← bs_append]; exact hown5)
          have HC5 : Hid (Chg nowhere w w5) := Lib.hid (HCW.out.step hne1 (fun x hx => by
            have h1 : zb = x := hx
            have h2 := C1'.out.size
            omega))
          have BA5 : Hid (Blk w5 za 5 (u8s k2)) := Lib.hid (H1.out.chg hne1 (fun h => hba h))
          have HZ5 : Hid (Blk w5 z0 25 (u8s (nots 32))) := Lib.hid (HZ.out.chg hne1 (fun h => h0b h.symm))
          clear hown5 hchg5 hA5 hne1
          go_wp2_with fail
          refine (dRefSum_calls A5 (64 + m) c5 (k1 ++ p) _ HO5.out.rd (by rw [List.length_append, HK1L.out, HM.out]) (by omega)).mono ?_
          rintro e w6 ⟨rfl, h6⟩
          rw [← HIN.out]
          have HC6 := Lib.hid (HC5.out.step h6.out (fun _ h => h.elim))
          have BA6 := Lib.hid (BA5.out.chg h6.out (fun h => h))
          have HZ6 := Lib.hid (HZ5.out.chg h6.out (fun h => h))
          have HILS : Hid ((u8s inn).size = 32) := Lib.hid (by rw [u8s_size, HIL.out])
          have HIB : Hid ((bs inn).length = 32) := Lib.hid (by rw [bs_length, HIL.out])
          have HB6 : Hid (64 + 32 ≤ lim) := hid_lim (by decide)
          have hza6 : za < w6.heap.size := BA6.out.lt
          clear h6
          go_wp2_with (first | (refine wpList_store_row rfl 25 _ _ rfl w6.heap.size (u8s inn) rfl rfl 25 _ (heap_alloc_new w6 _) (by rw [HILS.out]; exact HI25.out) (by rw [HILS.out]; rfl) (u8s_one _) ?_) | (at_builtin; refine wpList_append_many rfl (.tmp 45) (.tmp 46) elemB rfl (Nat.le_refl _) rfl (nots_own ((BA6.out.alloc _).rowFar (Nat.ne_of_lt hza6) _) HK2L.out) rfl (rd_u8s ((Blk.new w6 _ _).row_ _)) HIB (bs_one inn) HB6 ?_))
          intro A7 c7 w7 hown7 hchg7 hA7
          rw [World.setRow_alloc_new] at hchg7
          have hne2 : Chg (fun k => za = k) (w6.alloc (.cells (u8s inn) 25)) w7 := hchg7
          have HO7 : Hid (Own w7 5 1 A7 (64 + 32) c7 (bs (k2 ++ inn))) := Lib.hid (by rw [← bs_append]; exact hown7)
          have HC7 : Hid (Chg nowhere w w7) := Lib.hid ((HC6.out.alloc _).step hne2 (fun x hx => by
            have h1 : za = x := hx
            have h2 := C1'.out.size
            omega))
          have HZ7 : Hid (Blk w7 z0 25 (u8s (nots 32))) := Lib.hid ((HZ6.out.alloc _).chg hne2 (fun h => h0a h.symm))
          clear hown7 hchg7 hA7 hne2
          go_wp2_with fail
          refine (dRefSum_calls A7 (64 + 32) c7 (k2 ++ inn) _ HO7.out.rd (by rw [List.length_append, HK2L.out, HIL.out]) (by decide)).mono ?_
          rintro e w8 ⟨rfl, h8⟩
          rw [HMAC2.out]
          have HC8 := Lib.hid (HC7.out.step h8.out (fun _ h => h.elim))
          have HZ8 := Lib.hid (HZ7.out.chg h8.out (fun h => h))
          clear h8
          go_wp2_with (refine wpList_store_row rfl 25 _ _ rfl z0 (u8s (macOf key p)) rfl rfl 25 _ HZ8.out (by rw [HML.out]; exact HI25.out) (by rw [HML.out]; rfl) (u8s_one _) ?_)
          refine bodyPost_ret (v := .agg (u8s (macOf key p))) (results_cell_row rfl _ _ z0 25 _ (0, 0) _ rfl (HZ8.out.row_ _) Try.underlying25 rfl (by rw [HML.out]; exact HI25.out)) rfl ⟨rfl, ?_⟩
          exact HC8.out.setRow (fun h => by omega) _

    · go_simp
      refine hK _ _ ?_
      clear hK K
      refine wpAny_ready (rs := [0]) (by kernel_rfl) (by simp) ?_
      refine AllReady.cons rfl (fun K hK => ?_) AllReady.nil
      go_simp
      refine hK _ _ ?_
      clear hK K
      refine wpAny_take (i := 2) (v := ?_) rfl (by kernel_rfl) (by kernel_rfl) (by kernel_rfl) (fun _ _ _ h => h) (Or.inl ⟨by rfl, ?_⟩) ?_
      rotate_left
      · intro w
        go_simp
        try with_reducible rfl
      refine wpAny_take (i := 3) (v := ?_) rfl (by kernel_rfl) (by kernel_rfl) (by kernel_rfl) (fun _ _ _ h => h) (Or.inl ⟨by rfl, ?_⟩) ?_
      rotate_left
      · intro w
        go_simp
        try with_reducible rfl
      refine wpAny_done (by kernel_rfl) ?_ _
      go_wp2_with fail
      obtain ⟨za, hza⟩ : ∃ z, z = w2.heap.size + 1 := ⟨_, rfl⟩
      obtain ⟨zb, hzb⟩ : ∃ z, z = w2.heap.size := ⟨_, rfl⟩
      obtain ⟨w3, hw3⟩ : ∃ w3, w3 = (w2.alloc (.cells (u8s (nots 64)) 5)).alloc (.cells (u8s (nots 64)) 5) := ⟨_, rfl⟩
      have BA : Hid (Blk w3 za 5 (u8s (nots 64))) := Lib.hid (by rw [hw3, hza]; exact Blk.new1 w2 _ _ _)
      have BB : Hid (Blk w3 zb 5 (u8s (nots 64))) := Lib.hid (by rw [hw3, hzb]; exact (Blk.new w2 _ _).alloc _)
      rw [← hw3, ← hza, ← hzb]
      have C3 : Hid (Chg nowhere w2 w3) := Lib.hid (by rw [hw3]; exact ((Chg.refl _ _).alloc _).alloc _)
      have hab : za ≠ zb := by omega
      have hba : zb ≠ za := by omega
      have h0a : z0 ≠ za := by have := B1'.out.lt; omega
      have h0b : z0 ≠ zb := by have := B1'.out.lt; omega
      have hwa : w2.heap.size ≤ za := by omega
      have hwb : w2.heap.size ≤ zb := by omega
      clear hza hzb hw3
      go_loopw [8, 9] (fun i _ wr => ∃ k : Nat, k ≤ 64 ∧ i = .int .i64 k ∧ Blk wr za 5 (u8s (upto (keyOf key) 0x5c k)) ∧ Blk wr zb 5 (u8s (upto (keyOf key) 0x36 k)) ∧ Chg nowhere w2 wr) (fun i _ _ => 64 - (intOf i).toNat)
      case atStart => exact ⟨0, Nat.zero_le _, rfl, by rw [upto_zero]; exact BA.out, by rw [upto_zero]; exact BB.out, C3.out⟩
      case round =>
        obtain ⟨k, hk, rfl, h1, h2, h3⟩ := hrel
        have H1 := Lib.hid h1
        have H2 := Lib.hid h2
        have H3 := Lib.hid h3
        clear h1 h2 h3
        by_cases hlt : k < 64
        · have e1 : (k : Int) < 64 := by omega
          have hcA : wr.cell? ⟨za, k, none⟩ = some (.int .u8 (((upto (keyOf key) 0x5c k).getD k 0).toNat : Int)) := by
            rw [H1.out.cell, u8s_get _ _ (by rw [upto_len _ _ _ HKF.out hk]; omega)]
          have hfA : wr.frozen? ⟨za, k, none⟩ = false := H1.out.frozen k
          have hfB0 : wr.frozen? ⟨zb, k, none⟩ = false := H2.out.frozen k
          have hcB0 : wr.cell? ⟨zb, k, none⟩ = some (.int .u8 (((upto (keyOf key) 0x36 k).getD k 0).toNat : Int)) := by
            rw [H2.out.cell, u8s_get _ _ (by rw [upto_len _ _ _ HKF.out hk]; omega)]
          have hs1 := upto_set (keyOf key) 0x5c k HKF.out hlt
          have hs2 := upto_set (keyOf key) 0x36 k HKF.out hlt
          by_cases hin : k < 32
          · have e3 : (k : Int) < 32 := by omega
            obtain ⟨ad, x, hAe, hxk, hca⟩ := (K1'.out.later H3.out).byte (k := k) (by rw [HKN.out]; exact hin)
            subst hAe
            have hx : x = (keyOf key).getD k 0 := by
              have h := keyOf_at key (sha key) HKX.out k (by rw [HKN.out]; exact hin)
              rw [hxk] at h
              injection h
            obtain ⟨y1, hy1⟩ : ∃ y, y = x ^^^ (0x5c : UInt8) := ⟨_, rfl⟩
            obtain ⟨y2, hy2⟩ : ∃ y, y = x ^^^ (0x36 : UInt8) := ⟨_, rfl⟩
            have q1 := xor_u8 x 0x5c 92 rfl
            have q2 := xor_u8 x 0x36 54 rfl
            rw [← hy1] at q1
            rw [← hy2] at q2
            rw [← hx, ← hy1] at hs1
            rw [← hx, ← hy2] at hs2
            clear hx hy1 hy2
            have HNA := Lib.hid (H1.out.set_ k (.int .u8 (y1.toNat : Int)))
            have HN1 : Hid (Blk (wr.setCell ⟨za, k, none⟩ (.int .u8 (y1.toNat : Int))) za 5 (u8s (upto (keyOf key) 0x5c (k + 1)))) := Lib.hid (by
              rw [← hs1]
              exact (u8s_set (upto (keyOf key) 0x5c k) k y1) ▸ HNA.out)
            have HN2 : Hid (Blk (wr.setCell ⟨za, k, none⟩ (.int .u8 (y1.toNat : Int))) zb 5 (u8s (upto (keyOf key) 0x36 k))) := Lib.hid (H2.out.far (p := ⟨za, k, none⟩) hba _)
            have hcB : (wr.setCell ⟨za, k, none⟩ (.int .u8 (y1.toNat : Int))).cell? ⟨zb, k, none⟩ = some (.int .u8 (((upto (keyOf key) 0x36 k).getD k 0).toNat : Int)) := by
              rw [HN2.out.cell, u8s_get _ _ (by rw [upto_len _ _ _ HKF.out hk]; omega)]
            have hfB : (wr.setCell ⟨za, k, none⟩ (.int .u8 (y1.toNat : Int))).frozen? ⟨zb, k, none⟩ = false := HN2.out.frozen k
            have HN3 := Lib.hid (HN2.out.set_ k (.int .u8 (y2.toNat : Int)))
            have HN4 : Hid (Blk ((wr.setCell ⟨za, k, none⟩ (.int .u8 (y1.toNat : Int))).setCell ⟨zb, k, none⟩ (.int .u8 (y2.toNat : Int))) zb 5 (u8s (upto (keyOf key) 0x36 (k + 1)))) := Lib.hid (by
              rw [← hs2]
              exact (u8s_set (upto (keyOf key) 0x36 k) k y2) ▸ HN3.out)
            have HN5 : Hid (Blk ((wr.setCell ⟨za, k, none⟩ (.int .u8 (y1.toNat : Int))).setCell ⟨zb, k, none⟩ (.int .u8 (y2.toNat : Int))) za 5 (u8s (upto (keyOf key) 0x5c (k + 1)))) := Lib.hid (HN1.out.far (p := ⟨zb, k, none⟩) hab _)
            have HC : Hid (Chg nowhere w2 ((wr.setCell ⟨za, k, none⟩ (.int .u8 (y1.toNat : Int))).setCell ⟨zb, k, none⟩ (.int .u8 (y2.toNat : Int)))) := Lib.hid ((H3.out.setCell (p := ⟨za, k, none⟩) (fun h => by have h' : za < w2.heap.size := h; omega) _).setCell (p := ⟨zb, k, none⟩) (fun h => by have h' : zb < w2.heap.size := h; omega) _)
            generalize ((upto (keyOf key) 0x5c k).getD k 0) = x1 at *
            generalize ((upto (keyOf key) 0x36 k).getD k 0) = x2 at *
            clear hs1 hs2 HNA HN3
            go_wp2_with fail
            exact ⟨⟨k + 1, by omega, by go_num, HN5.out, HN4.out, HC.out⟩, by simp [intOf]; omega⟩
          · have e3 : ¬ (k : Int) < 32 := by omega
            have hx := keyOf_past key (sha key) HKX.out k (by rw [HKN.out]; omega)
            rw [hx] at hs1 hs2
            have HNA := Lib.hid (H1.out.set_ k (.int .u8 92))
            have HN1 : Hid (Blk (wr.setCell ⟨za, k, none⟩ (.int .u8 92)) za 5 (u8s (upto (keyOf key) 0x5c (k + 1)))) := Lib.hid (by
              rw [← hs1]
              exact (u8s_set (upto (keyOf key) 0x5c k) k 92) ▸ HNA.out)
            have HN2 : Hid (Blk (wr.setCell ⟨za, k, none⟩ (.int .u8 92)) zb 5 (u8s (upto (keyOf key) 0x36 k))) := Lib.hid (H2.out.far (p := ⟨za, k, none⟩) hba _)
            have hcB : (wr.setCell ⟨za, k, none⟩ (.int .u8 92)).cell? ⟨zb, k, none⟩ = some (.int .u8 (((upto (keyOf key) 0x36 k).getD k 0).toNat : Int)) := by
              rw [HN2.out.cell, u8s_get _ _ (by rw [upto_len _ _ _ HKF.out hk]; omega)]
            have hfB : (wr.setCell ⟨za, k, none⟩ (.int .u8 92)).frozen? ⟨zb, k, none⟩ = false := HN2.out.frozen k
            have HN3 := Lib.hid (HN2.out.set_ k (.int .u8 54))
            have HN4 : Hid (Blk ((wr.setCell ⟨za, k, none⟩ (.int .u8 92)).setCell ⟨zb, k, none⟩ (.int .u8 54)) zb 5 (u8s (upto (keyOf key) 0x36 (k + 1)))) := Lib.hid (by
              rw [← hs2]
              exact (u8s_set (upto (keyOf key) 0x36 k) k 54) ▸ HN3.out)
            have HN5 : Hid (Blk ((wr.setCell ⟨za, k, none⟩ (.int .u8 92)).setCell ⟨zb, k, none⟩ (.int .u8 54)) za 5 (u8s (upto (keyOf key) 0x5c (k + 1)))) := Lib.hid (HN1.out.far (p := ⟨zb, k, none⟩) hab _)
            have HC : Hid (Chg nowhere w2 ((wr.setCell ⟨za, k, none⟩ (.int .u8 92)).setCell ⟨zb, k, none⟩ (.int .u8 54))) := Lib.hid ((H3.out.setCell (p := ⟨za, k, none⟩) (fun h => by have h' : za < w2.heap.size := h; omega) _).setCell (p := ⟨zb, k, none⟩) (fun h => by have h' : zb < w2.heap.size := h; omega) _)
            generalize ((upto (keyOf key) 0x5c k).getD k 0) = x1 at *
            generalize ((upto (keyOf key) 0x36 k).getD k 0) = x2 at *
            clear hs1 hs2 HNA HN3
            go_wp2_with fail
            exact ⟨⟨k + 1, by omega, by go_num, HN5.out, HN4.out, HC.out⟩, by simp [intOf]; omega⟩
        · have e1 : (64 : Int) ≤ k := by omega
          obtain rfl : k = 64 := by omega
          rw [upto_end _ _ HKF.out] at H1 H2
          obtain ⟨k1, hk1⟩ : ∃ k, k = (keyOf key).map (· ^^^ (0x36 : UInt8)) := ⟨_, rfl⟩
          obtain ⟨k2, hk2⟩ : ∃ k, k = (keyOf key).map (· ^^^ (0x5c : UInt8)) := ⟨_, rfl⟩
          have HK1L : Hid (k1.length = 64) := Lib.hid (by rw [hk1, List.length_map, keyOf_len])
          have HK2L : Hid (k2.length = 64) := Lib.hid (by rw [hk2, List.length_map, keyOf_len])
          obtain ⟨inn, hinn⟩ : ∃ x, x = sha (k1 ++ p) := ⟨_, rfl⟩
          have HIL : Hid (inn.length = 32) := Lib.hid (by rw [hinn, sha_len])
          have HMAC2 : Hid (sha (k2 ++ inn) = macOf key p) := Lib.hid (by rw [hinn, hk1, hk2]; rfl)
          rw [← hk2] at H1
          rw [← hk1] at H2
          have HIN := Lib.hid hinn
          clear hk1 hk2 hinn
          have HCW : Hid (Chg nowhere w wr) := Lib.hid (C1'.out.step H3.out (fun _ h => h.elim))
          have HOB : Hid (Own wr 5 1 (some ⟨zb, 0, none⟩) 64 64 (bs k1)) := Lib.hid (nots_own H2.out HK1L.out)
          have HZ : Hid (Blk wr z0 25 (u8s (nots 32))) := Lib.hid (B1'.out.chg H3.out (fun h => h))
          have HRP := Lib.hid (HR2.out.later HCW.out)
          go_wp2_with (at_builtin; refine wpList_append_many rfl (.tmp 41) (.tmp 42) elemB rfl (Nat.le_refl _) rfl HOB.out rfl HRP.out HMB (bs_one p) HB0 ?_)
          intro A5 c5 w5 hown5 hchg5 hA5
          have hne1 : Chg (fun k => zb = k) wr w5 := hchg5
          have HO5 : Hid (Own w5 5 1 A5 (64 + m) c5 (bs (k1 ++ p))) := Lib.hid (by rw [← bs_append]; exact hown5)
          have HC5 : Hid (Chg nowhere w w5) := Lib.hid (HCW.out.step hne1 (fun x hx => by
            have h1 : zb = x := hx
            have h2 := C1'.out.size
            omega))
          have BA5 : Hid (Blk w5 za 5 (u8s k2)) := Lib.hid (H1.out.chg hne1 (fun h => hba h))
          have HZ5 : Hid (Blk w5 z0 25 (u8s (nots 32))) := Lib.hid (HZ.out.chg hne1 (fun h => h0b h.symm))
          clear hown5 hchg5 hA5 hne1
          go_wp2_with fail
          refine (dRefSum_calls A5 (64 + m) c5 (k1 ++ p) _ HO5.out.rd (by rw [List.length_append, HK1L.out, HM.out]) (by omega)).mono ?_
          rintro e w6 ⟨rfl, h6⟩
          rw [← HIN.out]
          have HC6 := Lib.hid (HC5.out.step h6.out (fun _ h => h.elim))
          have BA6 := Lib.hid (BA5.out.chg h6.out (fun h => h))
          have HZ6 := Lib.hid (HZ5.out.chg h6.out (fun h => h))
          have HILS : Hid ((u8s inn).size = 32) := Lib.hid (by rw [u8s_size, HIL.out])
          have HIB : Hid ((bs inn).length = 32) := Lib.hid (by rw [bs_length, HIL.out])
          have HB6 : Hid (64 + 32 ≤ lim) := hid_lim (by decide)
          have hza6 : za < w6.heap.size := BA6.out.lt
          clear h6
          go_wp2_with (first | (refine wpList_store_row rfl 25 _ _ rfl w6.heap.size (u8s inn) rfl rfl 25 _ (heap_alloc_new w6 _) (by rw [HILS.out]; exact HI25.out) (by rw [HILS.out]; rfl) (u8s_one _) ?_) | (at_builtin; refine wpList_append_many rfl (.tmp 45) (.tmp 46) elemB rfl (Nat.le_refl _) rfl (nots_own ((BA6.out.alloc _).rowFar (Nat.ne_of_lt hza6) _) HK2L.out) rfl (rd_u8s ((Blk.new w6 _ _).row_ _)) HIB (bs_one inn) HB6 ?_))
          intro A7 c7 w7 hown7 hchg7 hA7
          rw [World.setRow_alloc_new] at hchg7
          have hne2 : Chg (fun k => za = k) (w6.alloc (.cells (u8s inn) 25)) w7 := hchg7
          have HO7 : Hid (Own w7 5 1 A7 (64 + 32) c7 (bs (k2 ++ inn))) := Lib.hid (by rw [← bs_append]; exact hown7)
          have HC7 : Hid (Chg nowhere w w7) := Lib.hid ((HC6.out.alloc _).step hne2 (fun x hx => by
            have h1 : za = x := hx
            have h2 := C1'.out.size
            omega))
          have HZ7 : Hid (Blk w7 z0 25 (u8s (nots 32))) := Lib.hid ((HZ6.out.alloc _).chg hne2 (fun h => h0a h.symm))
          clear hown7 hchg7 hA7 hne2
          go_wp2_with fail
          refine (dRefSum_calls A7 (64 + 32) c7 (k2 ++ inn) _ HO7.out.rd (by rw [List.length_append, HK2L.out, HIL.out]) (by decide)).mono ?_
          rintro e w8 ⟨rfl, h8⟩
          rw [HMAC2.out]
          have HC8 := Lib.hid (HC7.out.step h8.out (fun _ h => h.elim))
          have HZ8 := Lib.hid (HZ7.out.chg h8.out (fun h => h))
          clear h8
          go_wp2_with (refine wpList_store_row rfl 25 _ _ rfl z0 (u8s (macOf key p)) rfl rfl 25 _ HZ8.out (by rw [HML.out]; exact HI25.out) (by rw [HML.out]; rfl) (u8s_one _) ?_)
          refine bodyPost_ret (v := .agg (u8s (macOf key p))) (results_cell_row rfl _ _ z0 25 _ (0, 0) _ rfl (HZ8.out.row_ _) Try.underlying25 rfl (by rw [HML.out]; exact HI25.out)) rfl ⟨rfl, ?_⟩
          exact HC8.out.setRow (fun h => by omega) _

end Go.Proofs.Ytlaohifjdpjocaa
