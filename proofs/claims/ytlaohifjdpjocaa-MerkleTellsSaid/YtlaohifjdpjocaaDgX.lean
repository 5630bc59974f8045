/- A key, each byte turned by one and the same: digest.with; the digest under a key: digest.Mac. -/
import Derived.Test.YtlaohifjdpjocaaDgS
import Derived.Test.YtlaohifjdpjocaaJoin
import Derived.Stop.BytesEq
import Derived.Deep.RegionWith
open Go Go.RowKit
namespace Go.Proofs.Ytlaohifjdpjocaa
theorem u8_xor_bytes (a b : UInt8) : bits .xor .u8 (a.toNat : Int) (b.toNat : Int) = ((a ^^^ b).toNat : Int) := by
  show IntKind.u8.wrap (((BitVec.ofInt 8 (a.toNat : Int)) ^^^ (BitVec.ofInt 8 (b.toNat : Int))).toNat : Int) = _
  rw [BitVec.toNat_xor, BitVec.toNat_ofInt, BitVec.toNat_ofInt, UInt8.toNat_xor]
  have ha := a.toNat_lt
  have hb := b.toNat_lt
  have e1 : ((a.toNat : Int) % ((2 ^ 8 : Nat) : Int)).toNat = a.toNat := by omega
  have e2 : ((b.toNat : Int) % ((2 ^ 8 : Nat) : Int)).toNat = b.toNat := by omega
  rw [e1, e2]
  have h3 : a.toNat ^^^ b.toNat < 2 ^ 8 := Nat.xor_lt_two_pow (by omega) (by omega)
  simp [IntKind.wrap, IntKind.bits, IntKind.signed]
  omega
theorem hash_eql (xs ys : List UInt8) (hx : xs.length = 32) (hy : ys.length = 32) (w : World) : (binOp .eql 25 (.agg (u8s xs)) (.agg (u8s ys))).run Try.prog w = .ok (.bool (xs == ys)) w :=
  run_eql_bytes (P := Try.prog) w 25 5 32 Try.underlying25 Try.underlying5 Try.sizeOf5 xs ys hx hy
def xorTo (xs : List UInt8) (b : UInt8) (k : Nat) : List UInt8 := (xs.take k).map (· ^^^ b) ++ xs.drop k
theorem xorTo_len (xs : List UInt8) (b : UInt8) (k : Nat) : (xorTo xs b k).length = xs.length := by simp [xorTo]; omega
theorem xorTo_get (xs : List UInt8) (b : UInt8) (k : Nat) (h : k < xs.length) : (xorTo xs b k).getD k 0 = xs.getD k 0 := by
  unfold xorTo
  rw [List.getD_eq_getElem?_getD, List.getElem?_append_right (by simp; omega), List.getD_eq_getElem?_getD]
  simp [Nat.min_eq_left (Nat.le_of_lt h)]
theorem xorTo_set (xs : List UInt8) (b : UInt8) (k : Nat) (h : k < xs.length) : (xorTo xs b k).set k (xs.getD k 0 ^^^ b) = xorTo xs b (k + 1) := by
  unfold xorTo
  rw [List.set_append_right _ _ (by simp; omega)]
  have h1 : k - ((xs.take k).map (· ^^^ b)).length = 0 := by simp; omega
  rw [h1, List.drop_eq_getElem_cons h, List.set_cons_zero, List.take_succ_eq_append_getElem h, List.map_append, List.append_assoc]
  simp [List.getD_eq_getElem?_getD, List.getElem?_eq_getElem h]
theorem xorTo_end (xs : List UInt8) (b : UInt8) (h : xs.length = 64) : xorTo xs b 64 = xs.map (· ^^^ b) := by
  unfold xorTo
  rw [List.take_of_length_le (by omega), List.drop_eq_nil_of_le (by omega), List.append_nil]
set_option maxRecDepth 100000 in
set_option maxHeartbeats 400000 in
theorem with_calls (xs : List UInt8) (b : UInt8) (bi : Int) (w : World) (hx : xs.length = 64) (hbi : bi = (b.toNat : Int)) :
    Calls Try.prog 59 #[.agg (u8s xs), .int .u8 bi] w fun e w' => ∃ g, e = .returned (.slice (some ⟨g, 0, none⟩) 64 64) ∧ Hid (Blk w' g 72 (u8s (xs.map (· ^^^ b)))) ∧ Hid (Chg nowhere w w') ∧ Hid (w.heap.size ≤ g) := by
  subst hbi
  have HX := Lib.hid hx
  clear hx
  go_enter Try.func59, Try.ntmps59
  go_wp2_with fail
  go_loopw [5, 6] (fun _ t wr => ∃ k : Nat, k ≤ 64 ∧ t = .int .i64 k ∧ Blk wr w.heap.size 72 (u8s (xorTo xs b k)) ∧ Chg nowhere w wr) (fun _ t _ => 64 - (intOf t).toNat)
  case atStart => exact ⟨0, Nat.zero_le _, rfl, by simpa [xorTo] using Blk.new w 72 (u8s xs), (Chg.refl _ _).alloc _⟩
  case round =>
    obtain ⟨k, hk, rfl, h1, h2⟩ := hrel
    have H1 := Lib.hid h1
    have H2 := Lib.hid h2
    clear h1 h2
    by_cases hlt : k < 64
    · have e1 : (k : Int) < 64 := by omega
      have hc : wr.cell? ⟨w.heap.size, k, none⟩ = some (.int .u8 ((xs.getD k 0).toNat : Int)) := by
        rw [H1.out.cell, u8s_get _ _ (by rw [xorTo_len, HX.out]; omega), xorTo_get _ _ _ (by rw [HX.out]; omega)]
      have hf : wr.frozen? ⟨w.heap.size, k, none⟩ = false := H1.out.frozen k
      obtain ⟨y, hy⟩ : ∃ y, y = xs.getD k 0 ^^^ b := ⟨_, rfl⟩
      have q := u8_xor_bytes (xs.getD k 0) b
      rw [← hy] at q
      have HN := Lib.hid (H1.out.set_ k (.int .u8 (y.toNat : Int)))
      rw [u8s_set, hy, xorTo_set _ _ _ (by rw [HX.out]; omega), ← hy] at HN
      have HC := Lib.hid (H2.out.setCell (p := ⟨w.heap.size, k, none⟩) (fun h => by have h' : w.heap.size < w.heap.size := h; omega) (.int .u8 (y.toNat : Int)))
      generalize xs.getD k 0 = x at *
      clear hy
      go_wp2_with fail
      exact ⟨⟨k + 1, by omega, by go_num, HN.out, HC.out⟩, by simp [intOf]; omega⟩
    · have e1 : (64 : Int) ≤ k := by omega
      obtain rfl : k = 64 := by omega
      rw [xorTo_end _ _ HX.out] at H1
      go_wp2_with fail
      go_ret
      exact ⟨w.heap.size, rfl, H1, H2, Nat.le_refl _⟩
def keyOf (key : List UInt8) : List UInt8 := if key.length ≤ 64 then key ++ nots (64 - key.length) else sha key ++ nots 32
theorem keyOf_len (key : List UInt8) : (keyOf key).length = 64 := by
  unfold keyOf
  split
  · simp [nots_len]; omega
  · simp [nots_len, sha_len]
def macOf (key p : List UInt8) : List UInt8 := sha ((keyOf key).map (· ^^^ 0x5c) ++ sha ((keyOf key).map (· ^^^ 0x36) ++ p))
theorem macOf_len (key p : List UInt8) : (macOf key p).length = 32 := sha_len _
theorem flat2 : True := trivial
set_option maxRecDepth 100000 in
set_option maxHeartbeats 1600000 in
theorem mac_calls (A B : Option Addr) (n c m d : Nat) (key p : List UInt8) (w : World) (hr : Rd w A (bs key)) (hn : key.length = n) (hc : n ≤ c) (hn9 : n ≤ 10000000) (hr2 : Rd w B (bs p)) (hm : p.length = m) (hm9 : m ≤ 10000000) :
    Calls Try.prog 27 #[.slice A n c, .slice B m d] w fun e w' => e = .returned (.agg (u8s (macOf key p))) ∧ Hid (Chg nowhere w w') := by
  have HR := Lib.hid hr
  have HN := Lib.hid hn
  have HR2 := Lib.hid hr2
  have HM := Lib.hid hm
  clear hr hn hr2 hm
  by_cases h64 : n ≤ 64
  · have e1 : ¬ (64 : Int) < n := by omega
    have HFIT : Hid (0 + n ≤ (nots 64).length) := Lib.hid (by rw [nots_len]; omega)
    obtain ⟨w2, hw2⟩ : ∃ w2, w2 = (w.alloc (.cells (u8s (nots 32)) 25)).alloc (.cells (u8s (nots 64)) 72) := ⟨_, rfl⟩
    obtain ⟨z0, hz0⟩ : ∃ z, z = w.heap.size := ⟨_, rfl⟩
    obtain ⟨zk, hzk⟩ : ∃ z, z = w.heap.size + 1 := ⟨_, rfl⟩
    have B0 : Hid (Blk w2 z0 25 (u8s (nots 32))) := Lib.hid (by rw [hw2, hz0]; exact (Blk.new w _ _).alloc _)
    have B1 : Hid (Blk w2 zk 72 (u8s (nots 64))) := Lib.hid (by rw [hw2, hzk]; exact Blk.new1 w _ _ _)
    have C2 : Hid (Chg nowhere w w2) := Lib.hid (by rw [hw2]; exact ((Chg.refl _ _).alloc _).alloc _)
    have hzz : z0 < zk := by omega
    have hzw : w.heap.size ≤ z0 := by omega
    have hzero := hw2.symm
    have HZ0 := Lib.hid hz0
    have HZK := Lib.hid hzk
    clear hw2 hz0 hzk
    go_enter Try.func27, Try.ntmps27
    go_wp2_with (refine wpList_copyB rfl (.tmp 14) (.tmp 15) 22 22 rfl 5 Try.underlying22 (by kernel_rfl) rfl rfl (show Blk ((w.alloc (.cells (u8s (nots 32)) 25)).alloc (.cells (u8s (nots 64)) 72)) (w.heap.size + 1) 72 (u8s (nots 64)) from Blk.new1 w _ _ _) ((HR.out.alloc _).alloc _) HN h64 HFIT ?_)
    intro w4 hb4 hc4
    rw [← HZK.out, ← HZ0.out]
    rw [← HZK.out] at hb4 hc4
    have hc4' : Chg (fun k => k = zk) w2 w4 := by rw [← hzero]; exact hc4.out
    have BK : Hid (Blk w4 zk 72 (u8s (keyOf key))) := Lib.hid (by
      have h := hb4.out
      have h2 : keyOf key = key ++ (nots 64).drop n := by
        unfold keyOf
        rw [if_pos (by rw [HN.out]; exact h64), nots_drop, HN.out]
      rw [h2]
      simpa using h)
    have BR : Hid (Blk w4 z0 25 (u8s (nots 32))) := Lib.hid (B0.out.chg hc4' (fun h => by have h' : z0 = zk := h; omega))
    have CH : Hid (Chg nowhere w w4) := Lib.hid (C2.out.step hc4' (fun k hk => by have h' : k = zk := hk; omega))
    have RP : Hid (Rd w4 B (bs p)) := Lib.hid (HR2.out.later CH.out)
    clear hb4 hc4 hc4' hzero B0 B1 C2
    have HI25 := Lib.hid (show (Try.prog.info? 25).map (·.size) = some 32 by kernel_rfl)
    have HI72 := Lib.hid (show (Try.prog.info? 72).map (·.size) = some 64 by kernel_rfl)
    have HKL : Hid ((u8s (keyOf key)).size = 64) := Lib.hid (by rw [u8s_size, keyOf_len])
    have HML : Hid ((u8s (macOf key p)).size = 32) := Lib.hid (by rw [u8s_size, macOf_len])
    obtain ⟨k1, hk1⟩ : ∃ k, k = (keyOf key).map (· ^^^ (0x36 : UInt8)) := ⟨_, rfl⟩
    obtain ⟨k2, hk2⟩ : ∃ k, k = (keyOf key).map (· ^^^ (0x5c : UInt8)) := ⟨_, rfl⟩
    have HK1L : Hid (k1.length = 64) := Lib.hid (by rw [hk1, List.length_map, keyOf_len])
    have HK2L : Hid (k2.length = 64) := Lib.hid (by rw [hk2, List.length_map, keyOf_len])
    obtain ⟨inn, hinn⟩ : ∃ x, x = sha (k1 ++ p) := ⟨_, rfl⟩
    have HIL : Hid (inn.length = 32) := Lib.hid (by rw [hinn, sha_len])
    have HMAC : Hid (sha (k2 ++ inn) = macOf key p) := Lib.hid (by rw [hinn, hk1, hk2]; rfl)
    have HK1 := Lib.hid hk1
    have HK2 := Lib.hid hk2
    have HIN := Lib.hid hinn
    clear hk1 hk2 hinn
    go_wp2_with (refine wpList_load_row rfl 72 _ rfl zk rfl 72 _ (0, 0) _ BK.out Try.underlying72 rfl (by rw [HKL.out]; exact HI72.out) ?_)
    refine (with_calls (keyOf key) 0x36 54 _ (keyOf_len key) rfl).mono ?_
    rintro e w5 ⟨g1, rfl, b1, c1, hg1⟩
    rw [← HK1.out] at b1
    go_wp2_with fail
    refine (bJoin_calls _ 2 2 [⟨some ⟨g1, 0, none⟩, 64, k1⟩, ⟨B, d, p⟩] _ ?_ rfl (Nat.le_refl _) ?_ ?_ (by decide)).mono ?_
    · show Rd _ _ [.slice (some ⟨g1, 0, none⟩) k1.length 64, .slice B p.length d]
      rw [HK1L.out, HM.out]
      exact Rd.lit _ [_, _] _
    · intro r hr
      simp only [List.mem_cons, List.not_mem_nil, or_false] at hr
      rcases hr with rfl | rfl
      · exact (rd_u8s b1.out).alloc _
      · exact ((RP.out.later c1.out)).alloc _
    · have h1 := HK1L.out
      have h2 := HM.out
      simp [Lib.lens]
      omega
    rintro e w6 ⟨A6, n6, c6, rfl, h6, hc6, hg6⟩
    rw [show ([⟨some ⟨g1, 0, none⟩, 64, k1⟩, ⟨B, d, p⟩] : List Row).map (·.p) = [k1, p] from rfl, show [k1, p].flatten = k1 ++ p by simp] at h6
    have CH6 := Lib.hid (((CH.out.step c1.out (fun _ h => h.elim)).alloc (.cells #[.slice (some ⟨g1, 0, none⟩) 64 64, .slice B m d] 22)).step hc6.out (fun _ h => h.elim))
    have BK6 : Hid (Blk w6 zk 72 (u8s (keyOf key))) := Lib.hid (((BK.out.chg c1.out (fun h => h)).alloc (.cells #[.slice (some ⟨g1, 0, none⟩) 64 64, .slice B m d] 22)).chg hc6.out (fun h => h))
    have BR6 : Hid (Blk w6 z0 25 (u8s (nots 32))) := Lib.hid (((BR.out.chg c1.out (fun h => h)).alloc (.cells #[.slice (some ⟨g1, 0, none⟩) 64 64, .slice B m d] 22)).chg hc6.out (fun h => h))
    clear b1 c1 hc6 hg6
    go_wp2_with fail
    refine (dSum_calls A6 n6 c6 (k1 ++ p) _ h6.out.rd h6.out.len h6.out.le (by have h1 := h6.out.len; have h2 := HK1L.out; have h3 := HM.out; simp at h1; omega)).mono ?_
    rintro e w7 ⟨rfl, hc7⟩
    rw [← HIN.out]
    have HILS : Hid ((u8s inn).size = 32) := Lib.hid (by rw [u8s_size, HIL.out])
    have CH7 := Lib.hid (CH6.out.step hc7.out (fun _ h => h.elim))
    have BK7 := Lib.hid (BK6.out.chg hc7.out (fun h => h))
    have BR7 := Lib.hid (BR6.out.chg hc7.out (fun h => h))
    clear h6 hc7 CH6 BK6 BR6
    go_wp2_with (refine wpList_store_row rfl 25 _ _ rfl w7.heap.size (u8s inn) rfl rfl 25 _ (heap_alloc_new w7 _) (by rw [HILS.out]; exact HI25.out) (by rw [HILS.out]; rfl) (u8s_one _) ?_)
    rw [World.setRow_alloc_new]
    obtain ⟨w8, hw8⟩ : ∃ w8, w8 = w7.alloc (.cells (u8s inn) 25) := ⟨_, rfl⟩
    obtain ⟨zi, hzi⟩ : ∃ z, z = w7.heap.size := ⟨_, rfl⟩
    rw [← hw8, ← hzi]
    have CH8 : Hid (Chg nowhere w w8) := Lib.hid (by rw [hw8]; exact CH7.out.alloc _)
    have BK8 : Hid (Blk w8 zk 72 (u8s (keyOf key))) := Lib.hid (by rw [hw8]; exact BK7.out.alloc _)
    have BR8 : Hid (Blk w8 z0 25 (u8s (nots 32))) := Lib.hid (by rw [hw8]; exact BR7.out.alloc _)
    have BI8 : Hid (Blk w8 zi 25 (u8s inn)) := Lib.hid (by rw [hw8, hzi]; exact Blk.new w7 _ _)
    clear hw8 hzi CH7 BK7 BR7
    replace CH8 : Hid (Chg nowhere w (World.drew w8)) := Lib.hid CH8.out.drew
    replace BK8 : Hid (Blk (World.drew w8) zk 72 (u8s (keyOf key))) := BK8
    replace BR8 : Hid (Blk (World.drew w8) z0 25 (u8s (nots 32))) := BR8
    replace BI8 : Hid (Blk (World.drew w8) zi 25 (u8s inn)) := BI8
    refine wp_region_any (by kernel_rfl) ?_
    change wpAny _ _ _ _ _ _ _ (World.drew w8)
    generalize World.drew w8 = w9 at *
    refine wpAny_take (i := 2) (v := ?_) rfl (by kernel_rfl) (by kernel_rfl) (by kernel_rfl) (fun _ _ _ h => h) (Or.inl ⟨by rfl, ?_⟩) ?_
    rotate_left
    · intro w
      go_simp
      with_reducible rfl
    refine wpAny_ready (rs := [0]) (by kernel_rfl) (by simp) ?_
    refine AllReady.cons rfl (fun K hK => ?_) AllReady.nil
    rw [if_pos (by kernel_rfl)]
    refine wp_load_row 72 _ rfl zk rfl 72 _ (0, 0) _ BK8.out Try.underlying72 rfl (by rw [HKL.out]; exact HI72.out) ?_
    refine hK _ _ ?_
    clear hK K
    refine wpAny_ready (rs := [1]) (by kernel_rfl) (by simp) ?_
    refine AllReady.cons rfl (fun K hK => ?_) AllReady.nil
    go_simp
    refine (with_calls (keyOf key) 0x5c 92 _ (keyOf_len key) rfl).mono ?_
    rintro e w5' ⟨g2, rfl, b2, c2, hg2⟩
    rw [← HK2.out] at b2
    refine hK _ _ ?_
    clear hK K
    refine wpAny_ready (rs := [3]) (by kernel_rfl) (by simp) ?_
    refine AllReady.cons rfl (fun K hK => ?_) AllReady.nil
    go_simp
    refine hK _ _ ?_
    clear hK K
    refine wpAny_ready (rs := [4]) (by kernel_rfl) (by simp) ?_
    refine AllReady.cons rfl (fun K hK => ?_) AllReady.nil
    go_simp
    refine (bJoin_calls _ 2 2 [⟨some ⟨g2, 0, none⟩, 64, k2⟩, ⟨some ⟨zi, 0, none⟩, 32, inn⟩] _ ?_ rfl (Nat.le_refl _) ?_ ?_ (by decide)).mono ?_
    · show Rd _ _ [.slice (some ⟨g2, 0, none⟩) k2.length 64, .slice (some ⟨zi, 0, none⟩) inn.length 32]
      rw [HK2L.out, HIL.out]
      exact Rd.lit _ [_, _] _
    · intro r hr
      simp only [List.mem_cons, List.not_mem_nil, or_false] at hr
      rcases hr with rfl | rfl
      · exact (rd_u8s b2.out).alloc _
      · exact ((rd_u8s (BI8.out.chg c2.out (fun h => h)))).alloc _
    · have h1 := HK2L.out
      have h2 := HIL.out
      simp [Lib.lens]
      omega
    rintro e w6' ⟨A8, n8, c8, rfl, h8, hc8, hg8⟩
    rw [show ([⟨some ⟨g2, 0, none⟩, 64, k2⟩, ⟨some ⟨zi, 0, none⟩, 32, inn⟩] : List Row).map (·.p) = [k2, inn] from rfl, show [k2, inn].flatten = k2 ++ inn by simp] at h8
    have CH9 := Lib.hid (((CH8.out.step c2.out (fun _ h => h.elim)).alloc (.cells #[.slice (some ⟨g2, 0, none⟩) 64 64, .slice (some ⟨zi, 0, none⟩) 32 32] 22)).step hc8.out (fun _ h => h.elim))
    have BR9 : Hid (Blk w6' z0 25 (u8s (nots 32))) := Lib.hid (((BR8.out.chg c2.out (fun h => h)).alloc (.cells #[.slice (some ⟨g2, 0, none⟩) 64 64, .slice (some ⟨zi, 0, none⟩) 32 32] 22)).chg hc8.out (fun h => h))
    refine hK _ _ ?_
    clear hK K
    refine wpAny_ready (rs := [5]) (by kernel_rfl) (by simp) ?_
    refine AllReady.cons rfl (fun K hK => ?_) AllReady.nil
    go_simp
    refine (dSum_calls A8 n8 c8 (k2 ++ inn) _ h8.out.rd h8.out.len h8.out.le (by have h1 := h8.out.len; have h2 := HK2L.out; have h3 := HIL.out; simp at h1; omega)).mono ?_
    rintro e w7' ⟨rfl, hc7'⟩
    rw [HMAC.out]
    have CH10 := Lib.hid (CH9.out.step hc7'.out (fun _ h => h.elim))
    have BR10 := Lib.hid (BR9.out.chg hc7'.out (fun h => h))
    refine hK _ _ ?_
    clear hK K
    refine wpAny_ready (rs := [6]) (by kernel_rfl) (by simp) ?_
    refine AllReady.cons rfl (fun K hK => ?_) AllReady.nil
    rw [if_pos (by kernel_rfl)]
    refine wp_store_row 25 _ _ rfl z0 (u8s (macOf key p)) rfl rfl 25 _ BR10.out (by rw [HML.out]; exact HI25.out) (by rw [HML.out]; rfl) (u8s_one _) ?_
    refine hK _ _ ?_
    clear hK K
    refine wpAny_done (by kernel_rfl) ?_ _
    go_wp2_with fail
    refine bodyPost_ret (v := .agg (u8s (macOf key p))) (results_cell_row rfl _ _ z0 25 _ (0, 0) _ rfl (BR10.out.row_ _) Try.underlying25 rfl (by rw [HML.out]; exact HI25.out)) rfl ⟨rfl, ?_⟩
    exact CH10.out.setRow (fun h => by omega) _
  · have e1 : (64 : Int) < n := by omega
    have h32 : 32 ≤ 64 := by decide
    have HFIT : Hid (0 + 32 ≤ (nots 64).length) := Lib.hid (by rw [nots_len]; decide)
    have HSL : Hid ((sha key).length = 32) := Lib.hid (sha_len key)
    have HSLS : Hid ((u8s (sha key)).size = 32) := Lib.hid (by rw [u8s_size, sha_len])
    have HI25a := Lib.hid (show (Try.prog.info? 25).map (·.size) = some 32 by kernel_rfl)
    obtain ⟨z0, hz0⟩ : ∃ z, z = w.heap.size := ⟨_, rfl⟩
    obtain ⟨zk, hzk⟩ : ∃ z, z = w.heap.size + 1 := ⟨_, rfl⟩
    have hzz : z0 < zk := by omega
    have hzw : w.heap.size ≤ z0 := by omega
    have HZ0 := Lib.hid hz0
    have HZK := Lib.hid hzk
    clear hz0 hzk
    go_enter Try.func27, Try.ntmps27
    go_wp2_with fail
    refine (dSum_calls A n c key _ ((HR.out.alloc _).alloc _) HN.out hc (by omega)).mono ?_
    rintro e w3 ⟨rfl, hc3⟩
    have B0 : Hid (Blk w3 z0 25 (u8s (nots 32))) := Lib.hid (by
      have h : Blk ((w.alloc (.cells (u8s (nots 32)) 25)).alloc (.cells (u8s (nots 64)) 72)) w.heap.size 25 (u8s (nots 32)) := (Blk.new w _ _).alloc _
      rw [HZ0.out]
      exact h.chg hc3.out (fun h => h))
    have B1 : Hid (Blk w3 zk 72 (u8s (nots 64))) := Lib.hid (by
      have h : Blk ((w.alloc (.cells (u8s (nots 32)) 25)).alloc (.cells (u8s (nots 64)) 72)) (w.heap.size + 1) 72 (u8s (nots 64)) := Blk.new1 w _ _ _
      rw [HZK.out]
      exact h.chg hc3.out (fun h => h))
    have C3 : Hid (Chg nowhere w w3) := Lib.hid ((((Chg.refl _ _).alloc _).alloc _).step hc3.out (fun _ h => h.elim))
    clear hc3
    rw [← HZK.out, ← HZ0.out]
    have hzk3 : zk < w3.heap.size := B1.out.lt
    have hz03 : z0 < w3.heap.size := B0.out.lt
    go_wp2_with (first | (refine wpList_store_row rfl 25 _ _ rfl w3.heap.size (u8s (sha key)) rfl rfl 25 _ (heap_alloc_new w3 _) (by rw [HSLS.out]; exact HI25a.out) (by rw [HSLS.out]; rfl) (u8s_one _) ?_) | (refine wpList_copyB rfl (.tmp 14) (.tmp 15) 22 22 rfl 5 Try.underlying22 (by kernel_rfl) rfl rfl ((B1.out.alloc _).rowFar (Nat.ne_of_lt hzk3) _) (rd_u8s ((Blk.new w3 _ _).row_ _)) HSL h32 HFIT ?_))
    intro w4 hb4 hc4
    rw [World.setRow_alloc_new] at hc4
    have BK : Hid (Blk w4 zk 72 (u8s (keyOf key))) := Lib.hid (by
      have h := hb4.out
      have h2 : keyOf key = sha key ++ (nots 64).drop 32 := by
        unfold keyOf
        rw [if_neg (by rw [HN.out]; exact h64), nots_drop]
      rw [h2]
      simpa using h)
    have BR : Hid (Blk w4 z0 25 (u8s (nots 32))) := Lib.hid ((B0.out.alloc _).chg hc4.out (fun h => by have h' : z0 = zk := h; omega))
    have CH : Hid (Chg nowhere w w4) := Lib.hid ((C3.out.alloc _).step hc4.out (fun k hk => by have h' : k = zk := hk; omega))
    have RP : Hid (Rd w4 B (bs p)) := Lib.hid (HR2.out.later CH.out)
    clear hb4 hc4 B0 B1 C3
    have HI25 := Lib.hid (show (Try.prog.info? 25).map (·.size) = some 32 by kernel_rfl)
    have HI72 := Lib.hid (show (Try.prog.info? 72).map (·.size) = some 64 by kernel_rfl)
    have HKL : Hid ((u8s (keyOf key)).size = 64) := Lib.hid (by rw [u8s_size, keyOf_len])
    have HML : Hid ((u8s (macOf key p)).size = 32) := Lib.hid (by rw [u8s_size, macOf_len])
    obtain ⟨k1, hk1⟩ : ∃ k, k = (keyOf key).map (· ^^^ (0x36 : UInt8)) := ⟨_, rfl⟩
    obtain ⟨k2, hk2⟩ : ∃ k, k = (keyOf key).map (· ^^^ (0x5c : UInt8)) := ⟨_, rfl⟩
    have HK1L : Hid (k1.length = 64) := Lib.hid (by rw [hk1, List.length_map, keyOf_len])
    have HK2L : Hid (k2.length = 64) := Lib.hid (by rw [hk2, List.length_map, keyOf_len])
    obtain ⟨inn, hinn⟩ : ∃ x, x = sha (k1 ++ p) := ⟨_, rfl⟩
    have HIL : Hid (inn.length = 32) := Lib.hid (by rw [hinn, sha_len])
    have HMAC : Hid (sha (k2 ++ inn) = macOf key p) := Lib.hid (by rw [hinn, hk1, hk2]; rfl)
    have HK1 := Lib.hid hk1
    have HK2 := Lib.hid hk2
    have HIN := Lib.hid hinn
    clear hk1 hk2 hinn
    go_wp2_with (refine wpList_load_row rfl 72 _ rfl zk rfl 72 _ (0, 0) _ BK.out Try.underlying72 rfl (by rw [HKL.out]; exact HI72.out) ?_)
    refine (with_calls (keyOf key) 0x36 54 _ (keyOf_len key) rfl).mono ?_
    rintro e w5 ⟨g1, rfl, b1, c1, hg1⟩
    rw [← HK1.out] at b1
    go_wp2_with fail
    refine (bJoin_calls _ 2 2 [⟨some ⟨g1, 0, none⟩, 64, k1⟩, ⟨B, d, p⟩] _ ?_ rfl (Nat.le_refl _) ?_ ?_ (by decide)).mono ?_
    · show Rd _ _ [.slice (some ⟨g1, 0, none⟩) k1.length 64, .slice B p.length d]
      rw [HK1L.out, HM.out]
      exact Rd.lit _ [_, _] _
    · intro r hr
      simp only [List.mem_cons, List.not_mem_nil, or_false] at hr
      rcases hr with rfl | rfl
      · exact (rd_u8s b1.out).alloc _
      · exact ((RP.out.later c1.out)).alloc _
    · have h1 := HK1L.out
      have h2 := HM.out
      simp [Lib.lens]
      omega
    rintro e w6 ⟨A6, n6, c6, rfl, h6, hc6, hg6⟩
    rw [show ([⟨some ⟨g1, 0, none⟩, 64, k1⟩, ⟨B, d, p⟩] : List Row).map (·.p) = [k1, p] from rfl, show [k1, p].flatten = k1 ++ p by simp] at h6
    have CH6 := Lib.hid (((CH.out.step c1.out (fun _ h => h.elim)).alloc (.cells #[.slice (some ⟨g1, 0, none⟩) 64 64, .slice B m d] 22)).step hc6.out (fun _ h => h.elim))
    have BK6 : Hid (Blk w6 zk 72 (u8s (keyOf key))) := Lib.hid (((BK.out.chg c1.out (fun h => h)).alloc (.cells #[.slice (some ⟨g1, 0, none⟩) 64 64, .slice B m d] 22)).chg hc6.out (fun h => h))
    have BR6 : Hid (Blk w6 z0 25 (u8s (nots 32))) := Lib.hid (((BR.out.chg c1.out (fun h => h)).alloc (.cells #[.slice (some ⟨g1, 0, none⟩) 64 64, .slice B m d] 22)).chg hc6.out (fun h => h))
    clear b1 c1 hc6 hg6
    go_wp2_with fail
    refine (dSum_calls A6 n6 c6 (k1 ++ p) _ h6.out.rd h6.out.len h6.out.le (by have h1 := h6.out.len; have h2 := HK1L.out; have h3 := HM.out; simp at h1; omega)).mono ?_
    rintro e w7 ⟨rfl, hc7⟩
    rw [← HIN.out]
    have HILS : Hid ((u8s inn).size = 32) := Lib.hid (by rw [u8s_size, HIL.out])
    have CH7 := Lib.hid (CH6.out.step hc7.out (fun _ h => h.elim))
    have BK7 := Lib.hid (BK6.out.chg hc7.out (fun h => h))
    have BR7 := Lib.hid (BR6.out.chg hc7.out (fun h => h))
    clear h6 hc7 CH6 BK6 BR6
    go_wp2_with (refine wpList_store_row rfl 25 _ _ rfl w7.heap.size (u8s inn) rfl rfl 25 _ (heap_alloc_new w7 _) (by rw [HILS.out]; exact HI25.out) (by rw [HILS.out]; rfl) (u8s_one _) ?_)
    rw [World.setRow_alloc_new]
    obtain ⟨w8, hw8⟩ : ∃ w8, w8 = w7.alloc (.cells (u8s inn) 25) := ⟨_, rfl⟩
    obtain ⟨zi, hzi⟩ : ∃ z, z = w7.heap.size := ⟨_, rfl⟩
    rw [← hw8, ← hzi]
    have CH8 : Hid (Chg nowhere w w8) := Lib.hid (by rw [hw8]; exact CH7.out.alloc _)
    have BK8 : Hid (Blk w8 zk 72 (u8s (keyOf key))) := Lib.hid (by rw [hw8]; exact BK7.out.alloc _)
    have BR8 : Hid (Blk w8 z0 25 (u8s (nots 32))) := Lib.hid (by rw [hw8]; exact BR7.out.alloc _)
    have BI8 : Hid (Blk w8 zi 25 (u8s inn)) := Lib.hid (by rw [hw8, hzi]; exact Blk.new w7 _ _)
    clear hw8 hzi CH7 BK7 BR7
    replace CH8 : Hid (Chg nowhere w (World.drew w8)) := Lib.hid CH8.out.drew
    replace BK8 : Hid (Blk (World.drew w8) zk 72 (u8s (keyOf key))) := BK8
    replace BR8 : Hid (Blk (World.drew w8) z0 25 (u8s (nots 32))) := BR8
    replace BI8 : Hid (Blk (World.drew w8) zi 25 (u8s inn)) := BI8
    refine wp_region_any (by kernel_rfl) ?_
    change wpAny _ _ _ _ _ _ _ (World.drew w8)
    generalize World.drew w8 = w9 at *
    refine wpAny_take (i := 2) (v := ?_) rfl (by kernel_rfl) (by kernel_rfl) (by kernel_rfl) (fun _ _ _ h => h) (Or.inl ⟨by rfl, ?_⟩) ?_
    rotate_left
    · intro w
      go_simp
      with_reducible rfl
    refine wpAny_ready (rs := [0]) (by kernel_rfl) (by simp) ?_
    refine AllReady.cons rfl (fun K hK => ?_) AllReady.nil
    rw [if_pos (by kernel_rfl)]
    refine wp_load_row 72 _ rfl zk rfl 72 _ (0, 0) _ BK8.out Try.underlying72 rfl (by rw [HKL.out]; exact HI72.out) ?_
    refine hK _ _ ?_
    clear hK K
    refine wpAny_ready (rs := [1]) (by kernel_rfl) (by simp) ?_
    refine AllReady.cons rfl (fun K hK => ?_) AllReady.nil
    go_simp
    refine (with_calls (keyOf key) 0x5c 92 _ (keyOf_len key) rfl).mono ?_
    rintro e w5' ⟨g2, rfl, b2, c2, hg2⟩
    rw [← HK2.out] at b2
    refine hK _ _ ?_
    clear hK K
    refine wpAny_ready (rs := [3]) (by kernel_rfl) (by simp) ?_
    refine AllReady.cons rfl (fun K hK => ?_) AllReady.nil
    go_simp
    refine hK _ _ ?_
    clear hK K
    refine wpAny_ready (rs := [4]) (by kernel_rfl) (by simp) ?_
    refine AllReady.cons rfl (fun K hK => ?_) AllReady.nil
    go_simp
    refine (bJoin_calls _ 2 2 [⟨some ⟨g2, 0, none⟩, 64, k2⟩, ⟨some ⟨zi, 0, none⟩, 32, inn⟩] _ ?_ rfl (Nat.le_refl _) ?_ ?_ (by decide)).mono ?_
    · show Rd _ _ [.slice (some ⟨g2, 0, none⟩) k2.length 64, .slice (some ⟨zi, 0, none⟩) inn.length 32]
      rw [HK2L.out, HIL.out]
      exact Rd.lit _ [_, _] _
    · intro r hr
      simp only [List.mem_cons, List.not_mem_nil, or_false] at hr
      rcases hr with rfl | rfl
      · exact (rd_u8s b2.out).alloc _
      · exact ((rd_u8s (BI8.out.chg c2.out (fun h => h)))).alloc _
    · have h1 := HK2L.out
      have h2 := HIL.out
      simp [Lib.lens]
      omega
    rintro e w6' ⟨A8, n8, c8, rfl, h8, hc8, hg8⟩
    rw [show ([⟨some ⟨g2, 0, none⟩, 64, k2⟩, ⟨some ⟨zi, 0, none⟩, 32, inn⟩] : List Row).map (·.p) = [k2, inn] from rfl, show [k2, inn].flatten = k2 ++ inn by simp] at h8
    have CH9 := Lib.hid (((CH8.out.step c2.out (fun _ h => h.elim)).alloc (.cells #[.slice (some ⟨g2, 0, none⟩) 64 64, .slice (some ⟨zi, 0, none⟩) 32 32] 22)).step hc8.out (fun _ h => h.elim))
    have BR9 : Hid (Blk w6' z0 25 (u8s (nots 32))) := Lib.hid (((BR8.out.chg c2.out (fun h => h)).alloc (.cells #[.slice (some ⟨g2, 0, none⟩) 64 64, .slice (some ⟨zi, 0, none⟩) 32 32] 22)).chg hc8.out (fun h => h))
    refine hK _ _ ?_
    clear hK K
    refine wpAny_ready (rs := [5]) (by kernel_rfl) (by simp) ?_
    refine AllReady.cons rfl (fun K hK => ?_) AllReady.nil
    go_simp
    refine (dSum_calls A8 n8 c8 (k2 ++ inn) _ h8.out.rd h8.out.len h8.out.le (by have h1 := h8.out.len; have h2 := HK2L.out; have h3 := HIL.out; simp at h1; omega)).mono ?_
    rintro e w7' ⟨rfl, hc7'⟩
    rw [HMAC.out]
    have CH10 := Lib.hid (CH9.out.step hc7'.out (fun _ h => h.elim))
    have BR10 := Lib.hid (BR9.out.chg hc7'.out (fun h => h))
    refine hK _ _ ?_
    clear hK K
    refine wpAny_ready (rs := [6]) (by kernel_rfl) (by simp) ?_
    refine AllReady.cons rfl (fun K hK => ?_) AllReady.nil
    rw [if_pos (by kernel_rfl)]
    refine wp_store_row 25 _ _ rfl z0 (u8s (macOf key p)) rfl rfl 25 _ BR10.out (by rw [HML.out]; exact HI25.out) (by rw [HML.out]; rfl) (u8s_one _) ?_
    refine hK _ _ ?_
    clear hK K
    refine wpAny_done (by kernel_rfl) ?_ _
    go_wp2_with fail
    refine bodyPost_ret (v := .agg (u8s (macOf key p))) (results_cell_row rfl _ _ z0 25 _ (0, 0) _ rfl (BR10.out.row_ _) Try.underlying25 rfl (by rw [HML.out]; exact HI25.out)) rfl ⟨rfl, ?_⟩
    exact CH10.out.setRow (fun h => by omega) _
end Go.Proofs.Ytlaohifjdpjocaa
