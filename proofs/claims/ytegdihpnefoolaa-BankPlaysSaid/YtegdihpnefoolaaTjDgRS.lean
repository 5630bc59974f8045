/- DgRS -/
import Derived.Test.YtegdihpnefoolaaTjDgB
import Derived.Test.YtegdihpnefoolaaTjDig
import Derived.Test.YtegdihpnefoolaaTjOcRfB
open Go Go.RowKit
namespace Go.Proofs.Ytegdihpnefoolaa
theorem be64_take (N i : Nat) (h : i < 8) : (be64 N).take (i + 1) = (be64 N).take i ++ [UInt8.ofNat (N / 2 ^ (8 * (7 - i)))] := by
  rcases (show i = 0 ∨ i = 1 ∨ i = 2 ∨ i = 3 ∨ i = 4 ∨ i = 5 ∨ i = 6 ∨ i = 7 by omega) with rfl | rfl | rfl | rfl | rfl | rfl | rfl | rfl <;> rfl
theorem nots_succ (k : Nat) : nots (k + 1) = nots k ++ [0] := by unfold nots; rw [List.replicate_succ']
theorem padded_nots (p : List UInt8) : padded p = p ++ [128] ++ nots (padN p.length) ++ be64 (8 * p.length) := rfl
set_option maxRecDepth 100000 in
set_option maxHeartbeats 1600000 in
theorem dRefSumW_calls (A : Option Addr) (n c : Nat) (p : List UInt8) (w : World) (hr : Rd w A (bs p)) (hn : p.length = n) (hn9 : n ≤ 140737488351232) :
    Calls Try.prog 38 #[.slice A n c] w fun e w' => e = .returned (.agg (u8s (sha p))) ∧ Hid (Chg nowhere w w') := by
  have HR := Lib.hid hr
  have HN := Lib.hid hn
  have HM : Hid ((bs p).length = n) := Lib.hid (by rw [bs_length]; exact hn)
  have HB0 : Hid (0 + n ≤ lim) := hid_lim (by omega)
  have HB1 : Hid (n + 1 ≤ lim) := hid_lim (by omega)
  clear hr hn
  go_enter Try.func38, Try.ntmps38
  go_wp2_with (at_builtin; refine wpList_append_many rfl (.tmp 11) (.tmp 12) elemB rfl (Nat.le_refl _) rfl (elem_nil1 _ _) rfl ((HR.out.alloc _).alloc _) HM (bs_one p) HB0 ?_)
  intro A1 c1 w1 hown1 hchg1 hA1
  have HRES1 : Hid (Blk w1 w.heap.size 52 (u8s (nots 32))) := Lib.hid (by
    have b1 : Blk ((w.alloc (.cells (u8s (nots 32)) 52)).alloc (.cells #[] 5)) w.heap.size 52 (u8s (nots 32)) := (Blk.new w _ _).alloc _
    exact b1.chg hchg1 (fun h => by have h' : w.heap.size + 1 = w.heap.size := h; omega))
  have hF1 := Fresh.many (Fresh.lit1 w (.cells (u8s (nots 32)) 52)) HN.out (hchg1.mono (fun k _ h => ⟨_, rfl, h⟩)) (by rw [Nat.zero_add]; exact hown1) (hA1.imp id fun e => ⟨_, e, by simp⟩)
  rw [Nat.zero_add, List.nil_append] at hF1
  have HF1 := Lib.hid hF1
  clear hF1 hown1 hchg1 hA1
  go_wp2_with (at_builtin; refine wpList_append_one rfl (.tmp 13) (.tmp 14) elemB rfl (Nat.le_refl _) rfl (HF1.out.own.alloc _) rfl (Rd.lit _ [_] _) rfl HB1 ?_)
  intro A2 c2 w2 hown2 hchg2 hA2
  have HF2 := Lib.hid (Fresh.one (b := 128) HF1.out hchg2 hown2 (by simpa using hA2))
  have HRES2 : Hid (Blk w2 w.heap.size 52 (u8s (nots 32))) := Lib.hid ((HRES1.out.alloc _).chg hchg2 (by
    rintro ⟨ad, e, h⟩
    have h1 := HF1.out.new ad e
    simp at h1
    omega))
  clear hown2 hchg2 hA2
  obtain ⟨wb, hwb⟩ : ∃ wb, wb = w.alloc (.cells (u8s (nots 32)) 52) := ⟨_, rfl⟩
  obtain ⟨z0, hz0⟩ : ∃ z, z = w.heap.size := ⟨_, rfl⟩
  have HF : Hid (Fresh wb w2 A2 (n + 1) c2 (p ++ [128])) := Lib.hid (by rw [hwb]; exact HF2.out)
  have HBN : Hid (Chg nowhere w wb) := Lib.hid (by rw [hwb]; exact (Chg.refl _ _).alloc _)
  have hzb : z0 < wb.heap.size := by rw [hwb, hz0]; simp
  rw [← hz0] at HRES2 ⊢
  have HZ0 := Lib.hid hz0
  clear HF1 HF2 hwb hz0 HRES1
  obtain ⟨P, hP⟩ : ∃ P, P = padN n := ⟨_, rfl⟩
  have hP64 : P < 64 := by rw [hP]; unfold padN; omega
  have hPm : (n + 1 + P) % 64 = 56 := by rw [hP]; unfold padN; omega
  have hPn : ∀ j, j < P → (n + 1 + j) % 64 ≠ 56 := fun j hj => by rw [hP] at hj; unfold padN at hj; omega
  have HP := Lib.hid hP
  have HPM := Lib.hid hPm
  have HPN := Lib.hid hPn
  clear hP hPm hPn
  go_wp2_with fail
  go_loopw [3] (fun a wr => ∃ (j : Nat) (A3 : Option Addr) (n3 c3 : Nat), j ≤ P ∧ n3 = n + 1 + j ∧ a = .slice A3 n3 c3 ∧ Fresh wb wr A3 n3 c3 (p ++ [128] ++ nots j) ∧ Blk wr z0 52 (u8s (nots 32))) (fun a _ => match a with | .slice _ l _ => n + 1 + P - l | _ => 0)
  case atStart => exact ⟨0, A2, n + 1, c2, Nat.zero_le _, rfl, rfl, by simpa [nots] using HF.out, HRES2.out⟩
  case round =>
    obtain ⟨j, A3, n3, c3, hj, hn3, rfl, h1, h2⟩ := hrel
    obtain ⟨q, hq⟩ : ∃ q, q = p ++ [128] ++ nots j := ⟨_, rfl⟩
    rw [← hq] at h1
    have HQ := Lib.hid hq
    have H1 := Lib.hid h1
    have H2 := Lib.hid h2
    have HN3 := Lib.hid hn3
    clear h1 h2 hq
    have hn39 : n3 ≤ 140737488351532 := by omega
    by_cases hlt : j < P
    · have e1 : (((n3 : Int) % 64) != 56) = true := by
        have h := HPN.out j hlt
        rw [← hn3] at h
        rw [bne_iff_ne]
        omega
      have HBJ : Hid (n3 + 1 ≤ lim) := hid_lim (by omega)
      clear hn3
      go_wp2_with (at_builtin; refine wpList_append_one rfl (.tmp 20) (.tmp 21) elemB rfl (Nat.le_refl _) rfl (H1.out.own.alloc _) rfl (Rd.lit _ [_] _) rfl HBJ ?_)
      intro A4 c4 w4 hown4 hchg4 hA4
      have HF4 := Lib.hid (Fresh.one (b := 0) H1.out hchg4 hown4 (by simpa using hA4))
      have HRES4 : Hid (Blk w4 z0 52 (u8s (nots 32))) := Lib.hid ((H2.out.alloc _).chg hchg4 (by
        rintro ⟨ad, e, h⟩
        have h1 := H1.out.new ad e
        omega))
      clear hown4 hchg4 hA4
      go_wp2_with fail
      refine ⟨⟨j + 1, A4, n3 + 1, c4, by omega, by have := HN3.out; omega, rfl, by rw [nots_succ, ← List.append_assoc, ← HQ.out]; exact HF4.out, HRES4.out⟩, ?_⟩
      show n + 1 + P - (n3 + 1) < n + 1 + P - n3
      have := HN3.out
      omega
    · have e1 : (((n3 : Int) % 64) != 56) = false := by
        have h := HPM.out
        rw [bne_eq_false_iff_eq]
        omega
      obtain rfl : j = P := by omega
      clear hn3
      obtain ⟨N, hN⟩ : ∃ N, N = 8 * n := ⟨_, rfl⟩
      have hNq : (n : Int) * 8 = (N : Int) := by omega
      have HNN := Lib.hid hN
      have hN9 : N ≤ 1125899906809856 := by omega
      have hn3b : n3 ≤ 140737488351322 := by have := HN3.out; omega
      clear hN
      go_wp2_with fail
      go_loopw [3, 5] (fun a t wr => ∃ (i : Nat) (A3 : Option Addr) (n4 c3 : Nat), i ≤ 8 ∧ n4 = n3 + (8 - i) ∧ a = .slice A3 n4 c3 ∧ t = .int .i64 ((i : Int) - 1) ∧ Fresh wb wr A3 n4 c3 (q ++ (be64 N).take (8 - i)) ∧ Blk wr z0 52 (u8s (nots 32))) (fun _ t _ => (intOf t + 1).toNat)
      case atStart => exact ⟨8, A3, n3, c3, Nat.le_refl _, rfl, rfl, rfl, by simpa using H1.out, H2.out⟩
      case round =>
        obtain ⟨i, A4, n4, c4, hi, hn4, rfl, rfl, h1, h2⟩ := hrel
        have G2 := Lib.hid h2
        have HN4 := Lib.hid hn4
        have hn49 : n4 ≤ 140737488351532 := by omega
        clear h2 hn4
        rcases i with _ | i
        · have G1 : Hid (Fresh wb wr A4 n4 c4 (q ++ be64 N)) := Lib.hid (by rwa [show (be64 N).take (8 - 0) = be64 N from List.take_of_length_le (by simp [be64])] at h1)
          clear h1
          have e2 : (((0 : Nat) : Int) - 1) = -1 := rfl
          rw [e2]
          clear e2
          have hpad : q ++ be64 N = padded p := by
            rw [HQ.out, HNN.out, padded_nots, HN.out, ← HP.out]
          rw [hpad] at G1
          have HL : Hid (n4 = 64 * ((n + 72) / 64)) := Lib.hid (by rw [G1.out.len, padded_len, HN.out])
          have HPL : Hid ((padded p).length = n4) := Lib.hid G1.out.len.symm
          have hle4 := G1.out.le
          clear hpad
          go_wp2_with fail
          refine (refK_calls _).mono ?_
          rintro e w6 ⟨rfl, hc6⟩
          have hl8 := Lib.hid (show ∀ u : V8, (u32s u.l).size = 8 from fun u => by simp [u32s_size, V8.l])
          have hi8 := Lib.hid (show (Try.prog.info? 101).map (·.size) = some 8 by kernel_rfl)
          have hi60 := Lib.hid (show (Try.prog.info? 102).map (·.size) = some 64 by kernel_rfl)
          have hi25 := Lib.hid (show (Try.prog.info? 52).map (·.size) = some 32 by kernel_rfl)
          have hlk := Lib.hid (show (u32s kSha).size = 64 by rw [u32s_size, kSha_len])
          go_wp2_with (refine wpList_store_row rfl 102 _ _ rfl w6.heap.size (u32s kSha) rfl rfl 102 _ (heap_alloc_new w6 _) (by rw [hlk.out]; exact hi60.out) (by rw [hlk.out]; rfl) (u32s_one _) ?_)
          rw [World.setRow_alloc_new]
          obtain ⟨w7, hw7⟩ : ∃ w7, w7 = w6.alloc (.cells (u32s kSha) 102) := ⟨_, rfl⟩
          obtain ⟨zs, hzs⟩ : ∃ z, z = wr.heap.size := ⟨_, rfl⟩
          obtain ⟨zk, hzk⟩ : ∃ z, z = w6.heap.size := ⟨_, rfl⟩
          rw [← hw7, ← hzs, ← hzk]
          have hA4 : ∀ ad, A4 = some ad → ad.block < zs := fun ad e => by rw [hzs]; exact G1.out.own.lt e
          have hz0s : z0 < zs := by rw [hzs]; exact G2.out.lt
          have hc6' : Chg nowhere wr w6 := ((Chg.refl _ _).alloc _).step hc6.out (fun _ h => h.elim)
          have hzsk : zs < zk := by
            rw [hzs, hzk]
            have h := hc6.out.size
            simp at h
            omega
          have RM : Hid (Rd w7 A4 (bs (padded p))) := Lib.hid (by rw [hw7]; exact (G1.out.rd.later hc6').alloc _)
          have BS : Hid (Blk w7 zs 101 (u32s initSha.l)) := Lib.hid (by
            rw [hw7, hzs]
            have h : Blk (wr.alloc (.cells (u32s initSha.l) 101)) wr.heap.size 101 (u32s initSha.l) := Blk.new wr _ _
            exact (h.chg hc6.out (fun h => h)).alloc _)
          have BK : Hid (Blk w7 zk 102 (u32s kSha)) := Lib.hid (by rw [hw7, hzk]; exact Blk.new w6 _ _)
          have BR : Hid (Blk w7 z0 52 (u8s (nots 32))) := Lib.hid (by rw [hw7]; exact (G2.out.chg hc6' (fun h => h)).alloc _)
          have CH : Hid (Chg nowhere w w7) := Lib.hid (by rw [hw7]; exact (((HBN.out.step G1.out.chg (fun _ h => h.elim)).step hc6' (fun _ h => h.elim)).alloc _))
          have hzkw : zk < w7.heap.size := BK.out.lt
          have HA4 := Lib.hid hA4
          clear hw7 hzs hzk hc6 hc6' hA4 G1 G2
          obtain ⟨Q, hQ⟩ : ∃ Q, Q = (n + 72) / 64 := ⟨_, rfl⟩
          have hn4Q : n4 = 64 * Q := by rw [hQ]; exact HL.out
          have HQQ := Lib.hid hQ
          have HNQ := Lib.hid hn4Q
          clear hQ hn4Q
          go_loopw [8] (fun t wr => ∃ (b : Nat) (u : V8), b ≤ Q ∧ t = .int .i64 ((64 * b : Nat) : Int) ∧ u = mixSha b initSha (padded p) ∧ Blk wr zs 101 (u32s u.l) ∧ Chg (fun k => k = zs) w7 wr) (fun t _ => n4 - (intOf t).toNat)
          case atStart => exact ⟨0, initSha, Nat.zero_le _, rfl, rfl, BS.out, Chg.refl _ _⟩
          case round =>
            obtain ⟨b, u, hbQ, rfl, hu, h1, h3⟩ := hrel
            have hok : u.ok := by rw [hu]; exact mixSha_ok initSha_ok _ _
            have HU := Lib.hid hu
            have K1 := Lib.hid h1
            have K3 := Lib.hid h3
            have HOK := Lib.hid hok
            clear hu h1 h3 hok
            obtain ⟨a0, ha0⟩ : ∃ a, a = 64 * b := ⟨_, rfl⟩
            rw [← ha0]
            have HA0 := Lib.hid ha0
            by_cases hlt : b < Q
            · have hnq := HNQ.out
              have e1 : (a0 : Int) < n4 := by omega
              obtain ⟨a1, ha1⟩ : ∃ a, a = a0 + 64 := ⟨_, rfl⟩
              have r1 : IntKind.i64.wrap ((a0 : Int) + 64) = (a1 : Int) := by rw [IntWalk.i64_in _ (by omega)]; omega
              have g1 : a0 ≤ a1 := by omega
              have g2 : a1 ≤ n4 := by omega
              have g3 : a1 ≤ c4 := by omega
              have g4 : ¬ c4 = a0 := by omega
              have h64 : a1 - a0 = 64 := by omega
              have H64 := Lib.hid h64
              have HA1 := Lib.hid ha1
              obtain ⟨r8, hr8⟩ : ∃ r8, r8 = blkSha u (((padded p).drop a0).take 64) := ⟨_, rfl⟩
              have HR8 := Lib.hid hr8
              have hrow : Rd wr (A4.map (·.add a0)) (bs (((padded p).drop a0).take 64)) := by
                have h := ((RM.out.chg K3.out (fun _ ad e h => by have h1 := HA4.out ad e; have h2 : ad.block = zs := h; omega)).drop a0).take 64
                rwa [show ((bs (padded p)).drop a0).take 64 = bs (((padded p).drop a0).take 64) by rw [show (bs (padded p)).drop a0 = bs ((padded p).drop a0) from List.map_drop.symm, bs_take]] at h
              have HROW := Lib.hid hrow
              have HRL : Hid ((((padded p).drop a0).take 64).length = 64) := Lib.hid (by
                have h := HPL.out
                simp
                omega)
              have HNXT : Hid (r8 = mixSha (b + 1) initSha (padded p)) := Lib.hid (by rw [hr8, mixSha_snoc, ← HU.out, ha0])
              clear hnq ha1 h64 hr8 hrow ha0
              rcases u with ⟨ua, ub, uc, ud, ue, uf, ug, uh⟩
              have d0 : wr.cell? ⟨zs, 0, none⟩ = some (.int .u32 (ua : Int)) := K1.out.cell 0
              have d1 : wr.cell? ⟨zs, 1, none⟩ = some (.int .u32 (ub : Int)) := K1.out.cell 1
              have d2 : wr.cell? ⟨zs, 2, none⟩ = some (.int .u32 (uc : Int)) := K1.out.cell 2
              have d3 : wr.cell? ⟨zs, 3, none⟩ = some (.int .u32 (ud : Int)) := K1.out.cell 3
              have d4 : wr.cell? ⟨zs, 4, none⟩ = some (.int .u32 (ue : Int)) := K1.out.cell 4
              have d5 : wr.cell? ⟨zs, 5, none⟩ = some (.int .u32 (uf : Int)) := K1.out.cell 5
              have d6 : wr.cell? ⟨zs, 6, none⟩ = some (.int .u32 (ug : Int)) := K1.out.cell 6
              have d7 : wr.cell? ⟨zs, 7, none⟩ = some (.int .u32 (uh : Int)) := K1.out.cell 7
              go_wp2_with fail
              go_still_tail 6, (by kernel_rfl)
              change wpList _ _ _ _ _ (World.drew wr)
              replace K1 : Hid (Blk (World.drew wr) zs 101 (u32s (V8.mk ua ub uc ud ue uf ug uh).l)) := K1
              replace K3 : Hid (Chg (fun k => k = zs) w7 (World.drew wr)) := Lib.hid K3.out.drew
              replace HROW : Hid (Rd (World.drew wr) (A4.map (·.add a0)) (bs (((padded p).drop a0).take 64))) := HROW
              clear d0 d1 d2 d3 d4 d5 d6 d7
              generalize World.drew wr = wq at *
              have BKq : Blk wq zk 102 (u32s kSha) := BK.out.chg K3.out (fun h => by have h' : zk = zs := h; omega)
              go_wp2_with fail
              rw [H64.out]
              refine (refBlock_calls (A4.map (·.add a0)) (c4 - a0) zk (((padded p).drop a0).take 64) (V8.mk ua ub uc ud ue uf ug uh) r8 _ HOK.out HROW.out HRL.out BKq HR8).mono ?_
              rintro e w9 ⟨rfl, hc9⟩
              have K9 : Hid (Blk w9 zs 101 (u32s (V8.mk ua ub uc ud ue uf ug uh).l)) := Lib.hid (K1.out.chg hc9.out (fun h => h))
              clear BKq
              go_wp2_with (refine wpList_store_row rfl 101 _ _ rfl zs (u32s r8.l) rfl rfl 101 _ K9.out (by rw [hl8.out]; exact hi8.out) (by rw [hl8.out, hl8.out]) (u32s_one _) ?_)
              exact ⟨⟨b + 1, r8, by omega, by have h1 := HA0.out; have h2 := HA1.out; congr 1; omega, HNXT.out, K9.out.row_ _, (K3.out.trans hc9.out (fun _ _ h => h.elim)).setRow (fun _ => rfl) _⟩, by have h2 := HA1.out; simp [intOf]; omega⟩
            · have hnq := HNQ.out
              have e1 : (n4 : Int) ≤ a0 := by omega
              obtain rfl : b = Q := by omega
              have hout : outSha u = sha p := by rw [HU.out, HQQ.out, ← HN.out]; rfl
              have HOUT := Lib.hid hout
              have CHW : Hid (Chg nowhere w wr) := Lib.hid (CH.out.step K3.out (fun k hk => by have h' : k = zs := hk; have := HZ0.out; omega))
              have BR' : Hid (Blk wr z0 52 (u8s (nots 32))) := Lib.hid (BR.out.chg K3.out (fun h => by have h' : z0 = zs := h; omega))
              obtain ⟨wy, hwy⟩ : ∃ wy, wy = wr.alloc (.cells (u8s (outPart u 0)) 52) := ⟨_, rfl⟩
              obtain ⟨zh, hzh⟩ : ∃ z, z = wr.heap.size := ⟨_, rfl⟩
              have hz0h : z0 < zh := by rw [hzh]; exact BR'.out.lt
              have hzsh : zs < zh := by rw [hzh]; exact K1.out.lt
              have hwle : w.heap.size ≤ zh := by rw [hzh]; exact CHW.out.size
              have L1 : Hid (Blk wy zh 52 (u8s (outPart u 0))) := Lib.hid (by rw [hwy, hzh]; exact Blk.new wr _ _)
              have L2 : Hid (Blk wy z0 52 (u8s (nots 32))) := Lib.hid (by rw [hwy]; exact BR'.out.alloc _)
              have L3 : Hid (Blk wy zs 101 (u32s u.l)) := Lib.hid (by rw [hwy]; exact K1.out.alloc _)
              have L4 : Hid (Chg nowhere w wy) := Lib.hid (by rw [hwy]; exact CHW.out.alloc _)
              have hz25 : (wr.alloc (.cells (u8s (nots 32)) 52)) = wy := by rw [hwy]; rfl
              clear hnq hout
              go_wp2_with fail
              rw [← hzh]
              change Code.wp _ _ _ _ (wr.alloc (.cells (u8s (nots 32)) 52))
              rw [hz25]
              clear hz25 hwy hzh
              go_loopw [10] (fun t wz => ∃ k : Nat, k ≤ 32 ∧ t = .int .i64 k ∧ Blk wz zh 52 (u8s (outPart u k)) ∧ Blk wz z0 52 (u8s (nots 32)) ∧ Blk wz zs 101 (u32s u.l) ∧ Chg nowhere w wz) (fun t _ => 32 - (intOf t).toNat)
              case atStart => exact ⟨0, Nat.zero_le _, rfl, L1.out, L2.out, L3.out, L4.out⟩
              case round =>
                obtain ⟨k, hk, rfl, h1, h2, h3, h4⟩ := hrel
                have M1 := Lib.hid h1
                have M2 := Lib.hid h2
                have M3 := Lib.hid h3
                have M4 := Lib.hid h4
                clear h1 h2 h3 h4
                by_cases hlt : k < 32
                · have e2 : (k : Int) < 32 := by omega
                  have hj : k / 4 < 8 := by omega
                  have hcell : wr.cell? ⟨zs, k / 4, none⟩ = some (.int .u32 (u.l.getD (k / 4) 0 : Nat)) := by
                    rw [M3.out.cell]
                    exact u32s_get u.l (k / 4) hj
                  have hx : u.l.getD (k / 4) 0 < 4294967296 := getD_lt (by
                    obtain ⟨a1, a2, a3, a4, a5, a6, a7, a8⟩ := HOK.out
                    intro x hx
                    simp only [V8.l, List.mem_cons, List.not_mem_nil, or_false] at hx
                    rcases hx with rfl | rfl | rfl | rfl | rfl | rfl | rfl | rfl <;> assumption) _
                  obtain ⟨x, hxe⟩ : ∃ x, x = u.l.getD (k / 4) 0 := ⟨_, rfl⟩
                  rw [← hxe] at hcell hx
                  have HX := Lib.hid hxe
                  clear hxe
                  have hcz : wr.cell? ⟨zh, k, none⟩ = some (u8v ((outPart u k).getD k 0)) := by
                    rw [M1.out.cell]
                    have : k < (outPart u k).length := by simp [outPart]; omega
                    exact u8s_get _ _ this
                  have hfz : wr.frozen? ⟨zh, k, none⟩ = false := M1.out.frozen k
                  have hval : Hid (Value.int .u8 ((x : Int) / 2 ^ (24 - 8 * (k % 4)) % 256) = u8v (outByte u k)) := Lib.hid (by
                    unfold outByte u8v
                    rw [← HX.out]
                    simp)
                  have HP1 := Lib.hid (M1.out.set_ k (u8v (outByte u k)))
                  have HP2 := Lib.hid (M2.out.far (p := ⟨zh, k, none⟩) (by show z0 ≠ zh; omega) (u8v (outByte u k)))
                  have HP3 := Lib.hid (M3.out.far (p := ⟨zh, k, none⟩) (by show zs ≠ zh; omega) (u8v (outByte u k)))
                  have HP4 := Lib.hid (M4.out.setCell (p := ⟨zh, k, none⟩) (fun h => by have h' : zh < w.heap.size := h; omega) (u8v (outByte u k)))
                  rw [outPart_set] at HP1
                  go_wp2_with fail
                  rw [hval.out]
                  exact ⟨⟨k + 1, by omega, by go_num, HP1.out, HP2.out, HP3.out, HP4.out⟩, by simp [intOf]; omega⟩
                · have e2 : (32 : Int) ≤ k := by omega
                  obtain rfl : k = 32 := by omega
                  rw [outPart_end, HOUT.out] at M1
                  have HLN : Hid ((u8s (sha p)).size = 32) := Lib.hid (by rw [u8s_size, sha_len])
                  go_wp2_with (first | (refine wpList_load_row rfl 52 _ rfl zh rfl 52 _ (0, 0) _ M1.out Try.underlying52 rfl (by rw [HLN.out]; exact hi25.out) ?_) | (refine wpList_store_row rfl 52 _ _ rfl z0 _ rfl rfl 52 _ M2.out (by rw [HLN.out]; exact hi25.out) (by rw [HLN.out]; rfl) (u8s_one _) ?_))
                  refine bodyPost_ret (v := .agg (u8s (sha p))) (results_cell_row rfl _ _ z0 52 _ (0, 0) _ rfl (M2.out.row_ _) Try.underlying52 rfl (by rw [HLN.out]; exact hi25.out)) rfl ⟨rfl, ?_⟩
                  exact M4.out.setRow (fun h => by have := HZ0.out; omega) _
        · have e2 : (((i + 1 : Nat) : Int) - 1) = (i : Int) := by omega
          rw [e2]
          clear e2
          have e3 : (0 : Int) ≤ i := by omega
          have e4 : (i : Int) ≤ 7 := by omega
          obtain ⟨x, hx⟩ : ∃ x, x = q ++ (be64 N).take (8 - (i + 1)) := ⟨_, rfl⟩
          rw [← hx] at h1
          have G1 := Lib.hid h1
          have hnx : q ++ (be64 N).take (8 - i) = x ++ [UInt8.ofNat (N / 2 ^ (8 * i))] := by
            rw [hx, List.append_assoc, show 8 - i = (8 - (i + 1)) + 1 by omega, be64_take N _ (by omega), show 7 - (8 - (i + 1)) = i by omega]
          have HNX := Lib.hid hnx
          have hbv : Hid (Value.int .u8 ((N : Int) / 2 ^ (8 * i) % 256) = .int .u8 ((UInt8.ofNat (N / 2 ^ (8 * i))).toNat : Int)) := Lib.hid (by simp)
          have HBJ : Hid (n4 + 1 ≤ lim) := hid_lim (by omega)
          clear h1 hx hnx
          go_wp2_with (at_builtin; refine wpList_append_one rfl (.tmp 31) (.tmp 38) elemB rfl (Nat.le_refl _) rfl (G1.out.own.alloc _) rfl (Rd.lit _ [_] _) rfl HBJ ?_)
          intro A5 c5 w5 hown5 hchg5 hA5
          rw [hbv.out] at hown5
          have HF5 := Lib.hid (Fresh.one G1.out hchg5 hown5 (by simpa using hA5))
          have HRES5 : Hid (Blk w5 z0 52 (u8s (nots 32))) := Lib.hid ((G2.out.alloc _).chg hchg5 (by
            rintro ⟨ad, e, h⟩
            have h1 := G1.out.new ad e
            omega))
          clear hown5 hchg5 hA5
          go_wp2_with fail
          refine ⟨⟨i, A5, n4 + 1, c5, by omega, by have := HN4.out; omega, rfl, rfl, by rw [HNX.out]; exact HF5.out, HRES5.out⟩, ?_⟩
          simp [intOf]
theorem dRefSum_calls (A : Option Addr) (n c : Nat) (p : List UInt8) (w : World) (hr : Rd w A (bs p)) (hn : p.length = n) (hn9 : n ≤ 1000000000) :
    Calls Try.prog 38 #[.slice A n c] w fun e w' => e = .returned (.agg (u8s (sha p))) ∧ Hid (Chg nowhere w w') := dRefSumW_calls A n c p w hr hn (by omega)
end Go.Proofs.Ytegdihpnefoolaa
