/- OcEl, Fr, DgRS, Ty, TyW, Eq, EqW, OtW, OtE, MkR, MkN, Hashes -/
import Derived.Test.YtmnapacibpnodaaGreatUeBase
import Derived.Test.YtmnapacibpnodaaGreatProg
import Derived.Test.YtmnapacibpnodaaGreatUeDgB
import Derived.Test.YtmnapacibpnodaaGreatUeDig
import Derived.Stop.BytesEq
import Derived.StillTailTactics
section
open Go Go.RowKit
namespace Go.Proofs.YtmnapacibpnodaaGreat
theorem elemB : Elem Tryz.prog 34 5 1 1 (.int .u8 0) := ⟨Tryz.underlying34, by kernel_rfl, rfl, by omega⟩
theorem elem_nil (w : World) : Own (w.alloc (.cells #[] 5)) 5 1 (some ⟨w.heap.size, 0, none⟩) 0 0 (bs []) := Own.new w _ 1 0 #[] (by simp [maxLen]) rfl
end Go.Proofs.YtmnapacibpnodaaGreat
end
section
open Go Go.RowKit
namespace Go.Proofs.YtmnapacibpnodaaGreat
/-- a row that the call made since w0 -/
structure Fresh (w0 w : World) (A : Option Addr) (n c : Nat) (xs : List UInt8) : Prop where
  own : Own w 5 1 A n c (bs xs)
  len : n = xs.length
  chg : Chg nowhere w0 w
  new : ∀ ad, A = some ad → w0.heap.size ≤ ad.block
theorem Fresh.nil (w : World) : Fresh w w none 0 0 [] := ⟨Own.nil _ _ _, rfl, Chg.refl _ _, fun ad e => by cases e⟩
theorem Fresh.push {w0 w wx w2 : World} {A A' : Option Addr} {n c n' c' : Nat} {xs ys : List UInt8} (h : Fresh w0 w A n c xs) (h0 : Chg nowhere w wx) (hc : Chg (fun k => ∃ ad, A = some ad ∧ ad.block = k) wx w2)
    (ho : Own w2 5 1 A' n' c' (bs ys)) (hn : n' = ys.length) (hA : A' = A ∨ ∃ z, A' = some ⟨z, 0, none⟩ ∧ w.heap.size ≤ z) : Fresh w0 w2 A' n' c' ys := by
  refine ⟨ho, hn, (h.chg.step h0 (fun _ h => h.elim)).step hc ?_, ?_⟩
  · rintro x ⟨ad, e, rfl⟩
    exact h.new ad e
  · rintro ad rfl
    rcases hA with e | ⟨z, e, hz⟩
    · exact h.new ad e.symm
    · injection e with e
      subst e
      have := h.chg.size
      show w0.heap.size ≤ z
      omega
theorem Fresh.rd {w0 w : World} {A : Option Addr} {n c : Nat} {xs : List UInt8} (h : Fresh w0 w A n c xs) : Rd w A (bs xs) := h.own.rd
theorem elem_nil1 (w : World) (o : Obj) : Own ((w.alloc o).alloc (.cells #[] 5)) 5 1 (some ⟨w.heap.size + 1, 0, none⟩) 0 0 (bs []) := by
  have h := elem_nil (w.alloc o)
  simpa using h
theorem Fresh.lit1 (w : World) (o : Obj) : Fresh (w.alloc o) ((w.alloc o).alloc (.cells #[] 5)) (some ⟨w.heap.size + 1, 0, none⟩) 0 0 [] := ⟨elem_nil1 w o, rfl, (Chg.refl _ _).alloc _, fun ad e => by injection e with e; subst e; simp⟩
/-- a byte more -/
theorem Fresh.one {w0 w w2 : World} {A A' : Option Addr} {n c c' : Nat} {xs : List UInt8} {b : UInt8} {o : Obj} (h : Fresh w0 w A n c xs) (hc : Chg (fun k => ∃ ad, A = some ad ∧ ad.block = k) (w.alloc o) w2)
    (ho : Own w2 5 1 A' (n + 1) c' (bs xs ++ [.int .u8 (b.toNat : Int)])) (hA : A' = A ∨ A' = some ⟨w.heap.size + 1, 0, none⟩) : Fresh w0 w2 A' (n + 1) c' (xs ++ [b]) := by
  refine h.push (wx := w.alloc o) ((Chg.refl _ _).alloc _) hc (by simpa [bs, u8v] using ho) (by simp [h.len]) (hA.imp id fun e => ⟨_, e, Nat.le_succ _⟩)
/-- many bytes more -/
theorem Fresh.many {w0 w w2 : World} {A A' : Option Addr} {n m c c' : Nat} {xs ys : List UInt8} (h : Fresh w0 w A n c xs) (hm : ys.length = m) (hc : Chg (fun k => ∃ ad, A = some ad ∧ ad.block = k) w w2)
    (ho : Own w2 5 1 A' (n + m) c' (bs xs ++ bs ys)) (hA : A' = A ∨ ∃ z, A' = some ⟨z, 0, none⟩ ∧ w.heap.size ≤ z) : Fresh w0 w2 A' (n + m) c' (xs ++ ys) := by
  refine h.push (wx := w) (Chg.refl _ _) hc (by rw [bs_append] at ho; exact ho) (by simp [h.len, hm]) hA
theorem Fresh.le {w0 w : World} {A : Option Addr} {n c : Nat} {xs : List UInt8} (h : Fresh w0 w A n c xs) : n ≤ c := by
  rcases h.own.form with ⟨_, h1, h2, _⟩ | ⟨_, _, _, _, h1, _⟩ <;> omega
end Go.Proofs.YtmnapacibpnodaaGreat
end
section
open Go Go.RowKit
namespace Go.Proofs.YtmnapacibpnodaaGreat
theorem be64_take (N i : Nat) (h : i < 8) : (be64 N).take (i + 1) = (be64 N).take i ++ [UInt8.ofNat (N / 2 ^ (8 * (7 - i)))] := by
  rcases (show i = 0 ∨ i = 1 ∨ i = 2 ∨ i = 3 ∨ i = 4 ∨ i = 5 ∨ i = 6 ∨ i = 7 by omega) with rfl | rfl | rfl | rfl | rfl | rfl | rfl | rfl <;> rfl
theorem nots_succ (k : Nat) : nots (k + 1) = nots k ++ [0] := by unfold nots; rw [List.replicate_succ']
theorem padded_nots (p : List UInt8) : padded p = p ++ [128] ++ nots (padN p.length) ++ be64 (8 * p.length) := rfl
set_option maxRecDepth 100000 in
set_option maxHeartbeats 1600000 in
theorem dRefSumW_calls (A : Option Addr) (n c : Nat) (p : List UInt8) (w : World) (hr : Rd w A (bs p)) (hn : p.length = n) (hn9 : n ≤ 140737488351232) :
    Calls Tryz.prog 28 #[.slice A n c] w fun e w' => e = .returned (.agg (u8s (sha p))) ∧ Hid (Chg nowhere w w') := by
  have HR := Lib.hid hr
  have HN := Lib.hid hn
  have HM : Hid ((bs p).length = n) := Lib.hid (by rw [bs_length]; exact hn)
  have HB0 : Hid (0 + n ≤ lim) := hid_lim (by omega)
  have HB1 : Hid (n + 1 ≤ lim) := hid_lim (by omega)
  clear hr hn
  go_enter Tryz.func28, Tryz.ntmps28
  go_wp2_with (at_builtin; refine wpList_append_many rfl (.tmp 11) (.tmp 12) elemB rfl (Nat.le_refl _) rfl (elem_nil1 _ _) rfl ((HR.out.alloc _).alloc _) HM (bs_one p) HB0 ?_)
  intro A1 c1 w1 hown1 hchg1 hA1
  have HRES1 : Hid (Blk w1 w.heap.size 26 (u8s (nots 32))) := Lib.hid (by
    have b1 : Blk ((w.alloc (.cells (u8s (nots 32)) 26)).alloc (.cells #[] 5)) w.heap.size 26 (u8s (nots 32)) := (Blk.new w _ _).alloc _
    exact b1.chg hchg1 (fun h => by have h' : w.heap.size + 1 = w.heap.size := h; omega))
  have hF1 := Fresh.many (Fresh.lit1 w (.cells (u8s (nots 32)) 26)) HN.out (hchg1.mono (fun k _ h => ⟨_, rfl, h⟩)) (by rw [Nat.zero_add]; exact hown1) (hA1.imp id fun e => ⟨_, e, by simp⟩)
  rw [Nat.zero_add, List.nil_append] at hF1
  have HF1 := Lib.hid hF1
  clear hF1 hown1 hchg1 hA1
  go_wp2_with (at_builtin; refine wpList_append_one rfl (.tmp 13) (.tmp 14) elemB rfl (Nat.le_refl _) rfl (HF1.out.own.alloc _) rfl (Rd.lit _ [_] _) rfl HB1 ?_)
  intro A2 c2 w2 hown2 hchg2 hA2
  have HF2 := Lib.hid (Fresh.one (b := 128) HF1.out hchg2 hown2 (by simpa using hA2))
  have HRES2 : Hid (Blk w2 w.heap.size 26 (u8s (nots 32))) := Lib.hid ((HRES1.out.alloc _).chg hchg2 (by
    rintro ⟨ad, e, h⟩
    have h1 := HF1.out.new ad e
    simp at h1
    omega))
  clear hown2 hchg2 hA2
  obtain ⟨wb, hwb⟩ : ∃ wb, wb = w.alloc (.cells (u8s (nots 32)) 26) := ⟨_, rfl⟩
  obtain ⟨z0, hz0⟩ : ∃ z, z = w.heap.size := ⟨_, rfl⟩
  have HF : Hid (Fresh wb w2 A2 (n + 1) c2 (p ++ [128])) := Lib.hid (by rw [hwb]; exact HF2.out)
  have HBN : Hid (Chg nowhere w wb) := Lib.hid (by rw [hwb]; exact (Chg.refl _ _).alloc _)
  have hzb : z0 < wb.heap.size := by rw [hwb, hz0]; simp
  rw [← hz0] at HRES2 ⊢
  have HZ0 := Lib.hid hz0
  clear HF1 HF2 hwb hz0 HRES1
  obtain ⟨P, hP⟩ : ∃ P, P = padN n := ⟨_, rfl⟩
  have hP64 : P < 64 := by rw [hP]; unfold padN; omega
  have hPm : (n + 1 + P) % 64 = 56 := by rw [hP]; unfold padN; omega
  have hPn : ∀ j, j < P → (n + 1 + j) % 64 ≠ 56 := fun j hj => by rw [hP] at hj; unfold padN at hj; omega
  have HP := Lib.hid hP
  have HPM := Lib.hid hPm
  have HPN := Lib.hid hPn
  clear hP hPm hPn
  go_wp2_with fail
  go_loopw [3] (fun a wr => ∃ (j : Nat) (A3 : Option Addr) (n3 c3 : Nat), j ≤ P ∧ n3 = n + 1 + j ∧ a = .slice A3 n3 c3 ∧ Fresh wb wr A3 n3 c3 (p ++ [128] ++ nots j) ∧ Blk wr z0 26 (u8s (nots 32))) (fun a _ => match a with | .slice _ l _ => n + 1 + P - l | _ => 0)
  case atStart => exact ⟨0, A2, n + 1, c2, Nat.zero_le _, rfl, rfl, by simpa [nots] using HF.out, HRES2.out⟩
  case round =>
    obtain ⟨j, A3, n3, c3, hj, hn3, rfl, h1, h2⟩ := hrel
    obtain ⟨q, hq⟩ : ∃ q, q = p ++ [128] ++ nots j := ⟨_, rfl⟩
    rw [← hq] at h1
    have HQ := Lib.hid hq
    have H1 := Lib.hid h1
    have H2 := Lib.hid h2
    have HN3 := Lib.hid hn3
    clear h1 h2 hq
    have hn39 : n3 ≤ 140737488351532 := by omega
    by_cases hlt : j < P
    · have e1 : (((n3 : Int) % 64) != 56) = true := by
        have h := HPN.out j hlt
        rw [← hn3] at h
        rw [bne_iff_ne]
        omega
      have HBJ : Hid (n3 + 1 ≤ lim) := hid_lim (by omega)
      clear hn3
      go_wp2_with (at_builtin; refine wpList_append_one rfl (.tmp 20) (.tmp 21) elemB rfl (Nat.le_refl _) rfl (H1.out.own.alloc _) rfl (Rd.lit _ [_] _) rfl HBJ ?_)
      intro A4 c4 w4 hown4 hchg4 hA4
      have HF4 := Lib.hid (Fresh.one (b := 0) H1.out hchg4 hown4 (by simpa using hA4))
      have HRES4 : Hid (Blk w4 z0 26 (u8s (nots 32))) := Lib.hid ((H2.out.alloc _).chg hchg4 (by
        rintro ⟨ad, e, h⟩
        have h1 := H1.out.new ad e
        omega))
      clear hown4 hchg4 hA4
      go_wp2_with fail
      refine ⟨⟨j + 1, A4, n3 + 1, c4, by omega, by have := HN3.out; omega, rfl, by rw [nots_succ, ← List.append_assoc, ← HQ.out]; exact HF4.out, HRES4.out⟩, ?_⟩
      show n + 1 + P - (n3 + 1) < n + 1 + P - n3
      have := HN3.out
      omega
    · have e1 : (((n3 : Int) % 64) != 56) = false := by
        have h := HPM.out
        rw [bne_eq_false_iff_eq]
        omega
      obtain rfl : j = P := by omega
      clear hn3
      obtain ⟨N, hN⟩ : ∃ N, N = 8 * n := ⟨_, rfl⟩
      have hNq : (n : Int) * 8 = (N : Int) := by omega
      have HNN := Lib.hid hN
      have hN9 : N ≤ 1125899906809856 := by omega
      have hn3b : n3 ≤ 140737488351322 := by have := HN3.out; omega
      clear hN
      go_wp2_with fail
      go_loopw [3, 5] (fun a t wr => ∃ (i : Nat) (A3 : Option Addr) (n4 c3 : Nat), i ≤ 8 ∧ n4 = n3 + (8 - i) ∧ a = .slice A3 n4 c3 ∧ t = .int .i64 ((i : Int) - 1) ∧ Fresh wb wr A3 n4 c3 (q ++ (be64 N).take (8 - i)) ∧ Blk wr z0 26 (u8s (nots 32))) (fun _ t _ => (intOf t + 1).toNat)
      case atStart => exact ⟨8, A3, n3, c3, Nat.le_refl _, rfl, rfl, rfl, by simpa using H1.out, H2.out⟩
      case round =>
        obtain ⟨i, A4, n4, c4, hi, hn4, rfl, rfl, h1, h2⟩ := hrel
        have G2 := Lib.hid h2
        have HN4 := Lib.hid hn4
        have hn49 : n4 ≤ 140737488351532 := by omega
        clear h2 hn4
        rcases i with _ | i
        · have G1 : Hid (Fresh wb wr A4 n4 c4 (q ++ be64 N)) := Lib.hid (by rwa [show (be64 N).take (8 - 0) = be64 N from List.take_of_length_le (by simp [be64])] at h1)
          clear h1
          have e2 : (((0 : Nat) : Int) - 1) = -1 := rfl
          rw [e2]
          clear e2
          have hpad : q ++ be64 N = padded p := by
            rw [HQ.out, HNN.out, padded_nots, HN.out, ← HP.out]
          rw [hpad] at G1
          have HL : Hid (n4 = 64 * ((n + 72) / 64)) := Lib.hid (by rw [G1.out.len, padded_len, HN.out])
          have HPL : Hid ((padded p).length = n4) := Lib.hid G1.out.len.symm
          have hle4 := G1.out.le
          clear hpad
          go_wp2_with fail
          refine (refK_calls _).mono ?_
          rintro e w6 ⟨rfl, hc6⟩
          have hl8 := Lib.hid (show ∀ u : V8, (u32s u.l).size = 8 from fun u => by simp [u32s_size, V8.l])
          have hi8 := Lib.hid (show (Tryz.prog.info? 116).map (·.size) = some 8 by kernel_rfl)
          have hi60 := Lib.hid (show (Tryz.prog.info? 117).map (·.size) = some 64 by kernel_rfl)
          have hi25 := Lib.hid (show (Tryz.prog.info? 26).map (·.size) = some 32 by kernel_rfl)
          have hlk := Lib.hid (show (u32s kSha).size = 64 by rw [u32s_size, kSha_len])
          go_wp2_with (refine wpList_store_row rfl 117 _ _ rfl w6.heap.size (u32s kSha) rfl rfl 117 _ (heap_alloc_new w6 _) (by rw [hlk.out]; exact hi60.out) (by rw [hlk.out]; rfl) (u32s_one _) ?_)
          rw [World.setRow_alloc_new]
          obtain ⟨w7, hw7⟩ : ∃ w7, w7 = w6.alloc (.cells (u32s kSha) 117) := ⟨_, rfl⟩
          obtain ⟨zs, hzs⟩ : ∃ z, z = wr.heap.size := ⟨_, rfl⟩
          obtain ⟨zk, hzk⟩ : ∃ z, z = w6.heap.size := ⟨_, rfl⟩
          rw [← hw7, ← hzs, ← hzk]
          have hA4 : ∀ ad, A4 = some ad → ad.block < zs := fun ad e => by rw [hzs]; exact G1.out.own.lt e
          have hz0s : z0 < zs := by rw [hzs]; exact G2.out.lt
          have hc6' : Chg nowhere wr w6 := ((Chg.refl _ _).alloc _).step hc6.out (fun _ h => h.elim)
          have hzsk : zs < zk := by
            rw [hzs, hzk]
            have h := hc6.out.size
            simp at h
            omega
          have RM : Hid (Rd w7 A4 (bs (padded p))) := Lib.hid (by rw [hw7]; exact (G1.out.rd.later hc6').alloc _)
          have BS : Hid (Blk w7 zs 116 (u32s initSha.l)) := Lib.hid (by
            rw [hw7, hzs]
            have h : Blk (wr.alloc (.cells (u32s initSha.l) 116)) wr.heap.size 116 (u32s initSha.l) := Blk.new wr _ _
            exact (h.chg hc6.out (fun h => h)).alloc _)
          have BK : Hid (Blk w7 zk 117 (u32s kSha)) := Lib.hid (by rw [hw7, hzk]; exact Blk.new w6 _ _)
          have BR : Hid (Blk w7 z0 26 (u8s (nots 32))) := Lib.hid (by rw [hw7]; exact (G2.out.chg hc6' (fun h => h)).alloc _)
          have CH : Hid (Chg nowhere w w7) := Lib.hid (by rw [hw7]; exact (((HBN.out.step G1.out.chg (fun _ h => h.elim)).step hc6' (fun _ h => h.elim)).alloc _))
          have hzkw : zk < w7.heap.size := BK.out.lt
          have HA4 := Lib.hid hA4
          clear hw7 hzs hzk hc6 hc6' hA4 G1 G2
          obtain ⟨Q, hQ⟩ : ∃ Q, Q = (n + 72) / 64 := ⟨_, rfl⟩
          have hn4Q : n4 = 64 * Q := by rw [hQ]; exact HL.out
          have HQQ := Lib.hid hQ
          have HNQ := Lib.hid hn4Q
          clear hQ hn4Q
          go_loopw [8] (fun t wr => ∃ (b : Nat) (u : V8), b ≤ Q ∧ t = .int .i64 ((64 * b : Nat) : Int) ∧ u = mixSha b initSha (padded p) ∧ Blk wr zs 116 (u32s u.l) ∧ Chg (fun k => k = zs) w7 wr) (fun t _ => n4 - (intOf t).toNat)
          case atStart => exact ⟨0, initSha, Nat.zero_le _, rfl, rfl, BS.out, Chg.refl _ _⟩
          case round =>
            obtain ⟨b, u, hbQ, rfl, hu, h1, h3⟩ := hrel
            have hok : u.ok := by rw [hu]; exact mixSha_ok initSha_ok _ _
            have HU := Lib.hid hu
            have K1 := Lib.hid h1
            have K3 := Lib.hid h3
            have HOK := Lib.hid hok
            clear hu h1 h3 hok
            obtain ⟨a0, ha0⟩ : ∃ a, a = 64 * b := ⟨_, rfl⟩
            rw [← ha0]
            have HA0 := Lib.hid ha0
            by_cases hlt : b < Q
            · have hnq := HNQ.out
              have e1 : (a0 : Int) < n4 := by omega
              obtain ⟨a1, ha1⟩ : ∃ a, a = a0 + 64 := ⟨_, rfl⟩
              have r1 : IntKind.i64.wrap ((a0 : Int) + 64) = (a1 : Int) := by rw [IntWalk.i64_in _ (by omega)]; omega
              have g1 : a0 ≤ a1 := by omega
              have g2 : a1 ≤ n4 := by omega
              have g3 : a1 ≤ c4 := by omega
              have g4 : ¬ c4 = a0 := by omega
              have h64 : a1 - a0 = 64 := by omega
              have H64 := Lib.hid h64
              have HA1 := Lib.hid ha1
              obtain ⟨r8, hr8⟩ : ∃ r8, r8 = blkSha u (((padded p).drop a0).take 64) := ⟨_, rfl⟩
              have HR8 := Lib.hid hr8
              have hrow : Rd wr (A4.map (·.add a0)) (bs (((padded p).drop a0).take 64)) := by
                have h := ((RM.out.chg K3.out (fun _ ad e h => by have h1 := HA4.out ad e; have h2 : ad.block = zs := h; omega)).drop a0).take 64
                rwa [show ((bs (padded p)).drop a0).take 64 = bs (((padded p).drop a0).take 64) by rw [show (bs (padded p)).drop a0 = bs ((padded p).drop a0) from List.map_drop.symm, bs_take]] at h
              have HROW := Lib.hid hrow
              have HRL : Hid ((((padded p).drop a0).take 64).length = 64) := Lib.hid (by
                have h := HPL.out
                simp
                omega)
              have HNXT : Hid (r8 = mixSha (b + 1) initSha (padded p)) := Lib.hid (by rw [hr8, mixSha_snoc, ← HU.out, ha0])
              clear hnq ha1 h64 hr8 hrow ha0
              rcases u with ⟨ua, ub, uc, ud, ue, uf, ug, uh⟩
              have d0 : wr.cell? ⟨zs, 0, none⟩ = some (.int .u32 (ua : Int)) := K1.out.cell 0
              have d1 : wr.cell? ⟨zs, 1, none⟩ = some (.int .u32 (ub : Int)) := K1.out.cell 1
              have d2 : wr.cell? ⟨zs, 2, none⟩ = some (.int .u32 (uc : Int)) := K1.out.cell 2
              have d3 : wr.cell? ⟨zs, 3, none⟩ = some (.int .u32 (ud : Int)) := K1.out.cell 3
              have d4 : wr.cell? ⟨zs, 4, none⟩ = some (.int .u32 (ue : Int)) := K1.out.cell 4
              have d5 : wr.cell? ⟨zs, 5, none⟩ = some (.int .u32 (uf : Int)) := K1.out.cell 5
              have d6 : wr.cell? ⟨zs, 6, none⟩ = some (.int .u32 (ug : Int)) := K1.out.cell 6
              have d7 : wr.cell? ⟨zs, 7, none⟩ = some (.int .u32 (uh : Int)) := K1.out.cell 7
              go_wp2_with fail
              go_still_tail 6, (by kernel_rfl)
              change wpList _ _ _ _ _ (World.drew wr)
              replace K1 : Hid (Blk (World.drew wr) zs 116 (u32s (V8.mk ua ub uc ud ue uf ug uh).l)) := K1
              replace K3 : Hid (Chg (fun k => k = zs) w7 (World.drew wr)) := Lib.hid K3.out.drew
              replace HROW : Hid (Rd (World.drew wr) (A4.map (·.add a0)) (bs (((padded p).drop a0).take 64))) := HROW
              clear d0 d1 d2 d3 d4 d5 d6 d7
              generalize World.drew wr = wq at *
              have BKq : Blk wq zk 117 (u32s kSha) := BK.out.chg K3.out (fun h => by have h' : zk = zs := h; omega)
              go_wp2_with fail
              rw [H64.out]
              refine (refBlock_calls (A4.map (·.add a0)) (c4 - a0) zk (((padded p).drop a0).take 64) (V8.mk ua ub uc ud ue uf ug uh) r8 _ HOK.out HROW.out HRL.out BKq HR8).mono ?_
              rintro e w9 ⟨rfl, hc9⟩
              have K9 : Hid (Blk w9 zs 116 (u32s (V8.mk ua ub uc ud ue uf ug uh).l)) := Lib.hid (K1.out.chg hc9.out (fun h => h))
              clear BKq
              go_wp2_with (refine wpList_store_row rfl 116 _ _ rfl zs (u32s r8.l) rfl rfl 116 _ K9.out (by rw [hl8.out]; exact hi8.out) (by rw [hl8.out, hl8.out]) (u32s_one _) ?_)
              exact ⟨⟨b + 1, r8, by omega, by have h1 := HA0.out; have h2 := HA1.out; congr 1; omega, HNXT.out, K9.out.row_ _, (K3.out.trans hc9.out (fun _ _ h => h.elim)).setRow (fun _ => rfl) _⟩, by have h2 := HA1.out; simp [intOf]; omega⟩
            · have hnq := HNQ.out
              have e1 : (n4 : Int) ≤ a0 := by omega
              obtain rfl : b = Q := by omega
              have hout : outSha u = sha p := by rw [HU.out, HQQ.out, ← HN.out]; rfl
              have HOUT := Lib.hid hout
              have CHW : Hid (Chg nowhere w wr) := Lib.hid (CH.out.step K3.out (fun k hk => by have h' : k = zs := hk; have := HZ0.out; omega))
              have BR' : Hid (Blk wr z0 26 (u8s (nots 32))) := Lib.hid (BR.out.chg K3.out (fun h => by have h' : z0 = zs := h; omega))
              obtain ⟨wy, hwy⟩ : ∃ wy, wy = wr.alloc (.cells (u8s (outPart u 0)) 26) := ⟨_, rfl⟩
              obtain ⟨zh, hzh⟩ : ∃ z, z = wr.heap.size := ⟨_, rfl⟩
              have hz0h : z0 < zh := by rw [hzh]; exact BR'.out.lt
              have hzsh : zs < zh := by rw [hzh]; exact K1.out.lt
              have hwle : w.heap.size ≤ zh := by rw [hzh]; exact CHW.out.size
              have L1 : Hid (Blk wy zh 26 (u8s (outPart u 0))) := Lib.hid (by rw [hwy, hzh]; exact Blk.new wr _ _)
              have L2 : Hid (Blk wy z0 26 (u8s (nots 32))) := Lib.hid (by rw [hwy]; exact BR'.out.alloc _)
              have L3 : Hid (Blk wy zs 116 (u32s u.l)) := Lib.hid (by rw [hwy]; exact K1.out.alloc _)
              have L4 : Hid (Chg nowhere w wy) := Lib.hid (by rw [hwy]; exact CHW.out.alloc _)
              have hz25 : (wr.alloc (.cells (u8s (nots 32)) 26)) = wy := by rw [hwy]; rfl
              clear hnq hout
              go_wp2_with fail
              rw [← hzh]
              change Code.wp _ _ _ _ (wr.alloc (.cells (u8s (nots 32)) 26))
              rw [hz25]
              clear hz25 hwy hzh
              go_loopw [10] (fun t wz => ∃ k : Nat, k ≤ 32 ∧ t = .int .i64 k ∧ Blk wz zh 26 (u8s (outPart u k)) ∧ Blk wz z0 26 (u8s (nots 32)) ∧ Blk wz zs 116 (u32s u.l) ∧ Chg nowhere w wz) (fun t _ => 32 - (intOf t).toNat)
              case atStart => exact ⟨0, Nat.zero_le _, rfl, L1.out, L2.out, L3.out, L4.out⟩
              case round =>
                obtain ⟨k, hk, rfl, h1, h2, h3, h4⟩ := hrel
                have M1 := Lib.hid h1
                have M2 := Lib.hid h2
                have M3 := Lib.hid h3
                have M4 := Lib.hid h4
                clear h1 h2 h3 h4
                by_cases hlt : k < 32
                · have e2 : (k : Int) < 32 := by omega
                  have hj : k / 4 < 8 := by omega
                  have hcell : wr.cell? ⟨zs, k / 4, none⟩ = some (.int .u32 (u.l.getD (k / 4) 0 : Nat)) := by
                    rw [M3.out.cell]
                    exact u32s_get u.l (k / 4) hj
                  have hx : u.l.getD (k / 4) 0 < 4294967296 := getD_lt (by
                    obtain ⟨a1, a2, a3, a4, a5, a6, a7, a8⟩ := HOK.out
                    intro x hx
                    simp only [V8.l, List.mem_cons, List.not_mem_nil, or_false] at hx
                    rcases hx with rfl | rfl | rfl | rfl | rfl | rfl | rfl | rfl <;> assumption) _
                  obtain ⟨x, hxe⟩ : ∃ x, x = u.l.getD (k / 4) 0 := ⟨_, rfl⟩
                  rw [← hxe] at hcell hx
                  have HX := Lib.hid hxe
                  clear hxe
                  have hcz : wr.cell? ⟨zh, k, none⟩ = some (u8v ((outPart u k).getD k 0)) := by
                    rw [M1.out.cell]
                    have : k < (outPart u k).length := by simp [outPart]; omega
                    exact u8s_get _ _ this
                  have hfz : wr.frozen? ⟨zh, k, none⟩ = false := M1.out.frozen k
                  have hval : Hid (Value.int .u8 ((x : Int) / 2 ^ (24 - 8 * (k % 4)) % 256) = u8v (outByte u k)) := Lib.hid (by
                    unfold outByte u8v
                    rw [← HX.out]
                    simp)
                  have HP1 := Lib.hid (M1.out.set_ k (u8v (outByte u k)))
                  have HP2 := Lib.hid (M2.out.far (p := ⟨zh, k, none⟩) (by show z0 ≠ zh; omega) (u8v (outByte u k)))
                  have HP3 := Lib.hid (M3.out.far (p := ⟨zh, k, none⟩) (by show zs ≠ zh; omega) (u8v (outByte u k)))
                  have HP4 := Lib.hid (M4.out.setCell (p := ⟨zh, k, none⟩) (fun h => by have h' : zh < w.heap.size := h; omega) (u8v (outByte u k)))
                  rw [outPart_set] at HP1
                  go_wp2_with fail
                  rw [hval.out]
                  exact ⟨⟨k + 1, by omega, by go_num, HP1.out, HP2.out, HP3.out, HP4.out⟩, by simp [intOf]; omega⟩
                · have e2 : (32 : Int) ≤ k := by omega
                  obtain rfl : k = 32 := by omega
                  rw [outPart_end, HOUT.out] at M1
                  have HLN : Hid ((u8s (sha p)).size = 32) := Lib.hid (by rw [u8s_size, sha_len])
                  go_wp2_with (first | (refine wpList_load_row rfl 26 _ rfl zh rfl 26 _ (0, 0) _ M1.out Tryz.underlying26 rfl (by rw [HLN.out]; exact hi25.out) ?_) | (refine wpList_store_row rfl 26 _ _ rfl z0 _ rfl rfl 26 _ M2.out (by rw [HLN.out]; exact hi25.out) (by rw [HLN.out]; rfl) (u8s_one _) ?_))
                  refine bodyPost_ret (v := .agg (u8s (sha p))) (results_cell_row rfl _ _ z0 26 _ (0, 0) _ rfl (M2.out.row_ _) Tryz.underlying26 rfl (by rw [HLN.out]; exact hi25.out)) rfl ⟨rfl, ?_⟩
                  exact M4.out.setRow (fun h => by have := HZ0.out; omega) _
        · have e2 : (((i + 1 : Nat) : Int) - 1) = (i : Int) := by omega
          rw [e2]
          clear e2
          have e3 : (0 : Int) ≤ i := by omega
          have e4 : (i : Int) ≤ 7 := by omega
          obtain ⟨x, hx⟩ : ∃ x, x = q ++ (be64 N).take (8 - (i + 1)) := ⟨_, rfl⟩
          rw [← hx] at h1
          have G1 := Lib.hid h1
          have hnx : q ++ (be64 N).take (8 - i) = x ++ [UInt8.ofNat (N / 2 ^ (8 * i))] := by
            rw [hx, List.append_assoc, show 8 - i = (8 - (i + 1)) + 1 by omega, be64_take N _ (by omega), show 7 - (8 - (i + 1)) = i by omega]
          have HNX := Lib.hid hnx
          have hbv : Hid (Value.int .u8 ((N : Int) / 2 ^ (8 * i) % 256) = .int .u8 ((UInt8.ofNat (N / 2 ^ (8 * i))).toNat : Int)) := Lib.hid (by simp)
          have HBJ : Hid (n4 + 1 ≤ lim) := hid_lim (by omega)
          clear h1 hx hnx
          go_wp2_with (at_builtin; refine wpList_append_one rfl (.tmp 31) (.tmp 38) elemB rfl (Nat.le_refl _) rfl (G1.out.own.alloc _) rfl (Rd.lit _ [_] _) rfl HBJ ?_)
          intro A5 c5 w5 hown5 hchg5 hA5
          rw [hbv.out] at hown5
          have HF5 := Lib.hid (Fresh.one G1.out hchg5 hown5 (by simpa using hA5))
          have HRES5 : Hid (Blk w5 z0 26 (u8s (nots 32))) := Lib.hid ((G2.out.alloc _).chg hchg5 (by
            rintro ⟨ad, e, h⟩
            have h1 := G1.out.new ad e
            omega))
          clear hown5 hchg5 hA5
          go_wp2_with fail
          refine ⟨⟨i, A5, n4 + 1, c5, by omega, by have := HN4.out; omega, rfl, rfl, by rw [HNX.out]; exact HF5.out, HRES5.out⟩, ?_⟩
          simp [intOf]
theorem dRefSum_calls (A : Option Addr) (n c : Nat) (p : List UInt8) (w : World) (hr : Rd w A (bs p)) (hn : p.length = n) (hn9 : n ≤ 1000000000) :
    Calls Tryz.prog 28 #[.slice A n c] w fun e w' => e = .returned (.agg (u8s (sha p))) ∧ Hid (Chg nowhere w w') := dRefSumW_calls A n c p w hr hn (by omega)
end Go.Proofs.YtmnapacibpnodaaGreat
end
section
open Go Go.RowKit
namespace Go.Proofs.YtmnapacibpnodaaGreat
instance iTy_1 : ZeroT Tryz.prog 26 (u8s zeroH.l) := ⟨.agg (u8s zeroH.l), fun _ => by kernel_rfl, rfl⟩
instance iTy_2 : ZeroT Tryz.prog 227 (u8s (nots 35)) := ⟨.agg (u8s (nots 35)), fun _ => by kernel_rfl, rfl⟩
instance iTy_3 : RowT Tryz.prog 26 32 := ⟨by kernel_rfl, _, Tryz.underlying26, rfl⟩
instance iTy_4 : RowT Tryz.prog 227 35 := ⟨by kernel_rfl, _, Tryz.underlying227, rfl⟩
instance iTy_5 : CellT Tryz.prog 5 := ⟨fun _ => by kernel_rfl, fun _ => by kernel_rfl⟩
instance iTy_6 : CellT Tryz.prog 3 := ⟨fun _ => by kernel_rfl, fun _ => by kernel_rfl⟩
instance iTy_7 : ElemT Tryz.prog 34 5 1 1 (.int .u8 0) := ⟨elemB⟩
instance iTy_8 : ElemT Tryz.prog 31 26 32 32 (.agg (u8s zeroH.l)) := ⟨⟨Tryz.underlying31, by kernel_rfl, rfl, by decide⟩⟩
@[simp] theorem nots_len_ (n : Nat) : (nots n).length = n := nots_len n
/-- one digest as a slice of its own -/
theorem run_oneH (hh : H32) (w : World) : (Instr.buildSlice 31 1 #[(0, .agg (u8s hh.l))]).run Tryz.prog w = .ok (.slice (some ⟨w.heap.size, 0, none⟩) 1 1) (w.alloc (.cells (u8s hh.l) 26)) := by
  have hs := hh.size
  have hz : ∀ w, (zeroValue 26).run Tryz.prog w = .ok (.agg (u8s (nots 32))) w := fun _ => by kernel_rfl
  have hi : ∀ w, (sizeOf 26).run Tryz.prog w = .ok 32 w := fun _ => by kernel_rfl
  unfold Instr.buildSlice
  simp only [Sem.run_bind, run_underlying Tryz.underlying31, Result.andThen_ok, hi]
  have hf : Instr.fill (fun i => some (i * 32, 32)) ((Array.range (1 * 32)).map ((u8s (nots 32))[· % (u8s (nots 32)).size]!)) [(0, Value.agg (u8s hh.l))] = some (u8s hh.l) := by
    rw [fill_step _ _ 0 (.agg (u8s hh.l)) [] (off := 0) (size := 32) rfl hs (by simp), lay_whole _ _ (by show (u8s hh.l).size = _; rw [hs]; simp)]
    rfl
  simp [hz, Value.cells, hf, newRow]
/-- the digest of bytes -/
def shaH (xs : List UInt8) : H32 := ⟨sha xs, sha_len xs⟩
theorem sum_calls {A : Option Addr} {n c : Nat} {xs : List UInt8} {w : World} [h : HR w A (bs xs)] (hn : xs.length = n) (hc : n ≤ c) (hmax : n ≤ 1000000000) :
    Calls Tryz.prog 82 #[.slice A n c] w fun e w' => e = .returned (.agg (u8s (shaH xs).l)) ∧ Step nowhere w w' :=
  (dSum_calls A n c xs w h.out hn hc hmax).mono fun _ _ ⟨he, hc⟩ => ⟨he, ⟨hc.out⟩⟩
theorem rsum_calls {A : Option Addr} {n c : Nat} {xs : List UInt8} {w : World} [h : HR w A (bs xs)] (hn : xs.length = n) (hmax : n ≤ 1000000000) :
    Calls Tryz.prog 28 #[.slice A n c] w fun e w' => e = .returned (.agg (u8s (shaH xs).l)) ∧ Step nowhere w w' :=
  (dRefSum_calls A n c xs w h.out hn hmax).mono fun _ _ ⟨he, hc⟩ => ⟨he, ⟨hc.out⟩⟩
theorem sumW_calls {A : Option Addr} {n c : Nat} {xs : List UInt8} {w : World} [h : HR w A (bs xs)] (hn : xs.length = n) (hc : n ≤ c) (hmax : n ≤ 140737488351232) :
    Calls Tryz.prog 82 #[.slice A n c] w fun e w' => e = .returned (.agg (u8s (shaH xs).l)) ∧ Step nowhere w w' :=
  (dSumW_calls A n c xs w h.out hn hc hmax).mono fun _ _ ⟨he, hc⟩ => ⟨he, ⟨hc.out⟩⟩
theorem rsumW_calls {A : Option Addr} {n c : Nat} {xs : List UInt8} {w : World} [h : HR w A (bs xs)] (hn : xs.length = n) (hmax : n ≤ 140737488351232) :
    Calls Tryz.prog 28 #[.slice A n c] w fun e w' => e = .returned (.agg (u8s (shaH xs).l)) ∧ Step nowhere w w' :=
  (dRefSumW_calls A n c xs w h.out hn hmax).mono fun _ _ ⟨he, hc⟩ => ⟨he, ⟨hc.out⟩⟩
end Go.Proofs.YtmnapacibpnodaaGreat
end
section
open Go Go.RowKit
namespace Go.Proofs.YtmnapacibpnodaaGreat
instance iTyW_1 : CellT Tryz.prog 216 := ⟨fun _ => by kernel_rfl, fun _ => by kernel_rfl⟩
instance iTyW_2 : CellT Tryz.prog 22 := ⟨fun _ => by kernel_rfl, fun _ => by kernel_rfl⟩
instance iTyW_3 : CellT Tryz.prog 189 := ⟨fun _ => by kernel_rfl, fun _ => by kernel_rfl⟩
instance iTyW_4 : CellT Tryz.prog 214 := ⟨fun _ => by kernel_rfl, fun _ => by kernel_rfl⟩
instance iTyW_5 : ElemT Tryz.prog 214 189 1 8 .nilFunc := ⟨⟨Tryz.underlying214, by kernel_rfl, rfl, by decide⟩⟩
instance iTyW_6 : CellT Tryz.prog 237 := ⟨fun _ => by kernel_rfl, fun _ => by kernel_rfl⟩
instance iTyW_7 : CellT Tryz.prog 34 := ⟨fun _ => by kernel_rfl, fun _ => by kernel_rfl⟩
instance iTyW_8 : CellT Tryz.prog 3 := ⟨fun _ => by kernel_rfl, fun _ => by kernel_rfl⟩
instance iTyW_9 : RowT Tryz.prog 26 32 := ⟨by kernel_rfl, _, Tryz.underlying26, rfl⟩
instance iTyW_10 : ZeroT Tryz.prog 187 #[.slice none 0 0] := ⟨.agg #[.slice none 0 0], fun _ => by kernel_rfl, rfl⟩
instance iTyW_11 : CellT Tryz.prog 5 := ⟨fun _ => by kernel_rfl, fun _ => by kernel_rfl⟩
instance iTyW_12 : CellT Tryz.prog 4 := ⟨fun _ => by kernel_rfl, fun _ => by kernel_rfl⟩
instance iTyW_13 : CellT Tryz.prog 9 := ⟨fun _ => by kernel_rfl, fun _ => by kernel_rfl⟩
instance iTyW_14 : ElemT Tryz.prog 34 5 1 1 (.int .u8 0) := ⟨⟨Tryz.underlying34, by kernel_rfl, rfl, by decide⟩⟩
end Go.Proofs.YtmnapacibpnodaaGreat
end
section
open Go Go.RowKit
namespace Go.Proofs.YtmnapacibpnodaaGreat
instance iEq_1 : DecidableEq H32 := fun a b => decidable_of_iff (a.l = b.l) ⟨H32.ext', congrArg _⟩
theorem beq_hash (a b : H32) : (a.l == b.l) = decide (a = b) := by
  rw [Bool.eq_iff_iff]
  simp only [beq_iff_eq, decide_eq_true_eq]
  exact ⟨H32.ext', fun h => by rw [h]⟩
theorem eqlH (a b : H32) (w : World) : (binOp .eql 26 (.agg (u8s a.l)) (.agg (u8s b.l))).run Tryz.prog w = .ok (.bool (decide (a = b))) w := by
  rw [← beq_hash]
  exact run_eql_bytes (P := Tryz.prog) w 26 5 32 Tryz.underlying26 Tryz.underlying5 Tryz.sizeOf5 a.l b.l a.len b.len
end Go.Proofs.YtmnapacibpnodaaGreat
end
section
open Go Go.RowKit
namespace Go.Proofs.YtmnapacibpnodaaGreat
instance cellEqWR : CellT Tryz.prog 31 := ⟨fun _ => by kernel_rfl, fun _ => by kernel_rfl⟩
end Go.Proofs.YtmnapacibpnodaaGreat
end
section
open Go Go.RowKit
namespace Go.Proofs.YtmnapacibpnodaaGreat
/-- one step of a chain -/
def walkRow (chain : Int) (i : Nat) (h : H32) : List UInt8 := 1 :: b8 chain :: b8 i :: h.l
theorem walkRow_len (chain : Int) (i : Nat) (h : H32) : (walkRow chain i h).length = 35 := by simp [walkRow, h.len]
def stepH (chain : Int) (i : Nat) (h : H32) : H32 := shaH (walkRow chain i h)
/-- n steps from one on -/
def walkN (chain : Int) : Nat → Nat → H32 → H32
  | _, 0, h => h
  | i, n + 1, h => walkN chain (i + 1) n (stepH chain i h)
def walkS (chain f t : Int) (h : H32) : H32 := walkN chain (max f 0).toNat (min t 3 - max f 0).toNat h
theorem walkN_snoc (chain : Int) : ∀ (i n : Nat) (h : H32), walkN chain i (n + 1) h = stepH chain (i + n) (walkN chain i n h)
  | i, 0, h => rfl
  | i, n + 1, h => by
    have e := walkN_snoc chain (i + 1) n (stepH chain i h)
    have e2 : i + 1 + n = i + (n + 1) := by omega
    rw [e2] at e
    exact e
set_option maxRecDepth 100000 in
set_option maxHeartbeats 800000 in
theorem walk_calls (h : H32) (chain f t : Int) (w : World) :
    Calls Tryz.prog 144 #[.agg (u8s h.l), .int .i64 chain, .int .i64 f, .int .i64 t] w fun e w' => e = .returned (.agg (u8s (walkS chain f t h).l)) ∧ Step nowhere w w' := by
  have kb : ∀ w, (Instr.build 227 #[(0, .int .u8 1), (1, .int .u8 (chain % 256))]).run Tryz.prog w = .ok (.agg (u8s (1 :: b8 chain :: nots 33))) w := fun _ => by rw [mod_b8]; kernel_rfl
  obtain ⟨s, hs⟩ : ∃ s : Nat, (s : Int) = max f 0 := ⟨(max f 0).toNat, by omega⟩
  have hs' : max f 0 = (s : Int) := hs.symm
  obtain ⟨n, hn⟩ : ∃ n : Nat, n = (min t 3 - max f 0).toNat := ⟨_, rfl⟩
  have HN := Lib.hid hn
  have HS : Hid ((max f 0).toNat = s) := Lib.hid (by omega)
  have hn1 : (s : Int) + n ≤ 3 ∨ n = 0 := by omega
  have hn2 : ∀ k : Nat, k < n → (s : Int) + k < min t 3 := fun k hk => by omega
  have HE : Hid (∀ k : Nat, k ≤ n → ¬ k < n → ¬ (s : Int) + k < min t 3) := Lib.hid (fun k h1 h2 => by omega)
  have HL := Lib.hid hn2
  clear hn hs hn2
  go_enter Tryz.func144, Tryz.ntmps144
  go_wp2_with (first | ((with_reducible apply wpl_build); (exact kb _)) | ((with_reducible apply (wpl_box_agg (dst := some 4))); (exact rfl); intro zh wzh _ _ _) | ((with_reducible apply (wpl_alloc (dst := some 8))); intro zo wzo _ _ _) | ((with_reducible apply (wpl_alloc (dst := some 9))); intro zr wzr _ _ _) | ((with_reducible apply wpl_storerow); (exact rfl); (exact rfl); infer_instance; infer_instance; (first | (with_reducible assumption) | (with_reducible exact H32.size _) | kernel_rfl); (first | (with_reducible assumption) | (with_reducible exact H32.size _) | kernel_rfl); (first | (with_reducible exact u8s_one _) | (with_reducible assumption) | kernel_rfl); intro ws _ _) | ((with_reducible apply wpl_max); (exact rfl); (exact rfl)))
  go_loopw [10] (fun i wr => ∃ k : Nat, k ≤ n ∧ i = .int .i64 ((s : Int) + k) ∧ Step nowhere w wr ∧ HB wr zo 26 (u8s zeroH.l) ∧ HB wr zh 26 (u8s (walkN chain s k h).l) ∧ ∃ b ys, ys.length = 32 ∧ HB wr zr 227 (u8s (1 :: b8 chain :: b :: ys))) (fun i _ => (s + n) - (intOf i).toNat)
  case atStart => exact ⟨0, Nat.zero_le _, by rw [Int.natCast_zero, Int.add_zero], stepN, inferInstance, inferInstance, 0, nots 32, rfl, inferInstance⟩
  case round =>
    obtain ⟨k, hk, rfl, _, _, _, b, ys, hys, _⟩ := hrel
    have hlen : (1 :: b8 chain :: b :: ys).length = 35 := by simp [hys]
    by_cases hlt : k < n
    · have hlt3 := HL.out k hlt
      go_wp2_with (first | ((with_reducible apply (wpl_storebyte (t := 5))); (exact rfl); (exact rfl); infer_instance; (first | (with_reducible assumption) | omega | (focus (simp; done)) | (focus (simp; omega; done)) | decide); (constructor <;> omega); intro ws _ _) | ((with_reducible apply wpl_min); (exact rfl); (exact rfl)))
      go_still_tail 2, (by kernel_rfl)
      change wpList _ _ _ _ _ (World.drew _)
      go_wp2_with (first | ((with_reducible apply wpl_copy); (exact Tryz.underlying34); (kernel_rfl); (exact rfl); (exact rfl); infer_instance; infer_instance; (first | (with_reducible assumption) | (with_reducible exact H32.len _) | (focus (simp; done))); (first | (with_reducible assumption) | omega); (first | (with_reducible assumption) | omega | (focus (simp; done)) | (focus (simp; omega; done)) | decide); intro wc _ _))
      have hB := HB.eq (ys := walkRow chain (s + k) (walkN chain s k h)) (inferInstance : HB wc zr 227 _) (by simp [walkRow, hys])
      refine (sum_calls (xs := walkRow chain (s + k) (walkN chain s k h)) (walkRow_len _ _ _) (Nat.le_refl _) (by decide)).mono ?_
      rintro e w5 ⟨rfl, _⟩
      go_wp2_with (first | ((with_reducible apply wpl_storerow); (exact rfl); (exact rfl); infer_instance; infer_instance; (first | (with_reducible assumption) | (with_reducible exact H32.size _) | kernel_rfl); (first | (with_reducible assumption) | (with_reducible exact H32.size _) | kernel_rfl); (first | (with_reducible exact u8s_one _) | (with_reducible assumption) | kernel_rfl); intro ws _ _))
      refine ⟨⟨k + 1, by omega, ?_, stepN, inferInstance, ?_, b8 (s + k), (walkN chain s k h).l, H32.len _, ?_⟩, ?_⟩
      · go_num
      · rw [walkN_snoc]; exact inferInstance
      · show HB _ zr _ (u8s (walkRow chain (s + k) (walkN chain s k h)))
        exact inferInstance
      · simp [intOf]; omega
    · have hge := HE.out k hk hlt
      have hge' : ¬ (s : Int) + k < min t 3 := by omega
      obtain rfl : k = n := by omega
      go_wp2_with (first | ((with_reducible apply wpl_loadrow); (exact rfl); infer_instance; infer_instance; (first | (with_reducible assumption) | (with_reducible exact H32.size _) | kernel_rfl)) | ((with_reducible apply wpl_storerow); (exact rfl); (exact rfl); infer_instance; infer_instance; (first | (with_reducible assumption) | (with_reducible exact H32.size _) | kernel_rfl); (first | (with_reducible assumption) | (with_reducible exact H32.size _) | kernel_rfl); (first | (with_reducible exact u8s_one _) | (with_reducible assumption) | kernel_rfl); intro ws _ _) | ((with_reducible apply wpl_min); (exact rfl); (exact rfl)))
      refine ret_row rfl rfl (n := 32) (H32.size _) rfl ⟨?_, stepN⟩
      rw [walkS, HS.out, HN.out]
end Go.Proofs.YtmnapacibpnodaaGreat
end
section
open Go Go.RowKit
namespace Go.Proofs.YtmnapacibpnodaaGreat
def joinH (l : List H32) : List UInt8 := l.flatMap (·.l)
theorem joinH_len (l : List H32) : (joinH l).length = l.length * 32 := by
  induction l with
  | nil => rfl
  | cons a l ih => simp only [joinH, List.flatMap_cons, List.length_append, a.len] at *; rw [ih, List.length_cons]; omega
theorem joinH_snoc (l : List H32) (x : H32) : joinH (l ++ [x]) = joinH l ++ x.l := by simp [joinH]
theorem take_hget (l : List H32) (k : Nat) (h : k < l.length) : l.take (k + 1) = l.take k ++ [hget l k] := by
  rw [List.take_add_one, hget, List.getD_eq_getElem?_getD, List.getElem?_eq_getElem h]
  rfl
def closedS (l : List H32) : H32 := shaH (2 :: joinH l)
set_option maxRecDepth 100000 in
set_option maxHeartbeats 800000 in
theorem closed_calls {A : Option Addr} {n c : Nat} {l : List H32} {w : World} [HR w A (cellsOf l)] (hl : l.length = n) (hn : n ≤ 1000000) :
    Calls Tryz.prog 111 #[.slice A n c] w fun e w' => e = .returned (.agg (u8s (closedS l).l)) ∧ Step nowhere w w' := by
  have kb : ∀ w, (Instr.buildSlice 34 1 #[(0, .int .u8 2)]).run Tryz.prog w = .ok (.slice (some ⟨w.heap.size, 0, none⟩) 1 1) (w.alloc (.cells (u8s [2]) 5)) := fun _ => by kernel_rfl
  have hm1 : Fact' ([(2 : UInt8)].length ≤ maxLen) := ⟨by decide⟩
  have HL := Lib.hid hl
  clear hl
  go_enter Tryz.func111, Tryz.ntmps111
  go_wp2_with (first | ((with_reducible apply wpl_bslice); (exact kb _); intro zb wb _ _ _) | ((with_reducible apply (wpl_alloc (dst := some 2))); intro zo wzo _ _ _))
  go_loopw [3, 9] (fun v i wr => ∃ (k : Nat) (A' : Option Addr) (c' : Nat), k ≤ n ∧ i = .int .i64 (k : Int) ∧ v = .slice A' (1 + 32 * k) c' ∧ 1 + 32 * k ≤ c' ∧ Step nowhere w wr ∧ HB wr zo 26 (u8s zeroH.l) ∧ NewA w A' ∧ OffB (rowOf A') zo ∧ HO wr 5 1 A' (1 + 32 * k) c' (bs (2 :: joinH (l.take k)))) (fun _ i _ => n - (intOf i).toNat)
  case atStart =>
    refine ⟨0, some ⟨zb, 0, none⟩, 1, Nat.zero_le _, rfl, rfl, Nat.le_refl _, stepN, inferInstance, NewA.mono (w := _) (NewA.of_born 0), inferInstance, ?_⟩
    show HO _ _ 1 _ [(2 : UInt8)].length [(2 : UInt8)].length (bs [2])
    exact inferInstance
  case round =>
    obtain ⟨k, A', c', hk, rfl, rfl, hcap0, _, _, _, _, _⟩ := hrel
    by_cases hlt : k < n
    · have hkl : k < l.length := by have := HL.out; omega
      have hln := HL.out
      have hsn : Hid (2 :: joinH (l.take (k + 1)) = 2 :: joinH (l.take k) ++ (hget l k).l) := Lib.hid (by rw [take_hget l k hkl, joinH_snoc]; rfl)
      go_wp2_with (first | ((with_reducible apply (wpl_alloc (dst := some 5))); intro zh wzh _ _ _) | ((with_reducible apply wpl_storerow); (exact rfl); (exact rfl); infer_instance; infer_instance; (first | (with_reducible assumption) | (with_reducible exact H32.size _) | kernel_rfl); (first | (with_reducible assumption) | (with_reducible exact H32.size _) | kernel_rfl); (first | (with_reducible exact u8s_one _) | (with_reducible assumption) | kernel_rfl); intro ws _ _) | ((with_reducible apply wpl_indexH); (exact rfl); (exact rfl); infer_instance; infer_instance; (first | (with_reducible assumption) | omega); (first | (with_reducible assumption) | omega); (first | (with_reducible assumption) | omega)) | ((with_reducible apply (wpl_loadhash (t := 26))); (exact rfl); infer_instance; infer_instance; (first | (with_reducible assumption) | omega)) | ((with_reducible apply wpl_appendB); (exact rfl); (exact rfl); infer_instance; (first | exact inferInstance | exact ⟨Own.nil _ _ _⟩); infer_instance; (first | (with_reducible assumption) | (with_reducible exact H32.len _) | (focus (simp; done)) | omega); (first | (with_reducible assumption) | omega); intro A' c' wa _ _ _ hcap))
      refine ⟨⟨k + 1, _, _, by omega, ?_, rfl, hcap, stepN, inferInstance, inferInstance, inferInstance, ?_⟩, ?_⟩
      · go_num
      · rw [hsn.out]; exact inferInstance
      · simp [intOf]; omega
    · obtain rfl : k = n := by omega
      have hll := HL.out
      have hLT : Hid (l.take l.length = l) := Lib.hid (List.take_length)
      go_wp2_with fail
      refine (sum_calls (xs := 2 :: joinH (l.take k)) (by rw [List.length_cons, joinH_len, List.length_take]; omega) (by omega) (by omega)).mono ?_
      rintro e w5 ⟨rfl, _⟩
      go_wp2_with (first | ((with_reducible apply wpl_storerow); (exact rfl); (exact rfl); infer_instance; infer_instance; (first | (with_reducible assumption) | (with_reducible exact H32.size _) | kernel_rfl); (first | (with_reducible assumption) | (with_reducible exact H32.size _) | kernel_rfl); (first | (with_reducible exact u8s_one _) | (with_reducible assumption) | kernel_rfl); intro ws _ _))
      refine ret_row rfl rfl (n := 32) (H32.size _) rfl ⟨?_, stepN⟩
      rw [closedS, ← hll, hLT.out]
set_option maxRecDepth 100000 in
set_option maxHeartbeats 800000 in
theorem ends_calls {A : Option Addr} {n c : Nat} {l : List H32} {w : World} [HR w A (cellsOf l)] (hl : l.length = n) (hn : n ≤ 1000000) :
    Calls Tryz.prog 27 #[.slice A n c] w fun e w' => e = .returned (.agg (u8s (closedS l).l)) ∧ Step nowhere w w' := by
  have kb : ∀ w, (Instr.buildSlice 34 1 #[(0, .int .u8 2)]).run Tryz.prog w = .ok (.slice (some ⟨w.heap.size, 0, none⟩) 1 1) (w.alloc (.cells (u8s [2]) 5)) := fun _ => by kernel_rfl
  have hm1 : Fact' ([(2 : UInt8)].length ≤ maxLen) := ⟨by decide⟩
  have HL := Lib.hid hl
  clear hl
  go_enter Tryz.func27, Tryz.ntmps27
  go_wp2_with (first | ((with_reducible apply wpl_bslice); (exact kb _); intro zb wb _ _ _) | ((with_reducible apply (wpl_alloc (dst := some 2))); intro zo wzo _ _ _))
  go_loopw [3, 4] (fun v i wr => ∃ (k : Nat) (A' : Option Addr) (c' : Nat), k ≤ n ∧ i = .int .i64 (k : Int) ∧ v = .slice A' (1 + 32 * k) c' ∧ 1 + 32 * k ≤ c' ∧ Step nowhere w wr ∧ HB wr zo 26 (u8s zeroH.l) ∧ NewA w A' ∧ OffB (rowOf A') zo ∧ HO wr 5 1 A' (1 + 32 * k) c' (bs (2 :: joinH (l.take k)))) (fun _ i _ => n - (intOf i).toNat)
  case atStart =>
    refine ⟨0, some ⟨zb, 0, none⟩, 1, Nat.zero_le _, rfl, rfl, Nat.le_refl _, stepN, inferInstance, NewA.mono (w := _) (NewA.of_born 0), inferInstance, ?_⟩
    show HO _ _ 1 _ [(2 : UInt8)].length [(2 : UInt8)].length (bs [2])
    exact inferInstance
  case round =>
    obtain ⟨k, A', c', hk, rfl, rfl, hcap0, _, _, _, _, _⟩ := hrel
    by_cases hlt : k < n
    · have hkl : k < l.length := by have := HL.out; omega
      have hln := HL.out
      have hki : Fact' (k < l.length) := ⟨hkl⟩
      have hsn : Hid (2 :: joinH (l.take (k + 1)) = 2 :: joinH (l.take k) ++ (hget l k).l) := Lib.hid (by rw [take_hget l k hkl, joinH_snoc]; rfl)
      go_wp2_with (first | ((with_reducible apply wpl_indexH); (exact rfl); (exact rfl); infer_instance; infer_instance; (first | (with_reducible assumption) | omega); (first | (with_reducible assumption) | omega); (first | (with_reducible assumption) | omega)) | ((with_reducible apply wpl_sliceH); (exact rfl); (exact Tryz.underlying26); (kernel_rfl); infer_instance; (first | (with_reducible assumption) | omega)) | ((with_reducible apply wpl_appendB); (exact rfl); (exact rfl); infer_instance; (first | exact inferInstance | exact ⟨Own.nil _ _ _⟩); infer_instance; (first | (with_reducible assumption) | (with_reducible exact H32.len _) | (focus (simp; done)) | omega); (first | (with_reducible assumption) | omega); intro A' c' wa _ _ _ hcap))
      refine ⟨⟨k + 1, _, _, by omega, ?_, rfl, hcap, stepN, inferInstance, inferInstance, inferInstance, ?_⟩, ?_⟩
      · go_num
      · rw [hsn.out]; exact inferInstance
      · simp [intOf]; omega
    · obtain rfl : k = n := by omega
      have hll := HL.out
      have hLT : Hid (l.take l.length = l) := Lib.hid (List.take_length)
      go_wp2_with fail
      refine (rsum_calls (xs := 2 :: joinH (l.take k)) (by rw [List.length_cons, joinH_len, List.length_take]; omega) (by omega)).mono ?_
      rintro e w5 ⟨rfl, _⟩
      go_wp2_with (first | ((with_reducible apply wpl_storerow); (exact rfl); (exact rfl); infer_instance; infer_instance; (first | (with_reducible assumption) | (with_reducible exact H32.size _) | kernel_rfl); (first | (with_reducible assumption) | (with_reducible exact H32.size _) | kernel_rfl); (first | (with_reducible exact u8s_one _) | (with_reducible assumption) | kernel_rfl); intro ws _ _))
      refine ret_row rfl rfl (n := 32) (H32.size _) rfl ⟨?_, stepN⟩
      rw [closedS, ← hll, hLT.out]
end Go.Proofs.YtmnapacibpnodaaGreat
end
section
open Go Go.RowKit
namespace Go.Proofs.YtmnapacibpnodaaGreat
def nodeOf (a b : List UInt8) : List UInt8 := sha (3 :: (a ++ b))
theorem nodeOf_len (a b : List UInt8) : (nodeOf a b).length = 32 := sha_len _
set_option maxRecDepth 100000 in
set_option maxHeartbeats 800000 in
theorem refNode_calls (xs ys : List UInt8) (w : World) (hx : xs.length = 32) (hy : ys.length = 32) :
    Calls Tryz.prog 30 #[.agg (u8s xs), .agg (u8s ys)] w fun e w' => e = .returned (.agg (u8s (nodeOf xs ys))) ∧ Hid (Chg nowhere w w') := by
  have HX := Lib.hid hx
  have HY := Lib.hid hy
  have HI25 := Lib.hid (show (Tryz.prog.info? 26).map (·.size) = some 32 by kernel_rfl)
  have HML : Hid ((u8s (nodeOf xs ys)).size = 32) := Lib.hid (by rw [u8s_size, nodeOf_len])
  have HXB : Hid ((bs xs).length = 32) := Lib.hid (by rw [bs_length, hx])
  have HYB : Hid ((bs ys).length = 32) := Lib.hid (by rw [bs_length, hy])
  have HB0 : Hid (1 + 32 ≤ lim) := hid_lim (by decide)
  have HB1 : Hid (33 + 32 ≤ lim) := hid_lim (by decide)
  clear hx hy
  obtain ⟨W3, hW3⟩ : ∃ W3, W3 = ((w.alloc (.cells (u8s xs) 26)).alloc (.cells (u8s ys) 26)).alloc (.cells (u8s (nots 32)) 26) := ⟨_, rfl⟩
  have HSZ : Hid (W3.heap.size = w.heap.size + 1 + 1 + 1) := Lib.hid (by rw [hW3]; simp)
  have BX : Hid (Blk W3 w.heap.size 26 (u8s xs)) := Lib.hid (by rw [hW3]; exact ((Blk.new w _ _).alloc _).alloc _)
  have BY : Hid (Blk W3 (w.heap.size + 1) 26 (u8s ys)) := Lib.hid (by rw [hW3]; exact (Blk.new1 w _ _ _).alloc _)
  have B0 : Hid (Blk W3 (w.heap.size + 1 + 1) 26 (u8s (nots 32))) := Lib.hid (by
    have h := Blk.new1 (w.alloc (.cells (u8s xs) 26)) (.cells (u8s ys) 26) 26 (u8s (nots 32))
    rw [hW3]
    simpa using h)
  have C3 : Hid (Chg nowhere w W3) := Lib.hid (by rw [hW3]; exact (((Chg.refl _ _).alloc _).alloc _).alloc _)
  have HOE : Hid (Own (W3.alloc (.cells #[.int .u8 3] 5)) 5 1 (some ⟨w.heap.size + 1 + 1 + 1, 0, none⟩) 1 1 (bs [3])) := Lib.hid (by
    have h := Own.new W3 5 1 1 #[.int .u8 3] (by decide) rfl
    rw [HSZ.out] at h
    exact h)
  have HW3 := Lib.hid hW3
  clear hW3
  go_enter Tryz.func30, Tryz.ntmps30
  go_wp2_with (at_builtin; change wpList _ _ _ _ _ ((((w.alloc (.cells (u8s xs) 26)).alloc (.cells (u8s ys) 26)).alloc (.cells (u8s (nots 32)) 26)).alloc (.cells #[.int .u8 3] 5)); rw [← HW3.out]; refine wpList_append_many rfl (.tmp 6) (.tmp 7) elemB rfl (Nat.le_refl _) rfl HOE.out rfl (rd_u8s (BX.out.alloc _)) HXB (bs_one xs) HB0 ?_)
  intro A5 c5 w5 hown5 hchg5 hA5
  have HO5 : Hid (Own w5 5 1 A5 33 c5 (bs (3 :: xs))) := Lib.hid hown5
  have hsz := HSZ.out
  have HC5 : Hid (Chg nowhere w w5) := Lib.hid ((C3.out.alloc _).step hchg5 (fun x hx => by
    have h1 : w.heap.size + 1 + 1 + 1 = x := hx
    omega))
  have BY5 : Hid (Blk w5 (w.heap.size + 1) 26 (u8s ys)) := Lib.hid ((BY.out.alloc _).chg hchg5 (fun h => by
    have h1 : w.heap.size + 1 + 1 + 1 = w.heap.size + 1 := h
    omega))
  have B5 : Hid (Blk w5 (w.heap.size + 1 + 1) 26 (u8s (nots 32))) := Lib.hid ((B0.out.alloc _).chg hchg5 (fun h => by
    have h1 : w.heap.size + 1 + 1 + 1 = w.heap.size + 1 + 1 := h
    omega))
  have HZ5 : Hid (∀ ad, A5 = some ad → w.heap.size + 3 ≤ ad.block) := Lib.hid (fun ad e => by
    rcases hA5 with h | h
    · rw [e] at h
      injection h with h
      rw [h]
      exact Nat.le_refl _
    · rw [e] at h
      injection h with h
      rw [h, hsz]
      exact Nat.le_succ _)
  clear hown5 hchg5 hA5 hsz
  obtain ⟨z0, hz0⟩ : ∃ z, z = w.heap.size + 1 + 1 := ⟨_, rfl⟩
  rw [← hz0] at B5 ⊢
  obtain ⟨zy, hzy⟩ : ∃ z, z = w.heap.size + 1 := ⟨_, rfl⟩
  rw [← hzy] at BY5 ⊢
  have hzw : w.heap.size ≤ z0 := by omega
  have hzv : z0 < w.heap.size + 3 := by omega
  clear hz0 hzy HOE HW3 HSZ BX BY B0 C3
  go_wp2_with (at_builtin; refine wpList_append_many rfl (.tmp 9) (.tmp 10) elemB rfl (Nat.le_refl _) rfl HO5.out rfl (rd_u8s BY5.out) HYB (bs_one ys) HB1 ?_)
  intro A6 c6 w6 hown6 hchg6 hA6
  have HO6 : Hid (Own w6 5 1 A6 (33 + 32) c6 (bs (3 :: (xs ++ ys)))) := Lib.hid (by rw [← List.cons_append, ← bs_append]; exact hown6)
  have HC6 : Hid (Chg nowhere w w6) := Lib.hid (HC5.out.step hchg6 (fun x hx => by
    obtain ⟨ad, e, h1⟩ := hx
    have h2 := HZ5.out ad e
    omega))
  have B6 : Hid (Blk w6 z0 26 (u8s (nots 32))) := Lib.hid (B5.out.chg hchg6 (fun hx => by
    obtain ⟨ad, e, h1⟩ := hx
    have h2 := HZ5.out ad e
    omega))
  clear hown6 hchg6 hA6
  go_wp2_with fail
  refine (dRefSum_calls A6 (33 + 32) c6 (3 :: (xs ++ ys)) _ HO6.out.rd (by rw [List.length_cons, List.length_append, HX.out, HY.out]) (by decide)).mono ?_
  rintro e w7 ⟨rfl, hc7⟩
  have C7 := Lib.hid (HC6.out.step hc7.out (fun _ h => h.elim))
  have B7 := Lib.hid (B6.out.chg hc7.out (fun h => h))
  clear hc7
  go_wp2_with (refine wpList_store_row rfl 26 _ _ rfl z0 (u8s (nodeOf xs ys)) rfl rfl 26 _ B7.out (by rw [HML.out]; exact HI25.out) (by rw [HML.out]; rfl) (u8s_one _) ?_)
  refine bodyPost_ret (v := .agg (u8s (nodeOf xs ys))) (results_cell_row rfl _ _ z0 26 _ (0, 0) _ rfl (B7.out.row_ _) Tryz.underlying26 rfl (by rw [HML.out]; exact HI25.out)) rfl ⟨rfl, ?_⟩
  exact C7.out.setRow (fun h => by omega) _
end Go.Proofs.YtmnapacibpnodaaGreat
end
section
open Go Go.RowKit
namespace Go.Proofs.YtmnapacibpnodaaGreat
set_option maxRecDepth 100000 in
set_option maxHeartbeats 800000 in
theorem node_calls (xs ys : List UInt8) (w : World) (hx : xs.length = 32) (hy : ys.length = 32) :
    Calls Tryz.prog 110 #[.agg (u8s xs), .agg (u8s ys)] w fun e w' => e = .returned (.agg (u8s (nodeOf xs ys))) ∧ Hid (Chg nowhere w w') := by
  have HX := Lib.hid hx
  have HY := Lib.hid hy
  have HI25 := Lib.hid (show (Tryz.prog.info? 26).map (·.size) = some 32 by kernel_rfl)
  have HI82 := Lib.hid (show (Tryz.prog.info? 212).map (·.size) = some 65 by kernel_rfl)
  have HML : Hid ((u8s (nodeOf xs ys)).size = 32) := Lib.hid (by rw [u8s_size, nodeOf_len])
  clear hx hy
  obtain ⟨W3, hW3⟩ : ∃ W3, W3 = ((w.alloc (.cells (u8s xs) 26)).alloc (.cells (u8s ys) 26)).alloc (.cells (u8s (nots 32)) 26) := ⟨_, rfl⟩
  have HSZ : Hid (W3.heap.size = w.heap.size + 1 + 1 + 1) := Lib.hid (by rw [hW3]; simp)
  have hz65 : Tryz.zeroCells212 = u8s (nots 65) := by kernel_rfl
  have hset : (u8s (nots 65)).setIfInBounds 0 (.int .u8 3) = u8s (3 :: nots 64) := by kernel_rfl
  have HRL : Hid ((u8s (3 :: nots 64)).size = 65) := Lib.hid (by rw [u8s_size]; rfl)
  have HROW : Hid (Blk (W3.alloc (.cells (u8s (nots 65)) 212)) (w.heap.size + 1 + 1 + 1) 212 (u8s (nots 65))) := Lib.hid (by
    have h := Blk.new W3 212 (u8s (nots 65))
    rw [HSZ.out] at h
    exact h)
  have BX : Hid (Blk W3 w.heap.size 26 (u8s xs)) := Lib.hid (by rw [hW3]; exact ((Blk.new w _ _).alloc _).alloc _)
  have BY : Hid (Blk W3 (w.heap.size + 1) 26 (u8s ys)) := Lib.hid (by rw [hW3]; exact (Blk.new1 w _ _ _).alloc _)
  have B0 : Hid (Blk W3 (w.heap.size + 1 + 1) 26 (u8s (nots 32))) := Lib.hid (by
    have h := Blk.new1 (w.alloc (.cells (u8s xs) 26)) (.cells (u8s ys) 26) 26 (u8s (nots 32))
    rw [hW3]
    simpa using h)
  have C3 : Hid (Chg nowhere w W3) := Lib.hid (by rw [hW3]; exact (((Chg.refl _ _).alloc _).alloc _).alloc _)
  have HW3 := Lib.hid hW3
  clear hW3
  go_enter Tryz.func110, Tryz.ntmps110
  go_wp2_with (change wpList _ _ _ _ _ ((((w.alloc (.cells (u8s xs) 26)).alloc (.cells (u8s ys) 26)).alloc (.cells (u8s (nots 32)) 26)).alloc (.cells (u8s (nots 65)) 212)); rw [← HW3.out]; refine wpList_store_row rfl 212 _ _ rfl (w.heap.size + 1 + 1 + 1) (u8s (3 :: nots 64)) rfl rfl 212 _ HROW.out (by rw [HRL.out]; exact HI82.out) (by rw [HRL.out]; rfl) (u8s_one _) ?_)
  obtain ⟨zx, hzx⟩ : ∃ z, z = w.heap.size := ⟨_, rfl⟩
  obtain ⟨zy, hzy⟩ : ∃ z, z = w.heap.size + 1 := ⟨_, rfl⟩
  obtain ⟨z0, hz0⟩ : ∃ z, z = w.heap.size + 1 + 1 := ⟨_, rfl⟩
  obtain ⟨zr, hzr⟩ : ∃ z, z = w.heap.size + 1 + 1 + 1 := ⟨_, rfl⟩
  obtain ⟨W4, hW4⟩ : ∃ W4, W4 = (W3.alloc (.cells (u8s (nots 65)) 212)).setRow (w.heap.size + 1 + 1 + 1) (u8s (3 :: nots 64)) := ⟨_, rfl⟩
  have BR4 : Hid (Blk (World.drew W4) zr 212 (u8s (3 :: nots 64))) := Lib.hid (by rw [hW4, hzr]; exact HROW.out.row_ _)
  have BX4 : Hid (Blk (World.drew W4) zx 26 (u8s xs)) := Lib.hid (by rw [hW4, hzx]; exact (BX.out.alloc _).rowFar (by omega) _)
  have BY4 : Hid (Blk (World.drew W4) zy 26 (u8s ys)) := Lib.hid (by rw [hW4, hzy]; exact (BY.out.alloc _).rowFar (by omega) _)
  have B04 : Hid (Blk (World.drew W4) z0 26 (u8s (nots 32))) := Lib.hid (by rw [hW4, hz0]; exact (B0.out.alloc _).rowFar (by omega) _)
  have C4 : Hid (Chg nowhere w (World.drew W4)) := Lib.hid (by rw [hW4]; exact ((C3.out.alloc _).setRow (fun h => by omega) _).drew)
  rw [← hW4, ← hzr, ← hz0, ← hzy, ← hzx]
  have hne : zx ≠ zr ∧ zy ≠ zr ∧ z0 ≠ zr ∧ w.heap.size ≤ zr ∧ w.heap.size ≤ z0 := by omega
  obtain ⟨n1, n2, n3, n4, n5⟩ := hne
  clear hzx hzy hz0 hzr hW4 HROW BX BY B0 C3 hz65 hset HW3 HSZ
  have HF1 : Hid (1 + 32 ≤ (3 :: nots 64).length) := Lib.hid (by decide)
  go_still_tail 2, (by kernel_rfl)
  change wpList _ _ _ _ _ (World.drew W4)
  generalize World.drew W4 = w5 at *
  go_wp2_with (refine wpList_copyB rfl (.tmp 7) (.tmp 8) 34 34 rfl 5 Tryz.underlying34 (by kernel_rfl) rfl rfl BR4.out (rd_u8s BX4.out) HX (by decide) HF1 ?_)
  intro w6 hb6 hc6
  obtain ⟨R, hR⟩ : ∃ R, R = 3 :: (xs ++ nots 32) := ⟨_, rfl⟩
  have BR6 : Hid (Blk (World.drew w6) zr 212 (u8s R)) := by
    have h := hb6
    rw [nots_drop, ← hR] at h
    exact h
  have BX6 : Hid (Blk (World.drew w6) zx 26 (u8s xs)) := Lib.hid (show _ from (Blk.chg (S := fun k => k = zr) BX4.out hc6.out.drew (fun h => n1 h)))
  have BY6 : Hid (Blk (World.drew w6) zy 26 (u8s ys)) := Lib.hid (show _ from (Blk.chg (S := fun k => k = zr) BY4.out hc6.out.drew (fun h => n2 h)))
  have B06 : Hid (Blk (World.drew w6) z0 26 (u8s (nots 32))) := Lib.hid (show _ from (Blk.chg (S := fun k => k = zr) B04.out hc6.out.drew (fun h => n3 h)))
  have C6 : Hid (Chg nowhere w (World.drew w6)) := Lib.hid ((C4.out.step hc6.out (fun x hx => by have h1 : x = zr := hx; omega)).drew)
  have HF2 : Hid (33 + 32 ≤ R.length) := Lib.hid (by rw [hR]; simp [HX.out])
  have E1 : Hid (R.take 33 = 3 :: xs) := Lib.hid (by rw [hR, List.take_succ_cons, List.take_left' HX.out])
  have E2 : Hid (R.drop 65 = []) := Lib.hid (by rw [hR]; simp [HX.out])
  clear hR hb6 hc6 BR4 BX4 BY4 B04 C4
  go_wp2_with fail
  go_still_tail 2, (by kernel_rfl)
  change wpList _ _ _ _ _ (World.drew w6)
  generalize World.drew w6 = w7 at *
  go_wp2_with (refine wpList_copyB rfl (.tmp 10) (.tmp 11) 34 34 rfl 5 Tryz.underlying34 (by kernel_rfl) rfl rfl BR6.out (rd_u8s BY6.out) HY (by decide) HF2 ?_)
  intro w8 hb8 hc8
  have BR8 : Hid (Blk w8 zr 212 (u8s (3 :: (xs ++ ys)))) := Lib.hid (by
    have h := hb8.out
    simp only [E1.out, E2.out, List.append_nil, List.cons_append] at h
    exact h)
  have B08 : Hid (Blk w8 z0 26 (u8s (nots 32))) := Lib.hid (Blk.chg (S := fun k => k = zr) B06.out hc8.out (fun h => n3 h))
  have C8 : Hid (Chg nowhere w w8) := Lib.hid (C6.out.step hc8.out (fun x hx => by have h1 : x = zr := hx; omega))
  clear hb8 hc8 BR6 BX6 BY6 B06 C6
  go_wp2_with fail
  refine (dSum_calls (some ⟨zr, 0, none⟩) 65 65 (3 :: (xs ++ ys)) _ (rd_u8s BR8.out) (by rw [List.length_cons, List.length_append, HX.out, HY.out]) (by decide) (by decide)).mono ?_
  rintro e w9 ⟨rfl, hc9⟩
  have C9 := Lib.hid (C8.out.step hc9.out (fun _ h => h.elim))
  have B9 := Lib.hid (B08.out.chg hc9.out (fun h => h))
  clear hc9
  go_wp2_with (refine wpList_store_row rfl 26 _ _ rfl z0 (u8s (nodeOf xs ys)) rfl rfl 26 _ B9.out (by rw [HML.out]; exact HI25.out) (by rw [HML.out]; rfl) (u8s_one _) ?_)
  refine bodyPost_ret (v := .agg (u8s (nodeOf xs ys))) (results_cell_row rfl _ _ z0 26 _ (0, 0) _ rfl (B9.out.row_ _) Tryz.underlying26 rfl (by rw [HML.out]; exact HI25.out)) rfl ⟨rfl, ?_⟩
  exact C9.out.setRow (fun h => by omega) _
end Go.Proofs.YtmnapacibpnodaaGreat
end
section
open Go Go.RowKit
namespace Go.Proofs.YtmnapacibpnodaaGreat
theorem hget_ext {l m : List H32} (h : l.length = m.length) (k : ∀ i, i < l.length → hget l i = hget m i) : l = m := by
  apply List.ext_getElem h
  intro i h1 h2
  have := k i h1
  simpa [hget, List.getD_eq_getElem?_getD, h1, h2] using this
end Go.Proofs.YtmnapacibpnodaaGreat
end
