/- The digest of bytes: digest.Sum. -/
import Derived.Test.YtmijlojjkgeplaaDgM
import Derived.Test.YtmijlojjkgeplaaDgH
open Go Go.RowKit
namespace Go.Proofs.Ytmijlojjkgeplaa
def nots (n : Nat) : List UInt8 := List.replicate n 0
theorem nots_drop (k r : Nat) : (nots k).drop r = nots (k - r) := by unfold nots; rw [List.drop_replicate]
theorem nots_len (n : Nat) : (nots n).length = n := by simp [nots]
/-- the length's eight bytes, the last i of them laid -/
def winN (N i : Nat) : List UInt8 := nots (8 - i) ++ (be64 N).drop (8 - i)
theorem winN_len (N i : Nat) (_h : i ≤ 8) : (winN N i).length = 8 := by
  simp [winN, nots, be64]
  try omega
theorem winN_set (N i : Nat) (h : i < 8) : (winN N i).set (7 - i) (UInt8.ofNat (N / 2 ^ (8 * i))) = winN N (i + 1) := by
  rcases (show i = 0 ∨ i = 1 ∨ i = 2 ∨ i = 3 ∨ i = 4 ∨ i = 5 ∨ i = 6 ∨ i = 7 by omega) with rfl | rfl | rfl | rfl | rfl | rfl | rfl | rfl <;> rfl
theorem winN_start (N : Nat) : winN N 0 = nots 8 := rfl
theorem winN_end (N : Nat) : winN N 8 = be64 N := rfl
/-- the end's room: what is left over, the mark, noughts, the length -/
def endWin (p : List UInt8) (N to i : Nat) : List UInt8 := p ++ [128] ++ nots (to - p.length - 9) ++ winN N i ++ nots (128 - to)
theorem endWin_len (p : List UInt8) (N to i : Nat) (h : i ≤ 8) (hp : p.length + 9 ≤ to) (ht : to ≤ 128) : (endWin p N to i).length = 128 := by
  simp [endWin, winN_len N i h, nots_len]
  omega
theorem endWin_set (p : List UInt8) (N to i : Nat) (h : i < 8) (hp : p.length + 9 ≤ to) : (endWin p N to i).set (to - 1 - i) (UInt8.ofNat (N / 2 ^ (8 * i))) = endWin p N to (i + 1) := by
  have hl : (p ++ [128] ++ nots (to - p.length - 9)).length = to - 8 := by simp [nots_len]; omega
  unfold endWin
  rw [List.set_append_left _ _ (by simp [winN_len N i (by omega), nots_len]; omega), List.set_append_right _ _ (by rw [hl]; omega), hl,
    show to - 1 - i - (to - 8) = 7 - i by omega, winN_set N i h]
theorem endWin_start (p : List UInt8) (N to : Nat) (hp : p.length + 9 ≤ to) (ht : to ≤ 128) : (p ++ nots (128 - p.length)).set p.length 128 = endWin p N to 0 := by
  unfold endWin
  rw [List.set_append_right _ _ (Nat.le_refl _), Nat.sub_self, winN_start]
  have e1 : nots (128 - p.length) = (0 : UInt8) :: (nots (to - p.length - 9) ++ nots 8 ++ nots (128 - to)) := by
    unfold nots
    rw [List.replicate_append_replicate, List.replicate_append_replicate, ← List.replicate_succ]
    congr 1
    omega
  rw [e1]
  simp
theorem endWin_take (p : List UInt8) (N to : Nat) (hp : p.length + 9 ≤ to) : (endWin p N to 8).take to = p ++ [128] ++ nots (to - p.length - 9) ++ be64 N := by
  unfold endWin
  rw [winN_end, List.take_left' (by simp [nots_len, be64]; omega)]
theorem sha_parts (p q r : List UInt8) (m to : Nat) (hpq : p = q ++ r) (hq : q.length = 64 * m) (hr : r.length < 64) (hto : to = if r.length + 9 ≤ 64 then 64 else 128) :
    outSha (mixSha (to / 64) (mixSha m initSha q) (r ++ [128] ++ nots (to - r.length - 9) ++ be64 (8 * p.length))) = sha p := by
  have hn : p.length = 64 * m + r.length := by rw [hpq, List.length_append, hq]
  have hz : padN p.length = to - r.length - 9 := by
    unfold padN
    rw [hn, hto]
    split <;> omega
  have hm : (p.length + 72) / 64 = m + to / 64 := by
    rw [hn, hto]
    split <;> omega
  have hp : padded p = q ++ (r ++ [128] ++ nots (to - r.length - 9) ++ be64 (8 * p.length)) := by
    unfold padded
    rw [hz]
    conv => lhs; rw [show p ++ [128] = q ++ (r ++ [128]) by rw [hpq, List.append_assoc]]
    simp [nots, noughtBytes]
  unfold sha
  rw [hm, hp, mixSha_add, mixSha_take _ _ _ _ hq, List.drop_left' hq]
set_option maxRecDepth 100000 in
set_option maxHeartbeats 1600000 in
theorem dSum_calls (A : Option Addr) (n c : Nat) (p : List UInt8) (w : World) (hr : Rd w A (bs p)) (hn : p.length = n) (hc : n ≤ c) (hn9 : n ≤ 1000000000) :
    Calls Try.prog 97 #[.slice A n c] w fun e w' => e = .returned (.agg (u8s (sha p))) ∧ Hid (Chg nowhere w w') := by
  have HR := Lib.hid hr
  have HN := Lib.hid hn
  have hi60 := Lib.hid (show (Try.prog.info? 167).map (·.size) = some 64 by kernel_rfl)
  have hi25 := Lib.hid (show (Try.prog.info? 23).map (·.size) = some 32 by kernel_rfl)
  have hlk := Lib.hid (show (u32s kSha).size = 64 by rw [u32s_size, kSha_len])
  obtain ⟨m, hm⟩ : ∃ m, m = n / 64 := ⟨_, rfl⟩
  have hq : ((n : Int) / 64) = (m : Int) := by rw [hm]; rfl
  have hmn : 64 * m ≤ n := by omega
  have hmn2 : n < 64 * m + 64 := by omega
  obtain ⟨W, hW⟩ : ∃ W, W = 64 * m := ⟨_, rfl⟩
  have hq2 : ((m : Int) * 64) = (W : Int) := by omega
  have HW := Lib.hid hW
  have hWn : W ≤ n := by omega
  have hWn2 : n < W + 64 := by omega
  have hWc : W ≤ c := by omega
  have HM := Lib.hid hm
  clear hr hn hm hW hmn hmn2
  go_enter Try.func97, Try.ntmps97
  go_wp2_with fail
  refine (rounds_calls _).mono ?_
  rintro e w1 ⟨rfl, h1⟩
  have HC1 := Lib.hid (((Chg.refl nowhere w).alloc _).step h1.out (fun _ h => h.elim))
  go_wp2_with (refine wpList_store_row rfl 167 _ _ rfl w1.heap.size (u32s kSha) rfl rfl 167 _ (heap_alloc_new w1 _) (by rw [hlk.out]; exact hi60.out) (by rw [hlk.out]; rfl) (u32s_one _) ?_)
  rw [World.setRow_alloc_new]
  have hpt : (p.take W).length = W := by rw [List.length_take, HN.out]; omega
  refine (mix_calls (w1.heap.size + 1) w1.heap.size A W c m (p.take W) initSha _ initSha_ok (Blk.new1 w1 _ _ _) ((Blk.new w1 _ _).alloc _) ?_ hpt HW.out hWc ?_ (by omega)).mono ?_
  · rw [← bs_take]
    exact (((HR.out.take W).later HC1.out).alloc _).alloc _
  · exact (HR.out.apart (S := fun k => k = w1.heap.size + 1) (fun k hk => by have := HC1.out.size; omega)).part (by rintro h rfl; simp at h)
  rintro e w2 ⟨rfl, h2, h3⟩
  have HRES : Hid (Blk w2 w.heap.size 23 (u8s (nots 32))) := Lib.hid (by
    have b1 : Blk (w.alloc (.cells (u8s (nots 32)) 23)) w.heap.size 23 (u8s (nots 32)) := Blk.new w _ _
    have hz := HC1.out.size
    have hz1 := h1.out.size
    simp at hz1
    exact (((b1.chg h1.out (fun h => h)).alloc _).alloc _).chg h3.out (fun h => by omega))
  have HKK : Hid (Blk w2 w1.heap.size 167 (u32s kSha)) := Lib.hid (((Blk.new w1 _ _).alloc _).chg h3.out (fun h => by omega))
  have HC2 : Hid (Chg nowhere w w2) := Lib.hid ((((HC1.out.alloc _).alloc _)).step h3.out (fun k hk => by have := HC1.out.size; omega))
  have hz1 : w.heap.size < w1.heap.size := by
    have h := h1.out.size
    simp at h
    omega
  have hz2 : w1.heap.size + 1 < w2.heap.size := by
    have h := h3.out.size
    simp at h
    omega
  clear h1 h3
  have hz66 : Try.zeroCells173 = u8s (nots 128) := by kernel_rfl
  go_wp2_with fail
  clear hz66
  obtain ⟨w3, hw3⟩ : ∃ w3, w3 = w2.alloc (.cells (u8s (nots 128)) 173) := ⟨_, rfl⟩
  rw [← hw3]
  obtain ⟨z0, hz0⟩ : ∃ z, z = w.heap.size := ⟨_, rfl⟩
  obtain ⟨z1, hz1e⟩ : ∃ z, z = w1.heap.size := ⟨_, rfl⟩
  obtain ⟨z3, hz3e⟩ : ∃ z, z = w2.heap.size := ⟨_, rfl⟩
  have HE : Hid (Blk w3 z3 173 (u8s (nots 128))) := Lib.hid (by rw [hw3, hz3e]; exact Blk.new w2 _ _)
  have HRES3 : Hid (Blk w3 z0 23 (u8s (nots 32))) := Lib.hid (by rw [hw3, hz0]; exact HRES.out.alloc _)
  have HK3 : Hid (Blk w3 z1 167 (u32s kSha)) := Lib.hid (by rw [hw3, hz1e]; exact HKK.out.alloc _)
  have HS3 : Hid (Blk w3 (z1 + 1) 171 (u32s (mixSha m initSha (p.take W)).l)) := Lib.hid (by rw [hw3, hz1e]; exact h2.out.alloc _)
  have HC3 : Hid (Chg nowhere w w3) := Lib.hid (by rw [hw3]; exact HC2.out.alloc _)
  rw [← hz0, ← hz1e, ← hz3e]
  rw [← hz0, ← hz1e] at hz1
  rw [← hz1e, ← hz3e] at hz2
  have HZ0 := Lib.hid hz0
  clear hw3 hz1e hz3e HRES HKK HC2 h2 HC1 hz0 hpt
  have hrcA : c = W → Rd w3 A (bs (p.drop W)) := fun h => by
    rw [List.drop_eq_nil_of_le (by have := HN.out; omega)]
    exact Rd.nil _ _
  have hrcB : Rd w3 (A.map (·.add W)) (bs (p.drop W)) := by
    have h := (HR.out.later HC3.out).drop W
    rwa [show (bs p).drop W = bs (p.drop W) from List.map_drop.symm] at h
  have HXL : Hid ((p.drop W).length = n - W) := Lib.hid (by rw [List.length_drop, HN.out])
  have hxl64 : n - W ≤ 128 := by omega
  have hrle : n - W < 64 := by omega
  have HFIT : Hid (0 + (n - W) ≤ (nots 128).length) := Lib.hid (by rw [nots_len]; omega)
  have hor : (c = W ∧ Hid (Rd w3.drew A (bs (p.drop W)))) ∨ (¬ c = W ∧ Hid (Rd w3.drew (A.map (·.add W)) (bs (p.drop W)))) := by
    by_cases hcw : c = W
    · exact .inl ⟨hcw, hrcA hcw⟩
    · exact .inr ⟨hcw, hrcB⟩
  clear hrcA hrcB
  replace HE : Hid (Blk w3.drew z3 173 (u8s (nots 128))) := HE
  replace HRES3 : Hid (Blk w3.drew z0 23 (u8s (nots 32))) := HRES3
  replace HK3 : Hid (Blk w3.drew z1 167 (u32s kSha)) := HK3
  replace HS3 : Hid (Blk w3.drew (z1 + 1) 171 (u32s (mixSha m initSha (p.take W)).l)) := HS3
  replace HC3 : Hid (Chg nowhere w w3.drew) := Lib.hid HC3.out.drew
  rcases hor with ⟨hcW, HB⟩ | ⟨hcW, HB⟩
  all_goals
    go_still_tail 4, (by kernel_rfl)
    change wpList _ _ _ _ _ (World.drew w3)
    generalize World.drew w3 = w4 at *
    go_wp2_with (refine wpList_copyB rfl (.tmp 21) (.tmp 24) 39 39 rfl 5 Try.underlying39 (by kernel_rfl) rfl rfl HE.out HB.out HXL hxl64 HFIT ?_)
    intro w5 hE5 hC5
    obtain ⟨r, hr⟩ : ∃ r, r = n - W := ⟨_, rfl⟩
    obtain ⟨rp, hrp⟩ : ∃ rp, rp = p.drop W := ⟨_, rfl⟩
    rw [← hr] at hE5 HXL hrle hxl64 ⊢
    rw [← hrp] at hE5 HXL
    have hsplit : p = p.take W ++ rp := by rw [hrp, List.take_append_drop]
    have hqlen : (p.take W).length = 64 * m := by rw [List.length_take, HN.out, ← HW.out]; omega
    have HSPLIT := Lib.hid hsplit
    have HQLEN := Lib.hid hqlen
    have HHR := Lib.hid hr
    have hE5' : Hid (Blk w5 z3 173 (u8s (rp ++ nots (128 - r)))) := by
      rw [← nots_drop]
      exact hE5
    have hcr : w5.cell? ⟨z3, r, none⟩ = some (.int .u8 (((rp ++ nots (128 - r)).getD r 0).toNat : Int)) := by
      rw [hE5'.out.cell]
      exact u8s_get _ _ (by simp [nots, HXL.out]; omega)
    have hfr : w5.frozen? ⟨z3, r, none⟩ = false := hE5'.out.frozen r
    have hr128 : (r : Int) < 128 := by omega
    have hE6 := hE5'.out.set_ r (.int .u8 ((128 : UInt8).toNat : Int))
    rw [u8s_set] at hE6
    have HE6 := Lib.hid hE6
    have HC6 : Hid (Chg (fun k => k = z3) w4 (w5.setCell ⟨z3, r, none⟩ (.int .u8 128))) := Lib.hid (hC5.out.setCell (p := ⟨z3, r, none⟩) (fun _ => rfl) _)
    clear hr hrp hsplit hqlen hE5 hE5' hC5 hE6
    obtain ⟨N, hN⟩ : ∃ N, N = 8 * n := ⟨_, rfl⟩
    have hNq : (n : Int) * 8 = (N : Int) := by omega
    have HNN := Lib.hid hN
    have hN9 : N ≤ 8000000000 := by omega
    clear hN
    by_cases h55 : r + 9 ≤ 64
    · have e1 : ¬ (64 : Int) < r + 1 + 8 := by omega
      have hto9 : rp.length + 9 ≤ 64 := by have := HXL.out; omega
      have HSTART : Hid (Blk (w5.setCell ⟨z3, r, none⟩ (.int .u8 128)) z3 173 (u8s (endWin rp N 64 0))) := by
        rw [← endWin_start rp N 64 hto9 (by decide), HXL.out]
        exact HE6
      have HTO9 := Lib.hid hto9
      clear hto9 HE6
      go_wp2_with fail
      go_loopw [9, 10] (fun t d wr => ∃ i : Nat, i ≤ 8 ∧ t = .int .i64 i ∧ d = .int .u64 ((N / 2 ^ (8 * i) : Nat) : Int) ∧ Blk wr z3 173 (u8s (endWin rp N 64 i)) ∧ Chg (fun k => k = z3) w4 wr) (fun t _ _ => 8 - (intOf t).toNat)
      case atStart => exact ⟨0, Nat.zero_le _, rfl, by simp, HSTART.out, HC6.out⟩
      case round =>
        obtain ⟨i, hi, rfl, rfl, h1, h2⟩ := hrel
        have H1 := Lib.hid h1
        have H2 := Lib.hid h2
        clear h1 h2
        by_cases hlt : i < 8
        · have e2 : (i : Int) < 8 := by omega
          have hx9 : N / 2 ^ (8 * i) ≤ 8000000000 := Nat.le_trans (Nat.div_le_self _ _) hN9
          have hnx : N / 2 ^ (8 * (i + 1)) = N / 2 ^ (8 * i) / 256 := by
            rw [Nat.div_div_eq_div_mul, show (256 : Nat) = 2 ^ 8 from rfl, ← Nat.pow_add]
            congr 1
          obtain ⟨x, hx⟩ : ∃ x, x = N / 2 ^ (8 * i) := ⟨_, rfl⟩
          rw [← hx] at hx9 hnx ⊢
          have hcell : wr.cell? ⟨z3, 64 - 1 - i, none⟩ = some (.int .u8 (((endWin rp N 64 i).getD (64 - 1 - i) 0).toNat : Int)) := by
            rw [H1.out.cell]
            exact u8s_get _ _ (by rw [endWin_len _ _ _ _ (by omega) HTO9.out (by decide)]; omega)
          have hfz : wr.frozen? ⟨z3, 64 - 1 - i, none⟩ = false := H1.out.frozen _
          have hst := H1.out.set_ (64 - 1 - i) (.int .u8 ((UInt8.ofNat (N / 2 ^ (8 * i))).toNat : Int))
          rw [u8s_set, endWin_set _ _ _ _ hlt HTO9.out, ← hx] at hst
          have hv : ((UInt8.ofNat x).toNat : Int) = (x : Int) % 256 := by simp
          rw [hv] at hst
          have hch := H2.out.setCell (p := ⟨z3, 64 - 1 - i, none⟩) (fun _ => rfl) (.int .u8 ((x : Int) % 256))
          rw [show 64 - 1 - i = 63 - i by omega] at hcell hfz hst hch
          have HST := Lib.hid hst
          have HCH := Lib.hid hch
          have HNX := Lib.hid hnx
          have e3 : (0 : Int) ≤ 63 - i := by omega
          have e4 : ((63 : Int) - (i : Int)).toNat = 63 - i := by omega
          clear hst hch hnx hx hv
          go_wp2_with fail
          exact ⟨⟨i + 1, by omega, by go_num, by rw [HNX.out]; rfl, HST.out, HCH.out⟩, by simp [intOf]; omega⟩
        · have e2 : (8 : Int) ≤ i := by omega
          obtain rfl : i = 8 := by omega
          have htl : ((endWin rp N 64 8).take 64).length = 64 := by rw [List.length_take, endWin_len _ _ _ _ (by decide) HTO9.out (by decide)]; decide
          have hrd : Rd wr (some ⟨z3, 0, none⟩) (bs ((endWin rp N 64 8).take 64)) := by
            rw [← bs_take]
            exact (rd_u8s H1.out).take 64
          have HRD := Lib.hid hrd
          have HTL := Lib.hid htl
          have HSS : Hid (Blk wr (z1 + 1) 171 (u32s (mixSha m initSha (p.take W)).l)) := Lib.hid (HS3.out.chg H2.out (fun h => by omega))
          have HKS : Hid (Blk wr z1 167 (u32s kSha)) := Lib.hid (HK3.out.chg H2.out (fun h => by omega))
          have HRS : Hid (Blk wr z0 23 (u8s (nots 32))) := Lib.hid (HRES3.out.chg H2.out (fun h => by omega))
          have HFIN : Hid (outSha (mixSha (64 / 64) (mixSha m initSha (p.take W)) ((endWin rp N 64 8).take 64)) = sha p) := Lib.hid (by
            rw [endWin_take _ _ _ HTO9.out]
            have h := sha_parts p (p.take W) rp m 64 HSPLIT.out HQLEN.out (by have := HXL.out; omega) (if_pos (by have := HXL.out; omega)).symm
            rw [HN.out, ← HNN.out] at h
            exact h)
          clear hrd htl
          go_wp2_with fail
          refine (mix_calls (z1 + 1) z1 _ 64 128 (64 / 64) ((endWin rp N 64 8).take 64) _ _ (mixSha_ok initSha_ok _ _) HSS.out HKS.out HRD.out HTL.out (by decide) (by decide) (fun _ ad e => by injection e with e; subst e; show ¬ z3 = z1 + 1; omega) (by omega)).mono ?_
          rintro e w7 ⟨rfl, h7, hc7⟩
          have HR7 : Hid (Blk w7 z0 23 (u8s (nots 32))) := Lib.hid (HRS.out.chg hc7.out (fun h => by omega))
          have hlen1 : (u8s (sha p)).size = 32 := by rw [u8s_size, sha_len]
          have HLEN1 := Lib.hid hlen1
          clear hlen1
          go_wp2_with fail
          refine (hash_calls (z1 + 1) _ _ (mixSha_ok (mixSha_ok initSha_ok _ _) _ _) h7.out).mono ?_
          rintro e w8 ⟨rfl, hc8⟩
          rw [HFIN.out]
          have HR8 : Hid (Blk w8 z0 23 (u8s (nots 32))) := Lib.hid (HR7.out.chg hc8.out (fun h => h))
          go_wp2_with (refine wpList_store_row rfl 23 _ _ rfl z0 _ rfl rfl 23 _ HR8.out (by rw [HLEN1.out]; exact hi25.out) (by rw [HLEN1.out]; rfl) (u8s_one _) ?_)
          refine bodyPost_ret (v := .agg (u8s (sha p))) (results_cell_row rfl _ _ z0 23 _ (0, 0) _ rfl (HR8.out.row_ _) Try.underlying23 rfl (by rw [HLEN1.out]; exact hi25.out)) rfl ⟨rfl, ?_⟩
          have hz0 := HZ0.out
          have hw4 := HC3.out.size
          exact ((((HC3.out.step H2.out (fun k hk => by omega)).step hc7.out (fun k hk => by omega)).step hc8.out (fun _ h => h.elim)).setRow (fun h => by omega) _)
    · have e1 : (64 : Int) < r + 1 + 8 := by omega
      have hto9 : rp.length + 9 ≤ 128 := by have := HXL.out; omega
      have HSTART : Hid (Blk (w5.setCell ⟨z3, r, none⟩ (.int .u8 128)) z3 173 (u8s (endWin rp N 128 0))) := by
        rw [← endWin_start rp N 128 hto9 (by decide), HXL.out]
        exact HE6
      have HTO9 := Lib.hid hto9
      clear hto9 HE6
      go_wp2_with fail
      go_loopw [9, 10] (fun t d wr => ∃ i : Nat, i ≤ 8 ∧ t = .int .i64 i ∧ d = .int .u64 ((N / 2 ^ (8 * i) : Nat) : Int) ∧ Blk wr z3 173 (u8s (endWin rp N 128 i)) ∧ Chg (fun k => k = z3) w4 wr) (fun t _ _ => 8 - (intOf t).toNat)
      case atStart => exact ⟨0, Nat.zero_le _, rfl, by simp, HSTART.out, HC6.out⟩
      case round =>
        obtain ⟨i, hi, rfl, rfl, h1, h2⟩ := hrel
        have H1 := Lib.hid h1
        have H2 := Lib.hid h2
        clear h1 h2
        by_cases hlt : i < 8
        · have e2 : (i : Int) < 8 := by omega
          have hx9 : N / 2 ^ (8 * i) ≤ 8000000000 := Nat.le_trans (Nat.div_le_self _ _) hN9
          have hnx : N / 2 ^ (8 * (i + 1)) = N / 2 ^ (8 * i) / 256 := by
            rw [Nat.div_div_eq_div_mul, show (256 : Nat) = 2 ^ 8 from rfl, ← Nat.pow_add]
            congr 1
          obtain ⟨x, hx⟩ : ∃ x, x = N / 2 ^ (8 * i) := ⟨_, rfl⟩
          rw [← hx] at hx9 hnx ⊢
          have hcell : wr.cell? ⟨z3, 128 - 1 - i, none⟩ = some (.int .u8 (((endWin rp N 128 i).getD (128 - 1 - i) 0).toNat : Int)) := by
            rw [H1.out.cell]
            exact u8s_get _ _ (by rw [endWin_len _ _ _ _ (by omega) HTO9.out (by decide)]; omega)
          have hfz : wr.frozen? ⟨z3, 128 - 1 - i, none⟩ = false := H1.out.frozen _
          have hst := H1.out.set_ (128 - 1 - i) (.int .u8 ((UInt8.ofNat (N / 2 ^ (8 * i))).toNat : Int))
          rw [u8s_set, endWin_set _ _ _ _ hlt HTO9.out, ← hx] at hst
          have hv : ((UInt8.ofNat x).toNat : Int) = (x : Int) % 256 := by simp
          rw [hv] at hst
          have hch := H2.out.setCell (p := ⟨z3, 128 - 1 - i, none⟩) (fun _ => rfl) (.int .u8 ((x : Int) % 256))
          rw [show 128 - 1 - i = 127 - i by omega] at hcell hfz hst hch
          have HST := Lib.hid hst
          have HCH := Lib.hid hch
          have HNX := Lib.hid hnx
          have e3 : (0 : Int) ≤ 127 - i := by omega
          have e4 : ((127 : Int) - (i : Int)).toNat = 127 - i := by omega
          clear hst hch hnx hx hv
          go_wp2_with fail
          exact ⟨⟨i + 1, by omega, by go_num, by rw [HNX.out]; rfl, HST.out, HCH.out⟩, by simp [intOf]; omega⟩
        · have e2 : (8 : Int) ≤ i := by omega
          obtain rfl : i = 8 := by omega
          have htl : ((endWin rp N 128 8).take 128).length = 128 := by rw [List.length_take, endWin_len _ _ _ _ (by decide) HTO9.out (by decide)]; decide
          have hrd : Rd wr (some ⟨z3, 0, none⟩) (bs ((endWin rp N 128 8).take 128)) := by
            rw [← bs_take]
            exact (rd_u8s H1.out).take 128
          have HRD := Lib.hid hrd
          have HTL := Lib.hid htl
          have HSS : Hid (Blk wr (z1 + 1) 171 (u32s (mixSha m initSha (p.take W)).l)) := Lib.hid (HS3.out.chg H2.out (fun h => by omega))
          have HKS : Hid (Blk wr z1 167 (u32s kSha)) := Lib.hid (HK3.out.chg H2.out (fun h => by omega))
          have HRS : Hid (Blk wr z0 23 (u8s (nots 32))) := Lib.hid (HRES3.out.chg H2.out (fun h => by omega))
          have HFIN : Hid (outSha (mixSha (128 / 64) (mixSha m initSha (p.take W)) ((endWin rp N 128 8).take 128)) = sha p) := Lib.hid (by
            rw [endWin_take _ _ _ HTO9.out]
            have h := sha_parts p (p.take W) rp m 128 HSPLIT.out HQLEN.out (by have := HXL.out; omega) (if_neg (by have := HXL.out; omega)).symm
            rw [HN.out, ← HNN.out] at h
            exact h)
          clear hrd htl
          go_wp2_with fail
          refine (mix_calls (z1 + 1) z1 _ 128 128 (128 / 64) ((endWin rp N 128 8).take 128) _ _ (mixSha_ok initSha_ok _ _) HSS.out HKS.out HRD.out HTL.out (by decide) (by decide) (fun _ ad e => by injection e with e; subst e; show ¬ z3 = z1 + 1; omega) (by omega)).mono ?_
          rintro e w7 ⟨rfl, h7, hc7⟩
          have HR7 : Hid (Blk w7 z0 23 (u8s (nots 32))) := Lib.hid (HRS.out.chg hc7.out (fun h => by omega))
          have hlen1 : (u8s (sha p)).size = 32 := by rw [u8s_size, sha_len]
          have HLEN1 := Lib.hid hlen1
          clear hlen1
          go_wp2_with fail
          refine (hash_calls (z1 + 1) _ _ (mixSha_ok (mixSha_ok initSha_ok _ _) _ _) h7.out).mono ?_
          rintro e w8 ⟨rfl, hc8⟩
          rw [HFIN.out]
          have HR8 : Hid (Blk w8 z0 23 (u8s (nots 32))) := Lib.hid (HR7.out.chg hc8.out (fun h => h))
          go_wp2_with (refine wpList_store_row rfl 23 _ _ rfl z0 _ rfl rfl 23 _ HR8.out (by rw [HLEN1.out]; exact hi25.out) (by rw [HLEN1.out]; rfl) (u8s_one _) ?_)
          refine bodyPost_ret (v := .agg (u8s (sha p))) (results_cell_row rfl _ _ z0 23 _ (0, 0) _ rfl (HR8.out.row_ _) Try.underlying23 rfl (by rw [HLEN1.out]; exact hi25.out)) rfl ⟨rfl, ?_⟩
          have hz0 := HZ0.out
          have hw4 := HC3.out.size
          exact ((((HC3.out.step H2.out (fun k hk => by omega)).step hc7.out (fun k hk => by omega)).step hc8.out (fun _ h => h.elim)).setRow (fun h => by omega) _)
end Go.Proofs.Ytmijlojjkgeplaa
