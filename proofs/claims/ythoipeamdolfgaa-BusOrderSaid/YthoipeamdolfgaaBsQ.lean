/- BusOrder. -/
import Derived.Test.YthoipeamdolfgaaBsP
open Go Go.RowKit
namespace Go.Proofs.Ythoipeamdolfgaa
open Hp
theorem send_okS {fr : List Fr} {x : Fr} (h0 : 0 ≤ x.1) (h1 : x.1 ≤ 2047) (h2 : x.2.length ≤ 8) (hl : fr.length < 64) (cm : Nat) : sendS fr x = (0, insF fr x) ∧ sendC fr x cm = cm + 1 := by
  have e : sendS fr x = (0, insF fr x) := by
    unfold sendS
    rw [if_neg (by omega), if_neg (by omega)]
  exact ⟨e, by unfold sendC; rw [e]; rfl⟩
structure OrdInv (ids : List Int) (n : Nat) (wr : World) (w : World) (z gm : Nat) (i : Nat) (last place : Int) (S : Nat → Prop) (fr : List Fr) (f : Int → Option Value) (m : Nat) : Prop where
  bs : BS wr z S n fr
  ls : ∀ x, S x → w.heap.size ≤ x
  ng : ¬ S gm
  ng2 : gm < wr.heap.size
  gw : w.heap.size ≤ gm
  lx : Lx fr
  len : i + fr.length = n
  all : ∀ x ∈ fr, x.2.length = 1 ∧ dn x < n ∧ x.1 = gI ids (dn x)
  map : ∀ x ∈ fr, f (dn x : Int) = none
  ord : ∀ x ∈ fr, last < x.1 ∨ (last = x.1 ∧ place ≤ (dn x : Int))
  l0 : -1 ≤ last ∧ last ≤ 2047
  m0 : m ≤ i
set_option maxRecDepth 100000 in
set_option maxHeartbeats 900000 in
theorem busOrder_calls {A : Option Addr} {n c : Nat} (ids : List Int) {w : World} [h : HR w A (i64l ids)] (hl : ids.length = n) (hmax : n ≤ 9223372036854775807) :
    Calls Try.prog 6 #[.slice A n c] w fun e w' => e = .returned (.bool true) ∧ Chg nowhere w w' := by
  by_cases c64 : 64 < n
  · have i64 : (64 : Int) < n := by omega
    go_enter Try.func6, Try.ntmps6
    go_wp2_with fail
    go_ret
    exact ⟨rfl, Chg.refl _ _⟩
  have i64 : ¬ (64 : Int) < n := by omega
  have hn64 : n ≤ 64 := by omega
  have HL := Lib.hid hl
  clear hl
  go_enter Try.func6, Try.ntmps6
  go_wp2_with fail
  refine (newB_calls w).mono ?_
  rintro e w1 ⟨z, rfl, hs1, hB1, hz⟩
  have hS1 : ∀ x, only z x → w.heap.size ≤ x := fun x hx => by rw [show x = z from hx]; exact hz
  go_wp2_with fail
  go_loopw [4] (fun iv wr => ∃ (k : Nat) (S : Nat → Prop) (fr : List Fr), k ≤ n ∧ iv = .int .i64 (k : Int) ∧ BS wr z S k fr ∧ Step nowhere w wr ∧ (∀ x, S x → w.heap.size ≤ x) ∧ Hid (Sent ids k fr)) (fun iv _ => n - (intOf iv).toNat)
  case atStart => exact ⟨0, _, _, Nat.zero_le _, rfl, hB1, hs1, hS1, Lib.hid (Sent.nil ids)⟩
  case round =>
    obtain ⟨k, S, fr, hk, rfl, hB, _, hS, HF⟩ := hrel
    have hn : Chg nowhere w wr := (inferInstance : Step nowhere w wr).chg
    by_cases hlt : k < n
    · have hltI : (k : Int) < n := by omega
      have hKl : k < ids.length := by have := HL.out; omega
      have hfl : fr.length < 64 := by have := HF.out.len; omega
      obtain ⟨g0, g1⟩ := gI_in ids k
      obtain ⟨e1, e2⟩ := send_okS (fr := fr) (x := frI ids k) g0 g1 (by show 1 ≤ 8; decide) hfl k
      have kb := u8_1 (k : Int) (by omega) (by omega)
      have HF2 := Lib.hid (HF.out.push (by omega : k < 256))
      have HE1 := Lib.hid e1
      have HE2 := Lib.hid e2
      have hf9 : fr.length ≤ 1000 := by omega
      clear e1 e2 g0 g1 hfl
      go_wp2_with (first | ((with_reducible apply wpl_indexI); (exact rfl); (exact rfl); (exact inferInstance); (exact inferInstance); (exact HL.out); (exact hlt)) | ((with_reducible apply (wpl_loadI (t := 3))); (exact rfl); (exact inferInstance); (exact inferInstance); (exact hKl)) | ((with_reducible apply (stop_dst (dst := some 33))); (try simp only [Act.put, List.setIfInBounds_toArray, List.set_cons_succ, List.set_cons_zero]); ((with_reducible apply (wpl_bslice (dst := some 33))); (exact kb _); intro zb wb _ _ _)) | ((with_reducible apply (stop_dst (dst := some 34))); (try simp only [Act.put, List.setIfInBounds_toArray, List.set_cons_succ, List.set_cons_zero]); ((with_reducible apply (wpl_build (dst := some 34))); (exact run_frameD _ _ _ _ _))))
      have hBb : BS wb z S k fr := hB.calm (stepN (w0 := wr) (w := wb)).chg (fun _ _ hk => hk)
      have hnb : Chg nowhere w wb := hn.trans (stepN (w0 := wr) (w := wb)).chg (fun _ _ hk => hk)
      have hrb : HR wb (some ⟨zb, 0, none⟩) (bs [b8 (k : Int)]) := inferInstance
      refine (sendE (gI ids k) (A := some ⟨zb, 0, none⟩) (n := 1) (c := 1) (d := [b8 (k : Int)]) w hBb hnb hS (by omega) rfl hf9 (by decide) HE1.out HE2.out).mono ?_
      rintro e w2 ⟨rfl, S2, hB2, hn2, hS2, _⟩
      have st2 : Step nowhere w w2 := ⟨hn2⟩
      go_wp2_with fail
      refine ⟨⟨k + 1, S2, _, by omega, rfl, hB2, st2, hS2, HF2⟩, by simp [intOf]; omega⟩
    · have hkn : k = n := by omega
      rw [hkn] at hB HF
      have hltI : ¬ (k : Int) < n := by omega
      clear hk hkn
      go_wp2_with (first | ((with_reducible apply wpl_makeMI); (exact inferInstance); intro gm wm _ _ _))
      have hgm : gm = wr.heap.size := (inferInstance : Born wr gm).eq
      have hmm : HMI Try.prog 5 (.bool false) wm gm 0 (fun _ => none) := inferInstance
      have hSlow := hB.low
      have HI := Lib.hid (show OrdInv ids n wm w z gm 0 (-1) (-1) S fr (fun _ => none) 0 from ⟨hB.calm (stepN (w0 := wr) (w := wm)).chg (fun _ _ hk => hk), hS, fun hg => by have := hSlow _ hg; omega, hmm.out.lt, by have := hn.size; omega, HF.out.lx, by rw [HF.out.len]; omega, fun x hx => by
        obtain ⟨j, hj, rfl⟩ := HF.out.all x hx
        rw [dn_frI ids (by omega)]
        exact ⟨rfl, hj, rfl⟩, fun _ _ => rfl, fun x hx => by
        obtain ⟨j, hj, rfl⟩ := HF.out.all x hx
        exact .inl (by have := (gI_in ids j).1; show -1 < gI ids j; omega), by decide, Nat.le_refl _⟩)
      have stm : Step nowhere w wm := ⟨hn.trans (stepN (w0 := wr) (w := wm)).chg (fun _ _ h => h)⟩
      clear hgm hSlow hB HF hn hS hs1 hB1 hS1
      go_loopw [6, 7, 8] (fun lv pv iv wr => ∃ (i : Nat) (last place : Int) (S : Nat → Prop) (fr : List Fr) (f : Int → Option Value) (m : Nat), i ≤ n ∧ lv = .int .i64 last ∧ pv = .int .i64 place ∧ iv = .int .i64 (i : Int) ∧ Step nowhere w wr ∧ HMI Try.prog 5 (.bool false) wr gm m f ∧ Hid (OrdInv ids n wr w z gm i last place S fr f m)) (fun _ _ iv _ => n - (intOf iv).toNat)
      case atStart => exact ⟨0, -1, -1, S, fr, _, 0, Nat.zero_le _, rfl, rfl, rfl, stm, hmm, HI⟩
      case round =>
        clear HI hmm stm
        obtain ⟨i, last, place, S, fr, f, m, hi, rfl, rfl, rfl, _, _, HI⟩ := hrel
        have stw : Step nowhere w wr := inferInstance
        by_cases hlt : i < n
        · have hltI : (i : Int) < n := by omega
          rcases fr with _ | ⟨⟨gy, d⟩, fr'⟩
          · have h1 : i + 0 = n := HI.out.len
            omega
          obtain ⟨hd10, hKn0, hgy0⟩ := HI.out.all (gy, d) List.mem_cons_self
          have hd1 : d.length = 1 := hd10
          have hKn : (bget d 0).toNat < n := hKn0
          have hgy : gy = gI ids (bget d 0).toNat := hgy0
          clear hd10 hKn0 hgy0
          have hKl : (bget d 0).toNat < ids.length := by have := HL.out; omega
          have hK256 := (bget d 0).toNat_lt
          have hKw : (Lit.int .u8 ((bget d 0).toNat : Int)).wf = true := wfU (by omega) (by omega)
          have HFK := Lib.hid (show (f ((bget d 0).toNat : Int)).getD (.bool false) = .bool false by
            have h1 : f ((bget d 0).toNat : Int) = none := HI.out.map (gy, d) List.mem_cons_self
            rw [h1]
            rfl)
          have hd0 : 0 < d.length := by omega
          have hfl : fr'.length ≤ 1000 := by
            have h1 : i + (fr'.length + 1) = n := HI.out.len
            omega
          have T := next_calls HI.out.bs hfl
          dsimp only at T
          rw [hd1] at T
          have HT := Lib.hid T
          have HGY := Lib.hid hgy
          have HD1 := Lib.hid hd1
          have hord : last < gy ∨ (last = gy ∧ place ≤ ((bget d 0).toNat : Int)) := HI.out.ord (gy, d) List.mem_cons_self
          have F1 := Lib.hid (show decide (gy < last) = false from decide_eq_false (by omega))
          have F2 := Lib.hid (show (bits .and .i64 (iget ids (bget d 0).toNat) 2047 != gy) = false by rw [hgy]; exact bneF rfl)
          have F3 := Lib.hid (show Int.tmod (IntKind.i64.wrap ((bget d 0).toNat : Int)) (n : Int) = ((bget d 0).toNat : Int) by
            rw [show IntKind.i64.wrap ((bget d 0).toNat : Int) = ((bget d 0).toNat : Int) by rw [IntKind.wrap_i64]; omega]
            exact Int.tmod_eq_of_lt (by omega) (by omega))
          have F4 := F3
          have F5 := F3
          have HORD := Lib.hid hord
          clear T hgy hd1 hord hK256
          go_wp2_with fail
          refine HT.out.mono ?_
          rintro e w5 ⟨A7, c7, rfl, ⟨S7, hB7, hC7, hS7⟩, hr7, hA7⟩
          have hn5 : Chg nowhere w w5 := stw.chg.step hC7 HI.out.ls
          have st5 : Step nowhere w w5 := ⟨hn5⟩
          have hR5 : HR w5 A7 (bs d) := ⟨hr7⟩
          have hm5 : HMI Try.prog 5 (.bool false) w5 gm m f := ⟨(inferInstance : HMI Try.prog 5 (.bool false) wr gm m f).out.chg hC7 HI.out.ng⟩
          have orz : OffR (only gm) A7 (bs d) := ⟨fun hne ad e hk => HI.out.ng (by rw [← show ad.block = gm from hk]; exact hA7 ad e (by simpa [bs] using hne))⟩
          have HS7 := Lib.hid hS7
          have hB77 := Lib.hid hB7
          clear hS7 hA7 hr7 hB7 hC7
          go_wp2_with (first | go_skip | ((with_reducible apply (wpl_alloc (dst := some 9))); intro zf wzf _ _ _) | ((with_reducible apply wpl_alloc); intro z wz _ _ _) | ((with_reducible apply (wpl_guard (op := .load _ _))); (exact rfl)) | ((with_reducible apply (wpl_guard (op := .indexAddr _ _ _))); (exact rfl)) | ((with_reducible apply (wpl_guard (op := .fieldAddr _ _ _))); (exact rfl)) | ((with_reducible apply (wpl_guard (op := .convert _ _ _))); (exact rfl)) | ((with_reducible apply wpl_loadrow); (exact rfl); (exact inferInstance); (exact inferInstance); (first | (with_reducible assumption) | (with_reducible exact H32.size _) | kernel_rfl)) | ((with_reducible apply wpl_loadcellN); (exact rfl); (exact inferInstance); (exact rfl)) | ((with_reducible apply wpl_storerow); (exact rfl); (exact rfl); (exact inferInstance); (exact inferInstance); (first | (with_reducible assumption) | (with_reducible exact H32.size _) | kernel_rfl); (first | (with_reducible assumption) | (with_reducible exact H32.size _) | kernel_rfl); (first | (with_reducible exact u8s_one _) | (with_reducible assumption) | kernel_rfl); intro ws _ _) | ((with_reducible apply wpl_storecell); (exact rfl); (exact rfl); (exact inferInstance); (exact rfl); (first | (with_reducible assumption) | omega | (focus (simp; done)) | (focus (simp; omega; done)) | decide); intro ws _ _))
          have ogz : OffB (only gm) zf := ⟨fun e => by
            have h1 := (inferInstance : Born w5 zf).eq
            have h2 : zf = gm := e
            have h3 := hm5.out.lt
            omega⟩
          have hd1 := HD1.out
          have hn0 : ¬ n = 0 := by omega
          refine wp_region_N (nowhere) (by kernel_rfl) (fun wd _ _ => ?_)
          refine' takeH (i := 0) (v := _) rfl (by kernel_rfl) (by kernel_rfl) (by kernel_rfl) (fun _ _ _ h => h) (yields_of (by rfl) (fun w' _ => ?_)) inferInstance ?_
          rotate_left
          · (first | (go_simp; exact if_neg hn0) | (go_simp; try with_reducible rfl))
          try simp only [Act.put, List.setIfInBounds_toArray]; try simp only [List.set_cons_succ, List.set_cons_zero]
          refine' takeH (i := 1) (v := _) rfl (by kernel_rfl) (by kernel_rfl) (by kernel_rfl) (fun _ _ _ h => h) (yields_of (by rfl) (fun w' _ => ?_)) inferInstance ?_
          rotate_left
          · (first | (go_simp; exact if_neg hn0) | (go_simp; try with_reducible rfl))
          try simp only [Act.put, List.setIfInBounds_toArray]; try simp only [List.set_cons_succ, List.set_cons_zero]
          refine' takeH (i := 2) (v := _) rfl (by kernel_rfl) (by kernel_rfl) (by kernel_rfl) (fun _ _ _ h => h) (yields_of (by rfl) (fun w' _ => ?_)) inferInstance ?_
          rotate_left
          · (first | (go_simp; exact if_neg hn0) | (go_simp; try with_reducible rfl))
          try simp only [Act.put, List.setIfInBounds_toArray]; try simp only [List.set_cons_succ, List.set_cons_zero]
          refine' takeH (i := 3) (v := _) rfl (by kernel_rfl) (by kernel_rfl) (by kernel_rfl) (fun _ _ _ h => h) (yields_of (by rfl) (fun w' _ => ?_)) inferInstance ?_
          rotate_left
          · (first | (go_simp; exact if_neg hn0) | (go_simp; try with_reducible rfl))
          try simp only [Act.put, List.setIfInBounds_toArray]; try simp only [List.set_cons_succ, List.set_cons_zero]
          refine' takeH (i := 4) (v := _) rfl (by kernel_rfl) (by kernel_rfl) (by kernel_rfl) (fun _ _ _ h => h) (yields_of (by rfl) (fun w' _ => ?_)) inferInstance ?_
          rotate_left
          · (first | ((with_reducible apply (ev_loadI (t := 3))); (exact rfl); (exact inferInstance); (exact inferInstance); (exact hKl)) | (go_simp; exact if_neg hn0) | ((with_reducible apply (ev_loadB (t := 5))); (exact rfl); (exact inferInstance); (exact inferInstance); (first | (with_reducible assumption) | omega)) | ((with_reducible apply ev_loadrow); (exact rfl); (exact inferInstance); (exact inferInstance); (first | (with_reducible assumption) | (with_reducible exact H32.size _) | kernel_rfl)) | ((with_reducible apply (ev_loadhash (t := 64))); (exact rfl); (exact inferInstance); (exact inferInstance); (first | (with_reducible assumption) | omega)) | ((with_reducible apply ev_loadcellN); (exact rfl); (exact inferInstance); (exact inferInstance); (exact rfl)) | ((with_reducible apply (ev_loadint (t := 3))); (exact rfl); (exact inferInstance); (exact inferInstance); (first | (with_reducible assumption) | omega)) | ((with_reducible apply (ev_loadbyte (t := 5))); (exact rfl); (exact inferInstance); (exact inferInstance); (first | (with_reducible assumption) | omega)) | (go_simp; try with_reducible rfl))
          try simp only [Act.put, List.setIfInBounds_toArray]; try simp only [List.set_cons_succ, List.set_cons_zero]
          refine' takeH (i := 5) (v := _) rfl (by kernel_rfl) (by kernel_rfl) (by kernel_rfl) (fun _ _ _ h => h) (yields_of (by rfl) (fun w' _ => ?_)) inferInstance ?_
          rotate_left
          · (first | (go_simp; exact if_neg hn0) | (go_simp; try with_reducible rfl))
          try simp only [Act.put, List.setIfInBounds_toArray]; try simp only [List.set_cons_succ, List.set_cons_zero]
          refine' takeH (i := 6) (v := _) rfl (by kernel_rfl) (by kernel_rfl) (by kernel_rfl) (fun _ _ _ h => h) (yields_of (by rfl) (fun w' _ => ?_)) inferInstance ?_
          rotate_left
          · (first | (go_simp; exact if_neg hn0) | (go_simp; try with_reducible rfl))
          try simp only [Act.put, List.setIfInBounds_toArray]; try simp only [List.set_cons_succ, List.set_cons_zero]
          try simp only [F1.out]
          try simp only [F2.out]
          try simp only [F3.out]
          try simp only [F4.out]
          try simp only [F5.out]
          refine' takeH (i := 7) (v := _) rfl (by kernel_rfl) (by kernel_rfl) (by kernel_rfl) (fun _ _ _ h => h) (yields_of (by rfl) (fun w' _ => ?_)) inferInstance ?_
          rotate_left
          · (first | (go_simp; exact if_neg hn0) | (go_simp; try with_reducible rfl))
          try simp only [Act.put, List.setIfInBounds_toArray]; try simp only [List.set_cons_succ, List.set_cons_zero]
          refine' takeH (i := 8) (v := _) rfl (by kernel_rfl) (by kernel_rfl) (by kernel_rfl) (fun _ _ _ h => h) (yields_of (by rfl) (fun w' _ => ?_)) inferInstance ?_
          rotate_left
          · (first | (go_simp; exact if_neg hn0) | (go_simp; try with_reducible rfl))
          try simp only [Act.put, List.setIfInBounds_toArray]; try simp only [List.set_cons_succ, List.set_cons_zero]
          refine' takeH (i := 9) (v := _) rfl (by kernel_rfl) (by kernel_rfl) (by kernel_rfl) (fun _ _ _ h => h) (yields_of (by rfl) (fun w' _ => ?_)) inferInstance ?_
          rotate_left
          · (first | (go_simp; exact if_neg hn0) | (go_simp; try with_reducible rfl))
          try simp only [Act.put, List.setIfInBounds_toArray]; try simp only [List.set_cons_succ, List.set_cons_zero]
          refine' takeH (i := 10) (v := _) rfl (by kernel_rfl) (by kernel_rfl) (by kernel_rfl) (fun _ _ _ h => h) (yields_of (by rfl) (fun w' _ => ?_)) inferInstance ?_
          rotate_left
          · (first | (go_simp; exact if_neg hn0) | (go_simp; try with_reducible rfl))
          try simp only [Act.put, List.setIfInBounds_toArray]; try simp only [List.set_cons_succ, List.set_cons_zero]
          refine' takeH (i := 11) (v := _) rfl (by kernel_rfl) (by kernel_rfl) (by kernel_rfl) (fun _ _ _ h => h) (yields_of (by rfl) (fun w' _ => ?_)) inferInstance ?_
          rotate_left
          · (first | ((with_reducible apply (ev_loadI (t := 3))); (exact rfl); (exact inferInstance); (exact inferInstance); (exact hKl)) | (go_simp; exact if_neg hn0) | ((with_reducible apply (ev_loadB (t := 5))); (exact rfl); (exact inferInstance); (exact inferInstance); (first | (with_reducible assumption) | omega)) | ((with_reducible apply ev_loadrow); (exact rfl); (exact inferInstance); (exact inferInstance); (first | (with_reducible assumption) | (with_reducible exact H32.size _) | kernel_rfl)) | ((with_reducible apply (ev_loadhash (t := 64))); (exact rfl); (exact inferInstance); (exact inferInstance); (first | (with_reducible assumption) | omega)) | ((with_reducible apply ev_loadcellN); (exact rfl); (exact inferInstance); (exact inferInstance); (exact rfl)) | ((with_reducible apply (ev_loadint (t := 3))); (exact rfl); (exact inferInstance); (exact inferInstance); (first | (with_reducible assumption) | omega)) | ((with_reducible apply (ev_loadbyte (t := 5))); (exact rfl); (exact inferInstance); (exact inferInstance); (first | (with_reducible assumption) | omega)) | (go_simp; try with_reducible rfl))
          try simp only [Act.put, List.setIfInBounds_toArray]; try simp only [List.set_cons_succ, List.set_cons_zero]
          refine' takeH (i := 12) (v := _) rfl (by kernel_rfl) (by kernel_rfl) (by kernel_rfl) (fun _ _ _ h => h) (yields_of (by rfl) (fun w' _ => ?_)) inferInstance ?_
          rotate_left
          · (first | ((with_reducible apply ev_indexI); (exact rfl); (exact rfl); (exact inferInstance); (exact inferInstance); (exact HL.out); (exact hKn)) | (go_simp; exact if_neg hn0) | ((with_reducible apply ev_indexB0); (exact rfl); (exact inferInstance); (exact inferInstance); (first | (with_reducible assumption) | omega); (first | (with_reducible assumption) | omega)) | ((with_reducible apply ev_indexB); (exact rfl); (exact rfl); (exact inferInstance); (exact inferInstance); (first | (with_reducible assumption) | omega); (first | (with_reducible assumption) | omega)) | ((with_reducible apply ev_indexSN); (exact rfl); (exact rfl); (exact inferInstance); (first | (with_reducible assumption) | omega)) | ((with_reducible apply ev_indexS); (exact rfl); (exact rfl); (exact inferInstance); (first | (with_reducible assumption) | omega); (first | (with_reducible assumption) | omega)) | ((with_reducible apply ev_indexArr); (exact rfl); (exact rfl); (exact Try.underlying64); (kernel_rfl); (first | (with_reducible assumption) | omega); (first | (with_reducible assumption) | omega)) | ((with_reducible apply ev_indexH'); (exact rfl); (exact rfl); (exact inferInstance); (exact inferInstance); (first | (with_reducible assumption) | omega); (first | (with_reducible assumption) | omega); (first | (with_reducible assumption) | omega)) | ((with_reducible apply ev_indexH); (exact rfl); (exact rfl); (exact inferInstance); (exact inferInstance); (first | (with_reducible assumption) | omega); (first | (with_reducible assumption) | omega)) | (go_simp; try with_reducible rfl))
          try simp only [Act.put, List.setIfInBounds_toArray]; try simp only [List.set_cons_succ, List.set_cons_zero]
          refine' takeH (i := 13) (v := _) rfl (by kernel_rfl) (by kernel_rfl) (by kernel_rfl) (fun _ _ _ h => h) (yields_of (by rfl) (fun w' _ => ?_)) inferInstance ?_
          rotate_left
          · (first | ((with_reducible apply (ev_loadI (t := 3))); (exact rfl); (exact inferInstance); (exact inferInstance); (exact hKl)) | (go_simp; exact if_neg hn0) | ((with_reducible apply (ev_loadB (t := 5))); (exact rfl); (exact inferInstance); (exact inferInstance); (first | (with_reducible assumption) | omega)) | ((with_reducible apply ev_loadrow); (exact rfl); (exact inferInstance); (exact inferInstance); (first | (with_reducible assumption) | (with_reducible exact H32.size _) | kernel_rfl)) | ((with_reducible apply (ev_loadhash (t := 64))); (exact rfl); (exact inferInstance); (exact inferInstance); (first | (with_reducible assumption) | omega)) | ((with_reducible apply ev_loadcellN); (exact rfl); (exact inferInstance); (exact inferInstance); (exact rfl)) | ((with_reducible apply (ev_loadint (t := 3))); (exact rfl); (exact inferInstance); (exact inferInstance); (first | (with_reducible assumption) | omega)) | ((with_reducible apply (ev_loadbyte (t := 5))); (exact rfl); (exact inferInstance); (exact inferInstance); (first | (with_reducible assumption) | omega)) | (go_simp; try with_reducible rfl))
          try simp only [Act.put, List.setIfInBounds_toArray]; try simp only [List.set_cons_succ, List.set_cons_zero]
          refine' takeH (i := 14) (v := _) rfl (by kernel_rfl) (by kernel_rfl) (by kernel_rfl) (fun _ _ _ h => h) (yields_of (by rfl) (fun w' _ => ?_)) inferInstance ?_
          rotate_left
          · (first | ((with_reducible apply ev_lookMI1); (exact rfl); (exact rfl); (exact inferInstance); (exact inferInstance); (exact hKw); (exact HFK.out)))
          try simp only [Act.put, List.setIfInBounds_toArray]; try simp only [List.set_cons_succ, List.set_cons_zero]
          refine' takeH (i := 15) (v := _) rfl (by kernel_rfl) (by kernel_rfl) (by kernel_rfl) (fun _ _ _ h => h) (yields_of (by rfl) (fun w' _ => ?_)) inferInstance ?_
          rotate_left
          · (first | (go_simp; exact if_neg hn0) | (go_simp; try with_reducible rfl))
          try simp only [Act.put, List.setIfInBounds_toArray]; try simp only [List.set_cons_succ, List.set_cons_zero]
          refine' takeH (i := 16) (v := _) rfl (by kernel_rfl) (by kernel_rfl) (by kernel_rfl) (fun _ _ _ h => h) (yields_of (by rfl) (fun w' _ => ?_)) inferInstance ?_
          rotate_left
          · (first | (go_simp; exact if_neg hn0) | (go_simp; try with_reducible rfl))
          try simp only [Act.put, List.setIfInBounds_toArray]; try simp only [List.set_cons_succ, List.set_cons_zero]
          refine' takeH (i := 17) (v := _) rfl (by kernel_rfl) (by kernel_rfl) (by kernel_rfl) (fun _ _ _ h => h) (yields_of (by rfl) (fun w' _ => ?_)) inferInstance ?_
          rotate_left
          · (first | (go_simp; exact if_neg hn0) | (go_simp; try with_reducible rfl))
          try simp only [Act.put, List.setIfInBounds_toArray]; try simp only [List.set_cons_succ, List.set_cons_zero]
          refine' takeH (i := 18) (v := _) rfl (by kernel_rfl) (by kernel_rfl) (by kernel_rfl) (fun _ _ _ h => h) (yields_of (by rfl) (fun w' _ => ?_)) inferInstance ?_
          rotate_left
          · (first | ((with_reducible apply (ev_loadI (t := 3))); (exact rfl); (exact inferInstance); (exact inferInstance); (exact hKl)) | (go_simp; exact if_neg hn0) | ((with_reducible apply (ev_loadB (t := 5))); (exact rfl); (exact inferInstance); (exact inferInstance); (first | (with_reducible assumption) | omega)) | ((with_reducible apply ev_loadrow); (exact rfl); (exact inferInstance); (exact inferInstance); (first | (with_reducible assumption) | (with_reducible exact H32.size _) | kernel_rfl)) | ((with_reducible apply (ev_loadhash (t := 64))); (exact rfl); (exact inferInstance); (exact inferInstance); (first | (with_reducible assumption) | omega)) | ((with_reducible apply ev_loadcellN); (exact rfl); (exact inferInstance); (exact inferInstance); (exact rfl)) | ((with_reducible apply (ev_loadint (t := 3))); (exact rfl); (exact inferInstance); (exact inferInstance); (first | (with_reducible assumption) | omega)) | ((with_reducible apply (ev_loadbyte (t := 5))); (exact rfl); (exact inferInstance); (exact inferInstance); (first | (with_reducible assumption) | omega)) | (go_simp; try with_reducible rfl))
          try simp only [Act.put, List.setIfInBounds_toArray]; try simp only [List.set_cons_succ, List.set_cons_zero]
          refine' takeH (i := 19) (v := _) rfl (by kernel_rfl) (by kernel_rfl) (by kernel_rfl) (fun _ _ _ h => h) (yields_of (by rfl) (fun w' _ => ?_)) inferInstance ?_
          rotate_left
          · (first | (go_simp; exact if_neg hn0) | (go_simp; try with_reducible rfl))
          try simp only [Act.put, List.setIfInBounds_toArray]; try simp only [List.set_cons_succ, List.set_cons_zero]
          refine' takeH (i := 20) (v := _) rfl (by kernel_rfl) (by kernel_rfl) (by kernel_rfl) (fun _ _ _ h => h) (yields_of (by rfl) (fun w' _ => ?_)) inferInstance ?_
          rotate_left
          · (first | (go_simp; exact if_neg hn0) | (go_simp; try with_reducible rfl))
          try simp only [Act.put, List.setIfInBounds_toArray]; try simp only [List.set_cons_succ, List.set_cons_zero]
          try simp only [F1.out]
          try simp only [F2.out]
          try simp only [F3.out]
          try simp only [F4.out]
          try simp only [F5.out]
          refine' takeH (i := 21) (v := _) rfl (by kernel_rfl) (by kernel_rfl) (by kernel_rfl) (fun _ _ _ h => h) (yields_of (by rfl) (fun w' _ => ?_)) inferInstance ?_
          rotate_left
          · (first | (go_simp; exact if_neg hn0) | (go_simp; try with_reducible rfl))
          try simp only [Act.put, List.setIfInBounds_toArray]; try simp only [List.set_cons_succ, List.set_cons_zero]
          refine' takeH (i := 22) (v := _) rfl (by kernel_rfl) (by kernel_rfl) (by kernel_rfl) (fun _ _ _ h => h) (yields_of (by rfl) (fun w' _ => ?_)) inferInstance ?_
          rotate_left
          · (first | (go_simp; exact if_neg hn0) | (go_simp; try with_reducible rfl))
          try simp only [Act.put, List.setIfInBounds_toArray]; try simp only [List.set_cons_succ, List.set_cons_zero]
          refine' takeH (i := 23) (v := _) rfl (by kernel_rfl) (by kernel_rfl) (by kernel_rfl) (fun _ _ _ h => h) (yields_of (by rfl) (fun w' _ => ?_)) inferInstance ?_
          rotate_left
          · (first | (go_simp; exact if_neg hn0) | (go_simp; try with_reducible rfl))
          try simp only [Act.put, List.setIfInBounds_toArray]; try simp only [List.set_cons_succ, List.set_cons_zero]
          refine' takeH (i := 24) (v := _) rfl (by kernel_rfl) (by kernel_rfl) (by kernel_rfl) (fun _ _ _ h => h) (yields_of (by rfl) (fun w' _ => ?_)) inferInstance ?_
          rotate_left
          · (first | (go_simp; exact if_neg hn0) | (go_simp; try with_reducible rfl))
          try simp only [Act.put, List.setIfInBounds_toArray]; try simp only [List.set_cons_succ, List.set_cons_zero]
          refine' takeH (i := 25) (v := _) rfl (by kernel_rfl) (by kernel_rfl) (by kernel_rfl) (fun _ _ _ h => h) (yields_of (by rfl) (fun w' _ => ?_)) inferInstance ?_
          rotate_left
          · (first | ((with_reducible apply (ev_loadI (t := 3))); (exact rfl); (exact inferInstance); (exact inferInstance); (exact hKl)) | (go_simp; exact if_neg hn0) | ((with_reducible apply (ev_loadB (t := 5))); (exact rfl); (exact inferInstance); (exact inferInstance); (first | (with_reducible assumption) | omega)) | ((with_reducible apply ev_loadrow); (exact rfl); (exact inferInstance); (exact inferInstance); (first | (with_reducible assumption) | (with_reducible exact H32.size _) | kernel_rfl)) | ((with_reducible apply (ev_loadhash (t := 64))); (exact rfl); (exact inferInstance); (exact inferInstance); (first | (with_reducible assumption) | omega)) | ((with_reducible apply ev_loadcellN); (exact rfl); (exact inferInstance); (exact inferInstance); (exact rfl)) | ((with_reducible apply (ev_loadint (t := 3))); (exact rfl); (exact inferInstance); (exact inferInstance); (first | (with_reducible assumption) | omega)) | ((with_reducible apply (ev_loadbyte (t := 5))); (exact rfl); (exact inferInstance); (exact inferInstance); (first | (with_reducible assumption) | omega)) | (go_simp; try with_reducible rfl))
          try simp only [Act.put, List.setIfInBounds_toArray]; try simp only [List.set_cons_succ, List.set_cons_zero]
          refine' takeH (i := 26) (v := _) rfl (by kernel_rfl) (by kernel_rfl) (by kernel_rfl) (fun _ _ _ h => h) (yields_of (by rfl) (fun w' _ => ?_)) inferInstance ?_
          rotate_left
          · (first | ((with_reducible apply ev_indexI); (exact rfl); (exact rfl); (exact inferInstance); (exact inferInstance); (exact HL.out); (exact hKn)) | (go_simp; exact if_neg hn0) | ((with_reducible apply ev_indexB0); (exact rfl); (exact inferInstance); (exact inferInstance); (first | (with_reducible assumption) | omega); (first | (with_reducible assumption) | omega)) | ((with_reducible apply ev_indexB); (exact rfl); (exact rfl); (exact inferInstance); (exact inferInstance); (first | (with_reducible assumption) | omega); (first | (with_reducible assumption) | omega)) | ((with_reducible apply ev_indexSN); (exact rfl); (exact rfl); (exact inferInstance); (first | (with_reducible assumption) | omega)) | ((with_reducible apply ev_indexS); (exact rfl); (exact rfl); (exact inferInstance); (first | (with_reducible assumption) | omega); (first | (with_reducible assumption) | omega)) | ((with_reducible apply ev_indexArr); (exact rfl); (exact rfl); (exact Try.underlying64); (kernel_rfl); (first | (with_reducible assumption) | omega); (first | (with_reducible assumption) | omega)) | ((with_reducible apply ev_indexH'); (exact rfl); (exact rfl); (exact inferInstance); (exact inferInstance); (first | (with_reducible assumption) | omega); (first | (with_reducible assumption) | omega); (first | (with_reducible assumption) | omega)) | ((with_reducible apply ev_indexH); (exact rfl); (exact rfl); (exact inferInstance); (exact inferInstance); (first | (with_reducible assumption) | omega); (first | (with_reducible assumption) | omega)) | (go_simp; try with_reducible rfl))
          try simp only [Act.put, List.setIfInBounds_toArray]; try simp only [List.set_cons_succ, List.set_cons_zero]
          refine' takeH (i := 27) (v := _) rfl (by kernel_rfl) (by kernel_rfl) (by kernel_rfl) (fun _ _ _ h => h) (yields_of (by rfl) (fun w' _ => ?_)) inferInstance ?_
          rotate_left
          · (first | ((with_reducible apply (ev_loadI (t := 3))); (exact rfl); (exact inferInstance); (exact inferInstance); (exact hKl)) | (go_simp; exact if_neg hn0) | ((with_reducible apply (ev_loadB (t := 5))); (exact rfl); (exact inferInstance); (exact inferInstance); (first | (with_reducible assumption) | omega)) | ((with_reducible apply ev_loadrow); (exact rfl); (exact inferInstance); (exact inferInstance); (first | (with_reducible assumption) | (with_reducible exact H32.size _) | kernel_rfl)) | ((with_reducible apply (ev_loadhash (t := 64))); (exact rfl); (exact inferInstance); (exact inferInstance); (first | (with_reducible assumption) | omega)) | ((with_reducible apply ev_loadcellN); (exact rfl); (exact inferInstance); (exact inferInstance); (exact rfl)) | ((with_reducible apply (ev_loadint (t := 3))); (exact rfl); (exact inferInstance); (exact inferInstance); (first | (with_reducible assumption) | omega)) | ((with_reducible apply (ev_loadbyte (t := 5))); (exact rfl); (exact inferInstance); (exact inferInstance); (first | (with_reducible assumption) | omega)) | (go_simp; try with_reducible rfl))
          try simp only [Act.put, List.setIfInBounds_toArray]; try simp only [List.set_cons_succ, List.set_cons_zero]
          refine' takeH (i := 28) (v := _) rfl (by kernel_rfl) (by kernel_rfl) (by kernel_rfl) (fun _ _ _ h => h) (yields_of (by rfl) (fun w' _ => ?_)) inferInstance ?_
          rotate_left
          · (first | (go_simp; exact if_neg hn0) | (go_simp; try with_reducible rfl))
          try simp only [Act.put, List.setIfInBounds_toArray]; try simp only [List.set_cons_succ, List.set_cons_zero]
          refine' takeH (i := 29) (v := _) rfl (by kernel_rfl) (by kernel_rfl) (by kernel_rfl) (fun _ _ _ h => h) (yields_of (by rfl) (fun w' _ => ?_)) inferInstance ?_
          rotate_left
          · (first | (go_simp; exact if_neg hn0) | (go_simp; try with_reducible rfl))
          try simp only [Act.put, List.setIfInBounds_toArray]; try simp only [List.set_cons_succ, List.set_cons_zero]
          refine' takeH (i := 30) (v := _) rfl (by kernel_rfl) (by kernel_rfl) (by kernel_rfl) (fun _ _ _ h => h) (yields_of (by rfl) (fun w' _ => ?_)) inferInstance ?_
          rotate_left
          · (first | (go_simp; exact if_neg hn0) | (go_simp; try with_reducible rfl))
          try simp only [Act.put, List.setIfInBounds_toArray]; try simp only [List.set_cons_succ, List.set_cons_zero]
          refine' takeH (i := 31) (v := _) rfl (by kernel_rfl) (by kernel_rfl) (by kernel_rfl) (fun _ _ _ h => h) (yields_of (by rfl) (fun w' _ => ?_)) inferInstance ?_
          rotate_left
          · (first | (go_simp; exact if_neg hn0) | (go_simp; try with_reducible rfl))
          try simp only [Act.put, List.setIfInBounds_toArray]; try simp only [List.set_cons_succ, List.set_cons_zero]
          try simp only [F1.out]
          try simp only [F2.out]
          try simp only [F3.out]
          try simp only [F4.out]
          try simp only [F5.out]
          refine' takeH (i := 32) (v := _) rfl (by kernel_rfl) (by kernel_rfl) (by kernel_rfl) (fun _ _ _ h => h) (yields_of (by rfl) (fun w' _ => ?_)) inferInstance ?_
          rotate_left
          · (first | ((with_reducible apply ev_indexI); (exact rfl); (exact rfl); (exact inferInstance); (exact inferInstance); (exact HL.out); (exact hKn)) | (go_simp; exact if_neg hn0) | ((with_reducible apply ev_indexB0); (exact rfl); (exact inferInstance); (exact inferInstance); (first | (with_reducible assumption) | omega); (first | (with_reducible assumption) | omega)) | ((with_reducible apply ev_indexB); (exact rfl); (exact rfl); (exact inferInstance); (exact inferInstance); (first | (with_reducible assumption) | omega); (first | (with_reducible assumption) | omega)) | ((with_reducible apply ev_indexSN); (exact rfl); (exact rfl); (exact inferInstance); (first | (with_reducible assumption) | omega)) | ((with_reducible apply ev_indexS); (exact rfl); (exact rfl); (exact inferInstance); (first | (with_reducible assumption) | omega); (first | (with_reducible assumption) | omega)) | ((with_reducible apply ev_indexArr); (exact rfl); (exact rfl); (exact Try.underlying64); (kernel_rfl); (first | (with_reducible assumption) | omega); (first | (with_reducible assumption) | omega)) | ((with_reducible apply ev_indexH'); (exact rfl); (exact rfl); (exact inferInstance); (exact inferInstance); (first | (with_reducible assumption) | omega); (first | (with_reducible assumption) | omega); (first | (with_reducible assumption) | omega)) | ((with_reducible apply ev_indexH); (exact rfl); (exact rfl); (exact inferInstance); (exact inferInstance); (first | (with_reducible assumption) | omega); (first | (with_reducible assumption) | omega)) | (go_simp; try with_reducible rfl))
          try simp only [Act.put, List.setIfInBounds_toArray]; try simp only [List.set_cons_succ, List.set_cons_zero]
          refine' takeH (i := 33) (v := _) rfl (by kernel_rfl) (by kernel_rfl) (by kernel_rfl) (fun _ _ _ h => h) (yields_of (by rfl) (fun w' _ => ?_)) inferInstance ?_
          rotate_left
          · (first | ((with_reducible apply (ev_loadI (t := 3))); (exact rfl); (exact inferInstance); (exact inferInstance); (exact hKl)) | (go_simp; exact if_neg hn0) | ((with_reducible apply (ev_loadB (t := 5))); (exact rfl); (exact inferInstance); (exact inferInstance); (first | (with_reducible assumption) | omega)) | ((with_reducible apply ev_loadrow); (exact rfl); (exact inferInstance); (exact inferInstance); (first | (with_reducible assumption) | (with_reducible exact H32.size _) | kernel_rfl)) | ((with_reducible apply (ev_loadhash (t := 64))); (exact rfl); (exact inferInstance); (exact inferInstance); (first | (with_reducible assumption) | omega)) | ((with_reducible apply ev_loadcellN); (exact rfl); (exact inferInstance); (exact inferInstance); (exact rfl)) | ((with_reducible apply (ev_loadint (t := 3))); (exact rfl); (exact inferInstance); (exact inferInstance); (first | (with_reducible assumption) | omega)) | ((with_reducible apply (ev_loadbyte (t := 5))); (exact rfl); (exact inferInstance); (exact inferInstance); (first | (with_reducible assumption) | omega)) | (go_simp; try with_reducible rfl))
          try simp only [Act.put, List.setIfInBounds_toArray]; try simp only [List.set_cons_succ, List.set_cons_zero]
          refine' takeH (i := 34) (v := _) rfl (by kernel_rfl) (by kernel_rfl) (by kernel_rfl) (fun _ _ _ h => h) (yields_of (by rfl) (fun w' _ => ?_)) inferInstance ?_
          rotate_left
          · (first | (go_simp; exact if_neg hn0) | (go_simp; try with_reducible rfl))
          try simp only [Act.put, List.setIfInBounds_toArray]; try simp only [List.set_cons_succ, List.set_cons_zero]
          try simp only [F1.out]
          try simp only [F2.out]
          try simp only [F3.out]
          try simp only [F4.out]
          try simp only [F5.out]
          refine' takeH (i := 35) (v := _) rfl (by kernel_rfl) (by kernel_rfl) (by kernel_rfl) (fun _ _ _ h => h) (yields_of (by rfl) (fun w' _ => ?_)) inferInstance ?_
          rotate_left
          · (first | (go_simp; exact if_neg hn0) | (go_simp; try with_reducible rfl))
          try simp only [Act.put, List.setIfInBounds_toArray]; try simp only [List.set_cons_succ, List.set_cons_zero]
          refine' takeH (i := 36) (v := _) rfl (by kernel_rfl) (by kernel_rfl) (by kernel_rfl) (fun _ _ _ h => h) (yields_of (by rfl) (fun w' _ => ?_)) inferInstance ?_
          rotate_left
          · (first | ((with_reducible apply (ev_loadI (t := 3))); (exact rfl); (exact inferInstance); (exact inferInstance); (exact hKl)) | (go_simp; exact if_neg hn0) | ((with_reducible apply (ev_loadB (t := 5))); (exact rfl); (exact inferInstance); (exact inferInstance); (first | (with_reducible assumption) | omega)) | ((with_reducible apply ev_loadrow); (exact rfl); (exact inferInstance); (exact inferInstance); (first | (with_reducible assumption) | (with_reducible exact H32.size _) | kernel_rfl)) | ((with_reducible apply (ev_loadhash (t := 64))); (exact rfl); (exact inferInstance); (exact inferInstance); (first | (with_reducible assumption) | omega)) | ((with_reducible apply ev_loadcellN); (exact rfl); (exact inferInstance); (exact inferInstance); (exact rfl)) | ((with_reducible apply (ev_loadint (t := 3))); (exact rfl); (exact inferInstance); (exact inferInstance); (first | (with_reducible assumption) | omega)) | ((with_reducible apply (ev_loadbyte (t := 5))); (exact rfl); (exact inferInstance); (exact inferInstance); (first | (with_reducible assumption) | omega)) | (go_simp; try with_reducible rfl))
          try simp only [Act.put, List.setIfInBounds_toArray]; try simp only [List.set_cons_succ, List.set_cons_zero]
          refine' takeH (i := 37) (v := _) rfl (by kernel_rfl) (by kernel_rfl) (by kernel_rfl) (fun _ _ _ h => h) (yields_of (by rfl) (fun w' _ => ?_)) inferInstance ?_
          rotate_left
          · (first | (go_simp; exact if_neg hn0) | (go_simp; try with_reducible rfl))
          try simp only [Act.put, List.setIfInBounds_toArray]; try simp only [List.set_cons_succ, List.set_cons_zero]
          try simp only [F1.out]
          try simp only [F2.out]
          try simp only [F3.out]
          try simp only [F4.out]
          try simp only [F5.out]
          refine' takeH (i := 38) (v := _) rfl (by kernel_rfl) (by kernel_rfl) (by kernel_rfl) (fun _ _ _ h => h) (yields_of (by rfl) (fun w' _ => ?_)) inferInstance ?_
          rotate_left
          · (first | (go_simp; exact if_neg hn0) | (go_simp; try with_reducible rfl))
          try simp only [Act.put, List.setIfInBounds_toArray]; try simp only [List.set_cons_succ, List.set_cons_zero]
          refine wpAnyH_done (by kernel_rfl) ?_ _
          have hq : ((gy == last) = true ∧ ¬ ((bget d 0).toNat : Int) < place) ∨ last < gy := by
            by_cases hgl : gy = last
            · exact .inl ⟨beqT hgl, by have := HORD.out; omega⟩
            · exact .inr (by have := HORD.out; omega)
          have HLT := Lib.hid (show m < maxLen by have := HI.out.m0; unfold maxLen; omega)
          have hgn : d.length = 1 := hd1
          have h01 : 0 < 1 := by decide
          have HWR := Lib.hid (show IntKind.i64.wrap ((bget d 0).toNat : Int) = ((bget d 0).toNat : Int) by rw [IntKind.wrap_i64]; omega)
          rcases hq with ⟨b1, i2⟩ | b1
          all_goals
            go_wp2_with (first | go_skip | ((with_reducible apply (wpl_guard (op := .load _ _))); (exact rfl)) | ((with_reducible apply (wpl_guard (op := .fieldAddr _ _ _))); (exact rfl)) | ((with_reducible apply (wpl_guard (op := .indexAddr _ _ _))); (exact rfl)) | ((with_reducible apply (wpl_guard (op := .convert _ _ _))); (exact rfl)) | ((with_reducible apply (wpl_loadB (t := 5))); (exact rfl); (exact inferInstance); (exact inferInstance); (exact hd0)) | ((with_reducible apply wpl_loadcellN); (exact rfl); (exact inferInstance); (exact rfl)) | ((with_reducible apply wpl_indexB0); (exact rfl); (exact inferInstance); (exact inferInstance); (exact hgn); (exact h01)) | ((with_reducible apply wpl_putMI); (exact rfl); (exact rfl); (exact rfl); (exact inferInstance); (exact inferInstance); (exact HLT.out); (exact hKw); intro wp _ hI2))
            refine wp_region_N (nowhere) (by kernel_rfl) (fun wd _ _ => ?_)
            refine' takeH (i := 0) (v := _) rfl (by kernel_rfl) (by kernel_rfl) (by kernel_rfl) (fun _ _ _ h => h) (yields_of (by rfl) (fun w' _ => ?_)) inferInstance ?_
            rotate_left
            · (first | (go_simp; exact if_neg hn0) | (go_simp; try with_reducible rfl))
            try simp only [Act.put, List.setIfInBounds_toArray]; try simp only [List.set_cons_succ, List.set_cons_zero]
            refine' takeH (i := 1) (v := _) rfl (by kernel_rfl) (by kernel_rfl) (by kernel_rfl) (fun _ _ _ h => h) (yields_of (by rfl) (fun w' _ => ?_)) inferInstance ?_
            rotate_left
            · (first | ((with_reducible apply (ev_loadI (t := 3))); (exact rfl); (exact inferInstance); (exact inferInstance); (exact hKl)) | (go_simp; exact if_neg hn0) | ((with_reducible apply (ev_loadB (t := 5))); (exact rfl); (exact inferInstance); (exact inferInstance); (first | (with_reducible assumption) | omega)) | ((with_reducible apply ev_loadrow); (exact rfl); (exact inferInstance); (exact inferInstance); (first | (with_reducible assumption) | (with_reducible exact H32.size _) | kernel_rfl)) | ((with_reducible apply (ev_loadhash (t := 64))); (exact rfl); (exact inferInstance); (exact inferInstance); (first | (with_reducible assumption) | omega)) | ((with_reducible apply ev_loadcellN); (exact rfl); (exact inferInstance); (exact inferInstance); (exact rfl)) | ((with_reducible apply (ev_loadint (t := 3))); (exact rfl); (exact inferInstance); (exact inferInstance); (first | (with_reducible assumption) | omega)) | ((with_reducible apply (ev_loadbyte (t := 5))); (exact rfl); (exact inferInstance); (exact inferInstance); (first | (with_reducible assumption) | omega)) | (go_simp; try with_reducible rfl))
            try simp only [Act.put, List.setIfInBounds_toArray]; try simp only [List.set_cons_succ, List.set_cons_zero]
            refine' takeH (i := 2) (v := _) rfl (by kernel_rfl) (by kernel_rfl) (by kernel_rfl) (fun _ _ _ h => h) (yields_of (by rfl) (fun w' _ => ?_)) inferInstance ?_
            rotate_left
            · (first | (go_simp; exact if_neg hn0) | (go_simp; try with_reducible rfl))
            try simp only [Act.put, List.setIfInBounds_toArray]; try simp only [List.set_cons_succ, List.set_cons_zero]
            refine' takeH (i := 3) (v := _) rfl (by kernel_rfl) (by kernel_rfl) (by kernel_rfl) (fun _ _ _ h => h) (yields_of (by rfl) (fun w' _ => ?_)) inferInstance ?_
            rotate_left
            · (first | ((with_reducible apply (ev_loadI (t := 3))); (exact rfl); (exact inferInstance); (exact inferInstance); (exact hKl)) | (go_simp; exact if_neg hn0) | ((with_reducible apply (ev_loadB (t := 5))); (exact rfl); (exact inferInstance); (exact inferInstance); (first | (with_reducible assumption) | omega)) | ((with_reducible apply ev_loadrow); (exact rfl); (exact inferInstance); (exact inferInstance); (first | (with_reducible assumption) | (with_reducible exact H32.size _) | kernel_rfl)) | ((with_reducible apply (ev_loadhash (t := 64))); (exact rfl); (exact inferInstance); (exact inferInstance); (first | (with_reducible assumption) | omega)) | ((with_reducible apply ev_loadcellN); (exact rfl); (exact inferInstance); (exact inferInstance); (exact rfl)) | ((with_reducible apply (ev_loadint (t := 3))); (exact rfl); (exact inferInstance); (exact inferInstance); (first | (with_reducible assumption) | omega)) | ((with_reducible apply (ev_loadbyte (t := 5))); (exact rfl); (exact inferInstance); (exact inferInstance); (first | (with_reducible assumption) | omega)) | (go_simp; try with_reducible rfl))
            try simp only [Act.put, List.setIfInBounds_toArray]; try simp only [List.set_cons_succ, List.set_cons_zero]
            refine' takeH (i := 4) (v := _) rfl (by kernel_rfl) (by kernel_rfl) (by kernel_rfl) (fun _ _ _ h => h) (yields_of (by rfl) (fun w' _ => ?_)) inferInstance ?_
            rotate_left
            · (first | ((with_reducible apply ev_indexI); (exact rfl); (exact rfl); (exact inferInstance); (exact inferInstance); (exact HL.out); (exact hKn)) | (go_simp; exact if_neg hn0) | ((with_reducible apply ev_indexB0); (exact rfl); (exact inferInstance); (exact inferInstance); (first | (with_reducible assumption) | omega); (first | (with_reducible assumption) | omega)) | ((with_reducible apply ev_indexB); (exact rfl); (exact rfl); (exact inferInstance); (exact inferInstance); (first | (with_reducible assumption) | omega); (first | (with_reducible assumption) | omega)) | ((with_reducible apply ev_indexSN); (exact rfl); (exact rfl); (exact inferInstance); (first | (with_reducible assumption) | omega)) | ((with_reducible apply ev_indexS); (exact rfl); (exact rfl); (exact inferInstance); (first | (with_reducible assumption) | omega); (first | (with_reducible assumption) | omega)) | ((with_reducible apply ev_indexArr); (exact rfl); (exact rfl); (exact Try.underlying64); (kernel_rfl); (first | (with_reducible assumption) | omega); (first | (with_reducible assumption) | omega)) | ((with_reducible apply ev_indexH'); (exact rfl); (exact rfl); (exact inferInstance); (exact inferInstance); (first | (with_reducible assumption) | omega); (first | (with_reducible assumption) | omega); (first | (with_reducible assumption) | omega)) | ((with_reducible apply ev_indexH); (exact rfl); (exact rfl); (exact inferInstance); (exact inferInstance); (first | (with_reducible assumption) | omega); (first | (with_reducible assumption) | omega)) | (go_simp; try with_reducible rfl))
            try simp only [Act.put, List.setIfInBounds_toArray]; try simp only [List.set_cons_succ, List.set_cons_zero]
            refine' takeH (i := 5) (v := _) rfl (by kernel_rfl) (by kernel_rfl) (by kernel_rfl) (fun _ _ _ h => h) (yields_of (by rfl) (fun w' _ => ?_)) inferInstance ?_
            rotate_left
            · (first | ((with_reducible apply (ev_loadI (t := 3))); (exact rfl); (exact inferInstance); (exact inferInstance); (exact hKl)) | (go_simp; exact if_neg hn0) | ((with_reducible apply (ev_loadB (t := 5))); (exact rfl); (exact inferInstance); (exact inferInstance); (first | (with_reducible assumption) | omega)) | ((with_reducible apply ev_loadrow); (exact rfl); (exact inferInstance); (exact inferInstance); (first | (with_reducible assumption) | (with_reducible exact H32.size _) | kernel_rfl)) | ((with_reducible apply (ev_loadhash (t := 64))); (exact rfl); (exact inferInstance); (exact inferInstance); (first | (with_reducible assumption) | omega)) | ((with_reducible apply ev_loadcellN); (exact rfl); (exact inferInstance); (exact inferInstance); (exact rfl)) | ((with_reducible apply (ev_loadint (t := 3))); (exact rfl); (exact inferInstance); (exact inferInstance); (first | (with_reducible assumption) | omega)) | ((with_reducible apply (ev_loadbyte (t := 5))); (exact rfl); (exact inferInstance); (exact inferInstance); (first | (with_reducible assumption) | omega)) | (go_simp; try with_reducible rfl))
            try simp only [Act.put, List.setIfInBounds_toArray]; try simp only [List.set_cons_succ, List.set_cons_zero]
            refine' takeH (i := 6) (v := _) rfl (by kernel_rfl) (by kernel_rfl) (by kernel_rfl) (fun _ _ _ h => h) (yields_of (by rfl) (fun w' _ => ?_)) inferInstance ?_
            rotate_left
            · (first | (go_simp; exact if_neg hn0) | (go_simp; try with_reducible rfl))
            try simp only [Act.put, List.setIfInBounds_toArray]; try simp only [List.set_cons_succ, List.set_cons_zero]
            refine' takeH (i := 7) (v := _) rfl (by kernel_rfl) (by kernel_rfl) (by kernel_rfl) (fun _ _ _ h => h) (yields_of (by rfl) (fun w' _ => ?_)) inferInstance ?_
            rotate_left
            · (first | (go_simp; exact if_neg hn0) | (go_simp; try with_reducible rfl))
            try simp only [Act.put, List.setIfInBounds_toArray]; try simp only [List.set_cons_succ, List.set_cons_zero]
            refine' takeH (i := 8) (v := _) rfl (by kernel_rfl) (by kernel_rfl) (by kernel_rfl) (fun _ _ _ h => h) (yields_of (by rfl) (fun w' _ => ?_)) inferInstance ?_
            rotate_left
            · (first | (go_simp; exact if_neg hn0) | (go_simp; try with_reducible rfl))
            try simp only [Act.put, List.setIfInBounds_toArray]; try simp only [List.set_cons_succ, List.set_cons_zero]
            refine wpAnyH_done (by kernel_rfl) ?_ _
            have hC9 : Chg (only gm) w5 wd := (stepC (w0 := w5)).chg
            have hm9 : HMI Try.prog 5 (.bool false) wd gm (if (f ((bget d 0).toNat : Int)).isSome then m else m + 1) (fun x => if x = ((bget d 0).toNat : Int) then some (Value.bool true) else f x) := inferInstance
            have hmw := hm9.out.lt
            have I := HI.out
            have ng7 : ¬ S7 gm := fun hg => (HS7.out gm hg).elim I.ng (fun h => by have := I.ng2; omega)
            have st9 : Step nowhere w wd := ⟨hn5.step hC9 (fun x hx => by rw [show x = gm from hx]; exact I.gw)⟩
            have hlx := List.pairwise_cons.1 I.lx
            have HI3 : ∀ pl : Int, pl = ((bget d 0).toNat : Int) → Hid (OrdInv ids n wd w z gm (i + 1) gy pl S7 fr' (fun x => if x = ((bget d 0).toNat : Int) then some (Value.bool true) else f x) (if (f ((bget d 0).toNat : Int)).isSome then m else m + 1)) := fun pl hpl => Lib.hid ⟨hB77.out.calm hC9 (fun x hx hk => ng7 (by rw [← show x = gm from hk]; exact hx)), fun x hx => (HS7.out x hx).elim (I.ls x) (fun h => Nat.le_trans stw.chg.size h), ng7, hmw, I.gw, hlx.2, by have h1 : i + (fr'.length + 1) = n := I.len; omega, fun x hx => I.all x (List.mem_cons_of_mem _ hx), fun x hx => by
                have h1 := (hlx.1 x hx).2
                have h2 : (bget d 0).toNat ≠ dn x := h1
                show (if (dn x : Int) = ((bget d 0).toNat : Int) then some (Value.bool true) else f (dn x)) = none
                rw [if_neg (by omega)]
                exact I.map x (List.mem_cons_of_mem _ hx), fun x hx => by
                have h1 := (hlx.1 x hx).1
                have h2 : gy < x.1 ∨ (gy = x.1 ∧ (bget d 0).toNat < dn x) := h1
                omega, by
                rw [HGY.out]
                exact ⟨Int.le_trans (by decide) (gI_in ids (bget d 0).toNat).1, (gI_in ids (bget d 0).toNat).2⟩, by
                have h1 := I.m0
                split <;> omega⟩
            clear I hlx hC9 hmw ng7
            go_wp2_with fail
            exact ⟨⟨i + 1, gy, _, S7, fr', _, _, by omega, rfl, rfl, rfl, st9, hm9, HI3 _ (by first | exact HWR.out | rfl)⟩, by simp [intOf]; omega⟩
        · have hltI : ¬ (i : Int) < n := by omega
          have hfr : fr = [] := List.eq_nil_of_length_eq_zero (by have := HI.out.len; omega)
          have hB0 : BS wr z S n [] := hfr ▸ HI.out.bs
          clear hfr
          go_wp2_with fail
          refine (nextNone_calls hB0).mono ?_
          rintro e w5 ⟨rfl, hs5, hB5⟩
          go_wp2_with (first | go_skip | ((with_reducible apply (wpl_alloc (dst := some 11))); intro zg wzg _ _ _) | ((with_reducible apply wpl_alloc); intro z wz _ _ _) | ((with_reducible apply (wpl_guard (op := .load _ _))); (exact rfl)) | ((with_reducible apply (wpl_guard (op := .indexAddr _ _ _))); (exact rfl)) | ((with_reducible apply (wpl_guard (op := .fieldAddr _ _ _))); (exact rfl)) | ((with_reducible apply (wpl_guard (op := .convert _ _ _))); (exact rfl)) | ((with_reducible apply wpl_loadrow); (exact rfl); (exact inferInstance); (exact inferInstance); (first | (with_reducible assumption) | (with_reducible exact H32.size _) | kernel_rfl)) | ((with_reducible apply wpl_loadcellN); (exact rfl); (exact inferInstance); (exact rfl)) | ((with_reducible apply wpl_storerow); (exact rfl); (exact rfl); (exact inferInstance); (exact inferInstance); (first | (with_reducible assumption) | (with_reducible exact H32.size _) | kernel_rfl); (first | (with_reducible assumption) | (with_reducible exact H32.size _) | kernel_rfl); (first | (with_reducible exact u8s_one _) | (with_reducible assumption) | kernel_rfl); intro ws _ _) | ((with_reducible apply wpl_storecell); (exact rfl); (exact rfl); (exact inferInstance); (exact rfl); (first | (with_reducible assumption) | omega | (focus (simp; done)) | (focus (simp; omega; done)) | decide); intro ws _ _))
          refine (lenB_calls (hB5.calm (stepN (w0 := w5) (w := ws)).chg (fun _ _ hk => hk))).mono ?_
          rintro e w6 ⟨rfl, rfl⟩
          go_wp2_with fail
          refine (known_calls _).mono ?_
          rintro e w7 ⟨rfl, hs7⟩
          go_wp2_with fail
          go_ret
          exact ⟨rfl, ((stw.chg.trans hs5.chg (fun _ _ h => h)).trans (stepN (w0 := w5) (w := ws)).chg (fun _ _ h => h)).trans hs7.chg (fun _ _ h => h)⟩
end Go.Proofs.Ythoipeamdolfgaa
