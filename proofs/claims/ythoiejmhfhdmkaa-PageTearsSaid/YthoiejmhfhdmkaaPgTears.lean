/- What tears is done up to its tear (the law PageTears). -/
import Derived.Test.YthoiejmhfhdmkaaPgLive
open Go Go.RowKit
namespace Go.Proofs.Ythoiejmhfhdmkaa
theorem pageOf_tornE {ps : List UInt8} {t : Nat} (h : ps.length = 64 * 2) (ht : t ≤ 64) : pageOf (erD ps 0 t) 0 = List.replicate t 255 ++ (pageOf ps 0).drop t := by
  have := page_patch_same (s := ⟨ps, false, false, 0, 0, 0⟩) (N := 2) (i := 0) (ys := List.replicate t 255) h (by decide) (by simpa using ht)
  rw [List.length_replicate] at this
  exact this
theorem pageOf_tornP {ps b : List UInt8} {m : Nat} (h : ps.length = 64 * 2) (hm : m ≤ 64) (hb : m ≤ b.length) : pageOf (prD b ps 0 m) 0 = fall ((pageOf ps 0).take m) (b.take m) ++ (pageOf ps 0).drop m := by
  have := page_patch_same (s := ⟨ps, false, false, 0, 0, 0⟩) (N := 2) (i := 0) (ys := fall ((ps.drop 0).take m) (b.take m)) h (by decide) (by simp [fall]; omega)
  have e : (ps.drop 0).take m = (pageOf ps 0).take m := by
    unfold pageOf
    simp [List.take_take, Nat.min_eq_left hm]
  have e2 : (fall ((pageOf ps 0).take m) (b.take m)).length = m := by
    have : (pageOf ps 0).length = 64 := pageOf_len h (by decide)
    simp [fall]
    omega
  rw [e] at this
  rw [e2] at this
  unfold prD
  rw [e]
  exact this
theorem tornE_get {P : List UInt8} {t k : Nat} : (List.replicate t (255 : UInt8) ++ P.drop t)[k]? = if k < t then some 255 else P[k]? := by
  split
  · rw [List.getElem?_append_left (by simpa), List.getElem?_replicate, if_pos (by assumption)]
  · rw [List.getElem?_append_right (by simp; omega), List.getElem?_drop, List.length_replicate]
    congr 1
    omega
theorem tornP_get {P b : List UInt8} {m k : Nat} (h : P.length = 64) (hm : m ≤ 64) (hb : m ≤ b.length) {x : UInt8} (hx : P[k]? = some x) : (fall (P.take m) (b.take m) ++ P.drop m)[k]? = if k < m then (b[k]?).map (x &&& ·) else some x := by
  have hl : (fall (P.take m) (b.take m)).length = m := by simp [fall]; omega
  split
  · rw [List.getElem?_append_left (by omega)]
    unfold fall
    rw [List.getElem?_zipWith, List.getElem?_take, if_pos (by assumption), List.getElem?_take, if_pos (by assumption), hx]
    rcases b[k]? with _ | _ <;> rfl
  · rw [List.getElem?_append_right (by omega), List.getElem?_drop, hl, ← hx]
    congr 1
    omega
theorem make64 (w : World) : (Instr.makeSlice 50 (.int .i64 64) (.int .i64 64)).run Try.prog w = .ok (.slice (some ⟨w.heap.size, 0, none⟩) 64 64) (w.alloc (.cells (noughtCells 64) 5)) := by
  obtain ⟨i, hi, hz, hs, hb⟩ := info_parts elemB.info
  have h := run_make_rowN (P := Try.prog) 50 5 i _ Try.underlying50 hi hz .i64 .i64 64 64 (Nat.le_refl _) (by rw [hb]; omega) (by omega) w
  have e : madeCells (Value.int .u8 0).cells (64 * 1) = noughtCells 64 := made_noughts (Value.int .u8 0).cells (fun i hi => by
    have h1 : i < 1 := hi
    obtain rfl : i = 0 := by omega
    rfl) (by decide) _
  rw [hs, e] at h
  exact h
attribute [local go_sem] make64
set_option maxRecDepth 100000 in
set_option maxHeartbeats 1600000 in
theorem pageTears_calls (A : Option Addr) (n c : Nat) (xs : List UInt8) (t : Int) (er : Bool) (w : World) (ha : Rd w A (bs xs)) (hn : xs.length = n) (hn9 : n ≤ 9223372036854775807) :
    Calls Try.prog 14 #[.slice A n c, .int .i64 t, .bool er] w fun e w' => e = .returned (.bool true) ∧ Chg nowhere w w' := by
  have HA := Lib.hid ha
  have HN := Lib.hid hn
  clear ha hn
  by_cases h1 : 64 < n
  · have e1 : (64 : Int) < n := by omega
    go_enter Try.func14, Try.ntmps14
    go_wp2_with fail
    go_ret
    exact ⟨rfl, Chg.refl _ _⟩
  · have e1 : ¬ (64 : Int) < n := by omega
    by_cases h2 : t < 0
    · go_enter Try.func14, Try.ntmps14
      go_wp2_with fail
      go_ret
      exact ⟨rfl, Chg.refl _ _⟩
    · by_cases h3 : 64 < t
      · go_enter Try.func14, Try.ntmps14
        go_wp2_with fail
        go_ret
        exact ⟨rfl, Chg.refl _ _⟩
      · obtain ⟨t, rfl⟩ := Int.eq_ofNat_of_zero_le (show 0 ≤ t by omega)
        have h0 : (0 : Int) ≤ t := by omega
        have h4 : (t : Int) ≤ 64 := by omega
        rcases er with _ | _
        · go_enter Try.func14, Try.ntmps14
          go_wp2_with fail
          refine (New_calls 2 _ (by decide) (by decide)).mono ?_
          rintro e w1 ⟨g, p, rfl, k1, hc1, hg, hp⟩
          have HL1 := Lib.hid (Live.new k1.out)
          have HC1 := hc1
          have HTWO : Hid (∀ x, Two g p x → w.heap.size ≤ x) := Lib.hid (by rintro x (rfl | rfl) <;> assumption)
          clear k1 hc1
          go_wp2_with fail
          have hgl := HL1.out.lts
          have HN1 : Hid (Live (w1.alloc (.cells (noughtCells 64) 5)) g p 2 (ones (64 * 2))) := Lib.hid (HL1.out.calm ((Chg.refl _ _).alloc _))
          have HCN : Hid (Chg nowhere w (w1.alloc (.cells (noughtCells 64) 5))) := Lib.hid (HC1.out.alloc _)
          have HRN : Hid (Rd (w1.alloc (.cells (noughtCells 64) 5)) (some ⟨w1.heap.size, 0, none⟩) (bs (noughts 64))) := Lib.hid (Rd.lit _ _ _)
          refine (Live_program g p 2 _ 0 _ 64 64 (noughts 64) _ HN1.out (by decide) HRN.out (by simp [noughts]) ?_ (by decide)).mono ?_
          · rintro _ ad e (h | h)
            · injection e with e; subst e; have h' : w1.heap.size = g := h; omega
            · injection e with e; subst e; have h' : w1.heap.size = p := h; omega
          rintro e w2 ⟨rfl, k2, c2⟩
          have HC2 := Lib.hid (HCN.out.step c2.out HTWO.out)
          clear c2 HN1 HRN HCN hgl
          generalize prD (noughts 64) (ones (64 * 2)) (0 * 64) (noughts 64).length = ps2 at *
          go_wp2_with fail
          refine (Live_erase g p 2 _ 0 _ k2.out (by decide)).mono ?_
          rintro e w3 ⟨rfl, k3, c3⟩
          have HC3 := Lib.hid (HC2.out.step c3.out HTWO.out)
          clear c3 k2
          generalize erD ps2 (0 * 64) 64 = ps3 at *
          go_wp2_with fail
          have hlen3 := k3.out.lts.2.2
          refine (Live_read g p 2 _ 0 _ k3.out (by decide)).mono ?_
          rintro e w4 ⟨gx, cx, rfl, ox, c4, hgx⟩
          have HC4 := Lib.hid (HC3.out.step c4.out (fun _ h => h.elim))
          have HL4 := Lib.hid (k3.out.calm c4.out)
          have hz3 := k3.out.lts
          have hgx' : w3.heap.size ≤ gx := hgx.out
          clear c4 k3
          go_wp2_with fail
          obtain ⟨s, hs, rfl, hsd, hsf, hsc⟩ := HL4.out.at_
          refine (Fuse_calls g p 2 s 0 t _ hs (by decide)).mono ?_
          rintro e w5 ⟨rfl, k5, c5⟩
          have HC5 := Lib.hid (HC4.out.step c5.out HTWO.out)
          have hFAR : ∀ ad, (some ⟨gx, 0, none⟩ : Option Addr) = some ad → ¬ Two g p ad.block := by
            intro ad e hT
            injection e with e; subst e
            rcases hT with h | h
            · have h' : gx = g := h; omega
            · have h' : gx = p := h; omega
          have HFAR := Lib.hid hFAR
          have HX5 := Lib.hid (ox.out.chg c5.out hFAR)
          have htt : (min (max (t : Int) 0) 64).toNat = t := by omega
          rw [htt] at k5
          clear c5 hs HL4 htt hFAR
          go_wp2_with fail
          refine (Program_calls g p 2 _ 0 A n c xs _ k5.out (HA.out.later HC5.out) HN.out (HA.out.apart HTWO.out) hn9).mono ?_
          rintro e w6 ⟨rfl, k6, c6⟩
          have HC6 := Lib.hid (HC5.out.step c6.out HTWO.out)
          have HX6 := Lib.hid (HX5.out.chg c6.out HFAR.out)
          have hch : FS.change 2 { s with fused := decide ((0 : Int) ≤ 0), left := 0, tear := t } 0 n (prD xs) = (11, { s with fused := true, left := 0, tear := t, pages := (prD xs) s.pages 0 (min n t), dead := true }) := by
            unfold FS.change
            rw [if_neg (by simp [hsd]), if_neg (by omega)]
            simp [FS.burn]
          rw [hch] at k6 ⊢
          clear c6 k5 hch HX5
          go_wp2_with fail
          have hmin : min n t ≤ 64 := by omega
          refine (Read_yes g p 2 _ 0 _ k6.out (by decide)).mono ?_
          rintro e w7 ⟨A7, c7, rfl, oz, d7, hgz⟩
          have HC7 := Lib.hid (HC6.out.step d7.out (fun _ h => h.elim))
          have HX7 := Lib.hid (HX6.out.chg d7.out (fun _ _ h => h))
          have HK7 := Lib.hid (k6.out.calm d7.out)
          have hpg : FS.page { s with fused := true, left := 0, tear := t, pages := prD xs s.pages 0 (min n t), dead := true } 0 = fall ((pageOf s.pages 0).take (min n t)) (xs.take (min n t)) ++ (pageOf s.pages 0).drop (min n t) := pageOf_tornP hlen3 hmin (by have := HN.out; omega)
          rw [hpg] at oz
          have hpl := pageOf_len hlen3 (show 0 < 2 by decide)
          have HPL := Lib.hid hpl
          rcases oz.out.form with ⟨_, h, _⟩ | ⟨gz, cur, rfl, _⟩
          · cases h
          clear d7 k6 HX6 hpg hgz
          go_wp2_with fail
          refine (Dead_calls g p 2 _ _ HK7.out).mono ?_
          rintro e w8 ⟨rfl, rfl⟩
          go_wp2_with fail
          generalize hP : pageOf s.pages 0 = P at *
          clear hP
          go_loop [13, 14] (fun ti _ => ∃ k : Nat, k ≤ 64 ∧ ti = .int .i64 k) (fun ti _ => 64 - (intOf ti).toNat)
          case atStart => exact ⟨0, Nat.zero_le _, rfl⟩
          case round =>
            obtain ⟨k, hk, rfl⟩ := hrel
            by_cases hlt : k < 64
            · have f1 : (k : Int) < 64 := by omega
              have f0 : (0 : Int) ≤ k := by omega
              obtain ⟨ax, x, ex, hx, hcx⟩ := HX7.out.rd.byte (k := k) (by have := HPL.out; omega)
              obtain ⟨az, z, ez, hz, hcz⟩ := oz.out.rd.byte (k := k) (by have := HPL.out; have := HN.out; simp [fall]; omega)
              injection ex with ex
              injection ez with ez
              subst ex; subst ez
              rw [add_row] at hcx hcz
              rw [tornP_get HPL.out hmin (by have := HN.out; omega) hx] at hz
              by_cases hkt : k < t
              · have q0 : (k : Int) < t := by omega
                by_cases hkn : k < n
                · have q1 : (k : Int) < n := by omega
                  obtain ⟨ab, b, rfl, hb, hcb⟩ := (HA.out.later HC7.out).byte (k := k) (by have := HN.out; omega)
                  rw [if_pos (by omega), hb] at hz
                  injection hz with hz
                  subst hz
                  have q2 := u8_and_eq x b
                  clear hb hx
                  go_wp2_with fail
                  exact ⟨⟨k + 1, by omega, by go_num⟩, by simp [intOf]; omega⟩
                · have q1 : (n : Int) ≤ k := by omega
                  rw [if_neg (by omega)] at hz
                  injection hz with hz
                  subst hz
                  clear hx
                  go_wp2_with fail
                  exact ⟨⟨k + 1, by omega, by go_num⟩, by simp [intOf]; omega⟩
              · have q0 : (t : Int) ≤ k := by omega
                rw [if_neg (by omega)] at hz
                injection hz with hz
                subst hz
                clear hx
                go_wp2_with fail
                exact ⟨⟨k + 1, by omega, by go_num⟩, by simp [intOf]; omega⟩
            · have f1 : (64 : Int) ≤ k := by omega
              go_wp2_with fail
              refine (Erase_calls g p 2 _ 0 _ HK7.out).mono ?_
              rintro e w9 ⟨rfl, k9, c9⟩
              have HC9 := Lib.hid (HC7.out.step c9.out HTWO.out)
              rw [show ∀ (s : FS) (N : Nat) (i : Int) (n : Nat) (f : Deed), s.dead = true → s.change N i n f = (11, s) from fun s N i n f h => by unfold FS.change; rw [if_pos h]] at k9 ⊢
              rotate_left
              · rfl
              · rfl
              clear c9
              go_wp2_with fail
              refine (Program_calls g p 2 _ 9 none 0 0 [] _ k9.out (Rd.nil _ _) rfl (by rintro _ ad e; cases e) (by decide)).mono ?_
              rintro e wa ⟨rfl, ka, ca⟩
              have HCa := Lib.hid (HC9.out.step ca.out HTWO.out)
              rw [show ∀ (s : FS) (N : Nat) (i : Int) (n : Nat) (f : Deed), s.dead = true → s.change N i n f = (11, s) from fun s N i n f h => by unfold FS.change; rw [if_pos h]] at ka ⊢
              rotate_left
              · rfl
              · rfl
              clear ca k9
              go_wp2_with fail
              refine (Boot_calls g p 2 _ _ ka.out).mono ?_
              rintro e wb ⟨rfl, kb, cb⟩
              have HCb := Lib.hid (HCa.out.step cb.out HTWO.out)
              clear cb ka
              go_wp2_with fail
              refine (Erase_calls g p 2 _ 0 _ kb.out).mono ?_
              rintro e wc ⟨rfl, kc, cc⟩
              have HCc := Lib.hid (HCb.out.step cc.out HTWO.out)
              rw [show ((0 : Int)) = ((0 : Nat) : Int) from rfl, FS.change_plain rfl rfl (by decide) (by decide)] at kc ⊢
              clear cc kb
              go_wp2_with fail
              refine (Dead_calls g p 2 _ _ kc.out).mono ?_
              rintro e wd ⟨rfl, rfl⟩
              go_wp2_with fail
              refine (pgKnown_calls _).mono ?_
              rintro e we ⟨rfl, h9⟩
              have HC0 := Lib.hid (HCc.out.step h9.out (fun _ h => h.elim))
              go_wp2_with fail
              go_ret
              exact ⟨rfl, HC0.out⟩
        · go_enter Try.func14, Try.ntmps14
          go_wp2_with fail
          refine (New_calls 2 _ (by decide) (by decide)).mono ?_
          rintro e w1 ⟨g, p, rfl, k1, hc1, hg, hp⟩
          have HL1 := Lib.hid (Live.new k1.out)
          have HC1 := hc1
          have HTWO : Hid (∀ x, Two g p x → w.heap.size ≤ x) := Lib.hid (by rintro x (rfl | rfl) <;> assumption)
          clear k1 hc1
          go_wp2_with fail
          have hgl := HL1.out.lts
          have HN1 : Hid (Live (w1.alloc (.cells (noughtCells 64) 5)) g p 2 (ones (64 * 2))) := Lib.hid (HL1.out.calm ((Chg.refl _ _).alloc _))
          have HCN : Hid (Chg nowhere w (w1.alloc (.cells (noughtCells 64) 5))) := Lib.hid (HC1.out.alloc _)
          have HRN : Hid (Rd (w1.alloc (.cells (noughtCells 64) 5)) (some ⟨w1.heap.size, 0, none⟩) (bs (noughts 64))) := Lib.hid (Rd.lit _ _ _)
          refine (Live_program g p 2 _ 0 _ 64 64 (noughts 64) _ HN1.out (by decide) HRN.out (by simp [noughts]) ?_ (by decide)).mono ?_
          · rintro _ ad e (h | h)
            · injection e with e; subst e; have h' : w1.heap.size = g := h; omega
            · injection e with e; subst e; have h' : w1.heap.size = p := h; omega
          rintro e w2 ⟨rfl, k2, c2⟩
          have HC2 := Lib.hid (HCN.out.step c2.out HTWO.out)
          clear c2 HN1 HRN HCN hgl
          generalize prD (noughts 64) (ones (64 * 2)) (0 * 64) (noughts 64).length = ps2 at *
          go_wp2_with fail
          obtain ⟨w3, hw3⟩ : ∃ x, x = w2 := ⟨_, rfl⟩
          obtain ⟨ps3, hps3⟩ : ∃ x, x = ps2 := ⟨_, rfl⟩
          rw [← hw3]
          rw [← hw3, ← hps3] at k2
          rw [← hw3] at HC2
          have k3 := k2
          have HC3 := HC2
          clear k2 HC2 hw3 hps3
          have hlen3 := k3.out.lts.2.2
          refine (Live_read g p 2 _ 0 _ k3.out (by decide)).mono ?_
          rintro e w4 ⟨gx, cx, rfl, ox, c4, hgx⟩
          have HC4 := Lib.hid (HC3.out.step c4.out (fun _ h => h.elim))
          have HL4 := Lib.hid (k3.out.calm c4.out)
          have hz3 := k3.out.lts
          have hgx' : w3.heap.size ≤ gx := hgx.out
          clear c4 k3
          go_wp2_with fail
          obtain ⟨s, hs, rfl, hsd, hsf, hsc⟩ := HL4.out.at_
          refine (Fuse_calls g p 2 s 0 t _ hs (by decide)).mono ?_
          rintro e w5 ⟨rfl, k5, c5⟩
          have HC5 := Lib.hid (HC4.out.step c5.out HTWO.out)
          have hFAR : ∀ ad, (some ⟨gx, 0, none⟩ : Option Addr) = some ad → ¬ Two g p ad.block := by
            intro ad e hT
            injection e with e; subst e
            rcases hT with h | h
            · have h' : gx = g := h; omega
            · have h' : gx = p := h; omega
          have HFAR := Lib.hid hFAR
          have HX5 := Lib.hid (ox.out.chg c5.out hFAR)
          have htt : (min (max (t : Int) 0) 64).toNat = t := by omega
          rw [htt] at k5
          clear c5 hs HL4 htt hFAR
          go_wp2_with fail
          refine (Erase_calls g p 2 _ 0 _ k5.out).mono ?_
          rintro e w6 ⟨rfl, k6, c6⟩
          have HC6 := Lib.hid (HC5.out.step c6.out HTWO.out)
          have HX6 := Lib.hid (HX5.out.chg c6.out HFAR.out)
          have hch : FS.change 2 { s with fused := decide ((0 : Int) ≤ 0), left := 0, tear := t } 0 64 erD = (11, { s with fused := true, left := 0, tear := t, pages := erD s.pages 0 (min 64 t), dead := true }) := by
            unfold FS.change
            rw [if_neg (by simp [hsd]), if_neg (by omega)]
            simp [FS.burn]
          rw [hch] at k6 ⊢
          clear c6 k5 hch HX5
          go_wp2_with fail
          have hmin : min 64 t ≤ 64 := by omega
          refine (Read_yes g p 2 _ 0 _ k6.out (by decide)).mono ?_
          rintro e w7 ⟨A7, c7, rfl, oz, d7, hgz⟩
          have HC7 := Lib.hid (HC6.out.step d7.out (fun _ h => h.elim))
          have HX7 := Lib.hid (HX6.out.chg d7.out (fun _ _ h => h))
          have HK7 := Lib.hid (k6.out.calm d7.out)
          have hpg : FS.page { s with fused := true, left := 0, tear := t, pages := erD s.pages 0 (min 64 t), dead := true } 0 = List.replicate (min 64 t) 255 ++ (pageOf s.pages 0).drop (min 64 t) := pageOf_tornE hlen3 hmin
          rw [hpg] at oz
          have hpl := pageOf_len hlen3 (show 0 < 2 by decide)
          have HPL := Lib.hid hpl
          rcases oz.out.form with ⟨_, h, _⟩ | ⟨gz, cur, rfl, _⟩
          · cases h
          clear d7 k6 HX6 hpg hgz
          go_wp2_with fail
          refine (Dead_calls g p 2 _ _ HK7.out).mono ?_
          rintro e w8 ⟨rfl, rfl⟩
          go_wp2_with fail
          generalize hP : pageOf s.pages 0 = P at *
          clear hP
          go_loop [13, 14] (fun ti _ => ∃ k : Nat, k ≤ 64 ∧ ti = .int .i64 k) (fun ti _ => 64 - (intOf ti).toNat)
          case atStart => exact ⟨0, Nat.zero_le _, rfl⟩
          case round =>
            obtain ⟨k, hk, rfl⟩ := hrel
            by_cases hlt : k < 64
            · have f1 : (k : Int) < 64 := by omega
              have f0 : (0 : Int) ≤ k := by omega
              obtain ⟨ax, x, ex, hx, hcx⟩ := HX7.out.rd.byte (k := k) (by have := HPL.out; omega)
              obtain ⟨az, z, ez, hz, hcz⟩ := oz.out.rd.byte (k := k) (by have := HPL.out; simp; omega)
              injection ex with ex
              injection ez with ez
              subst ex; subst ez
              rw [add_row] at hcx hcz
              rw [tornE_get] at hz
              by_cases hkt : k < t
              · have q0 : (k : Int) < t := by omega
                rw [if_pos (by omega)] at hz
                injection hz with hz
                subst hz
                clear hx
                have hcz' : w8.cell? ⟨gz, k, none⟩ = some (.int .u8 255) := hcz
                clear hcz
                go_wp2_with fail
                exact ⟨⟨k + 1, by omega, by go_num⟩, by simp [intOf]; omega⟩
              · have q0 : (t : Int) ≤ k := by omega
                rw [if_neg (by omega), hx] at hz
                injection hz with hz
                subst hz
                clear hx
                go_wp2_with fail
                exact ⟨⟨k + 1, by omega, by go_num⟩, by simp [intOf]; omega⟩
            · have f1 : (64 : Int) ≤ k := by omega
              go_wp2_with fail
              refine (Erase_calls g p 2 _ 0 _ HK7.out).mono ?_
              rintro e w9 ⟨rfl, k9, c9⟩
              have HC9 := Lib.hid (HC7.out.step c9.out HTWO.out)
              rw [show ∀ (s : FS) (N : Nat) (i : Int) (n : Nat) (f : Deed), s.dead = true → s.change N i n f = (11, s) from fun s N i n f h => by unfold FS.change; rw [if_pos h]] at k9 ⊢
              rotate_left
              · rfl
              · rfl
              clear c9
              go_wp2_with fail
              refine (Program_calls g p 2 _ 9 none 0 0 [] _ k9.out (Rd.nil _ _) rfl (by rintro _ ad e; cases e) (by decide)).mono ?_
              rintro e wa ⟨rfl, ka, ca⟩
              have HCa := Lib.hid (HC9.out.step ca.out HTWO.out)
              rw [show ∀ (s : FS) (N : Nat) (i : Int) (n : Nat) (f : Deed), s.dead = true → s.change N i n f = (11, s) from fun s N i n f h => by unfold FS.change; rw [if_pos h]] at ka ⊢
              rotate_left
              · rfl
              · rfl
              clear ca k9
              go_wp2_with fail
              refine (Boot_calls g p 2 _ _ ka.out).mono ?_
              rintro e wb ⟨rfl, kb, cb⟩
              have HCb := Lib.hid (HCa.out.step cb.out HTWO.out)
              clear cb ka
              go_wp2_with fail
              refine (Erase_calls g p 2 _ 0 _ kb.out).mono ?_
              rintro e wc ⟨rfl, kc, cc⟩
              have HCc := Lib.hid (HCb.out.step cc.out HTWO.out)
              rw [show ((0 : Int)) = ((0 : Nat) : Int) from rfl, FS.change_plain rfl rfl (by decide) (by decide)] at kc ⊢
              clear cc kb
              go_wp2_with fail
              refine (Dead_calls g p 2 _ _ kc.out).mono ?_
              rintro e wd ⟨rfl, rfl⟩
              go_wp2_with fail
              refine (pgKnown_calls _).mono ?_
              rintro e we ⟨rfl, h9⟩
              have HC0 := Lib.hid (HCc.out.step h9.out (fun _ h => h.elim))
              go_wp2_with fail
              go_ret
              exact ⟨rfl, HC0.out⟩
end Go.Proofs.Ythoiejmhfhdmkaa
