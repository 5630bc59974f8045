/- PgC -/
import Derived.Test.YtegdihpnefoolaaTjPg
open Go Go.RowKit
namespace Go.Proofs.Ytegdihpnefoolaa
theorem eraseFn_calls (p o n c : Nat) (e : TypeId) (xs : List UInt8) (w : World) (h : BlkB w p e xs) (hn : o + n ≤ xs.length) (hx : n ≤ 1000000000) :
    Calls Try.prog 52 #[.slice (some ⟨p, o, none⟩) n c] w fun en w' => en = .returned (.tuple #[]) ∧ Hid (BlkB w' p e (erD xs o n)) ∧ Hid (Chg (fun k => k = p) w w') := by
  have H := Lib.hid h
  clear h
  go_enter Try.func52, Try.ntmps52
  go_wp2_with fail
  refine (erase_calls p o n c e xs _ H.out hn hx).mono ?_
  rintro e w1 ⟨rfl, h1, h2⟩
  go_wp2_with fail
  go_end0
  exact ⟨rfl, h1, h2⟩
set_option maxRecDepth 100000 in
set_option maxHeartbeats 800000 in
theorem change_erase (g p N : Nat) (s : FS) (i : Int) (n : Nat) (w : World) (h : FlashAt w g p N s) (hn : n ≤ 9223372036854775807) :
    Calls Try.prog 51 #[.pointer (some ⟨g, 0, none⟩), .int .i64 i, .int .i64 n, .func (.func 52) #[] #[]] w fun e w' => e = .returned (.int .i64 (s.change N i n erD).1) ∧
      Hid (FlashAt w' g p N (s.change N i n erD).2) ∧ Hid (Chg (Two g p) w w') := by
  have H := Lib.hid h
  obtain ⟨hc0, hc1, _, _, hc4, hf⟩ := h.cells
  have hf1 := hf 1
  have hok := h.ok
  have hmost := hok.most
  clear hf h
  by_cases hd : s.dead = true
  · have hch : s.change N i n erD = (11, s) := by unfold FS.change; rw [if_pos hd]
    rw [hch]
    rw [hd] at hc1
    clear hch hok hd
    go_enter Try.func51, Try.ntmps51
    go_wp2_with fail
    go_ret
    exact ⟨rfl, H, Chg.refl _ _⟩
  · have hd' : s.dead = false := by simpa using hd
    rw [hd'] at hc1
    by_cases hi : i < 0 ∨ (N : Int) ≤ i
    · have hch : s.change N i n erD = (1, s) := by unfold FS.change; rw [if_neg hd, if_pos (by rcases hi with h | h <;> omega)]
      rw [hch]
      have HI := Lib.hid hi
      clear hch hok hd hd' hi
      go_enter Try.func51, Try.ntmps51
      go_wp2_with fail
      refine (has_no g p N s i _ H.out HI.out).mono ?_
      rintro e w1 ⟨rfl, rfl⟩
      go_wp2_with fail
      go_ret
      exact ⟨rfl, H, Chg.refl _ _⟩
    · obtain ⟨k, rfl⟩ := Int.eq_ofNat_of_zero_le (show 0 ≤ i by omega)
      have hkN : k < N := by omega
      by_cases hn64 : 64 < n
      · have hch : s.change N k n erD = (1, s) := by unfold FS.change; rw [if_neg hd, if_pos (.inr (.inr hn64))]
        rw [hch]
        have e1 : (64 : Int) < n := by omega
        clear hch hok hd hd' hi
        go_enter Try.func51, Try.ntmps51
        go_wp2_with fail
        refine (has_yes g p N s k _ H.out (by omega) (by omega)).mono ?_
        rintro e w1 ⟨rfl, rfl⟩
        go_wp2_with fail
        go_ret
        exact ⟨rfl, H, Chg.refl _ _⟩
      · have e1 : ¬ (64 : Int) < n := by omega
        have hbok := FS.burn_ok hok
        have htear := hok.tear
        have hlen := hok.len
        have hfit := hok.fit
        have HBOK := Lib.hid hbok
        rcases hb : s.burn.1 with _ | _
        · have hch : s.change N k n erD = (0, { s.burn.2 with pages := erD s.pages (k * 64) n }) := by
            unfold FS.change
            rw [if_neg hd, if_neg (by omega), if_neg (by rw [hb]; decide)]
            rfl
          rw [hch]
          have HB := Lib.hid hb
          clear hch hok hd hd' hi hb hbok
          go_enter Try.func51, Try.ntmps51
          go_wp2_with fail
          refine (has_yes g p N s k _ H.out (by omega) (by omega)).mono ?_
          rintro e w1 ⟨rfl, rfl⟩
          go_wp2_with fail
          refine (burns_calls g p N s _ H.out).mono ?_
          rintro e w2 ⟨he, h2, hc2⟩
          rw [HB.out] at he
          subst he
          have hc02 := h2.out.cells.1
          have hE0 : (0 : Int) ≤ k := by omega
          have hE1 : (k : Int) < N := by omega
          have hb2 := h2.out.body
          rw [HBOK.out.2.1] at hb2
          have HB2 := Lib.hid hb2
          have HC2 := Lib.hid (hc2.out.mono (T := Two g p) (fun _ _ h => Or.inl h))
          clear hb2 hc0 hc1 hc4 hf1 hc2
          go_wp2_with fail
          refine (eraseFn_calls p (k * 64) n 64 75 s.pages _ HB2.out (by omega) (by omega)).mono ?_
          rintro e w3 ⟨rfl, h3, h4⟩
          have HP : Hid (FlashAt w3 g p N { s.burn.2 with pages := erD s.pages (k * 64) n }) := Lib.hid ⟨h2.out.head.chg h4.out (fun e => h2.out.ne e.symm), h3.out, h2.out.ne, ⟨by show (erD s.pages (k * 64) n).length = _; rw [erD_len (by omega)]; exact hlen.trans (congrArg (64 * ·) HBOK.out.2.2.2.2.symm), HBOK.out.1.fit, HBOK.out.1.most, HBOK.out.1.tear, HBOK.out.1.left⟩⟩
          have HC3 := Lib.hid (HC2.out.trans h4.out (fun _ _ h => .inr h))
          clear h3 h4
          go_wp2_with fail
          go_ret
          exact ⟨rfl, HP, HC3⟩
        · have hch : s.change N k n erD = (11, { s.burn.2 with pages := erD s.pages (k * 64) (min n s.tear), dead := true }) := by
            unfold FS.change
            rw [if_neg hd, if_neg (by omega), if_pos hb]
            rfl
          rw [hch]
          have HB := Lib.hid hb
          clear hch hok hd hd' hi hb hbok
          go_enter Try.func51, Try.ntmps51
          go_wp2_with fail
          refine (has_yes g p N s k _ H.out (by omega) (by omega)).mono ?_
          rintro e w1 ⟨rfl, rfl⟩
          go_wp2_with fail
          refine (burns_calls g p N s _ H.out).mono ?_
          rintro e w2 ⟨he, h2, hc2⟩
          rw [HB.out] at he
          subst he
          have hc02 := h2.out.cells.1
          have hc42 := h2.out.cells.2.2.2.2.1
          rw [HBOK.out.2.2.1] at hc42
          have hE0 : (0 : Int) ≤ k := by omega
          have hE1 : (k : Int) < N := by omega
          have hb2 := h2.out.body
          rw [HBOK.out.2.1] at hb2
          have HB2 := Lib.hid hb2
          have HC2 := Lib.hid (hc2.out.mono (T := Two g p) (fun _ _ h => Or.inl h))
          clear hb2 hc0 hc1 hc4 hf1 hc2
          by_cases hnt : n ≤ s.tear
          · have e2 : (n : Int) ≤ s.tear := by omega
            have e8 : ¬ s.tear < n := by omega
            have hmm : min n s.tear = n := by omega
            have HMM := Lib.hid hmm
            have e3 : (0 : Int) ≤ n := by omega
            have e4 : (n : Int) ≤ 64 := by omega
            have e5 : (0 : Int) ≤ s.tear := by omega
            have e6 : (s.tear : Int) ≤ 64 := by omega
            have e7 : n ≤ 64 := by omega
            clear hmm
            go_wp2_with fail
            go_still_tail 14, (by kernel_rfl)
            go_wp2_with fail
            refine (eraseFn_calls p (k * 64) n 64 75 s.pages _ (Blk.drewN HB2.out 1) (by omega) (by omega)).mono ?_
            rintro e w3 ⟨rfl, h3, h4⟩
            have hhd := (Blk.drewN h2.out.head 1).chg h4.out (fun (e : g = p) => h2.out.ne e.symm)
            have hc13 : w3.cell? ⟨g, 1, none⟩ = some (.bool s.burn.2.dead) := hhd.cell 1
            have hf13 : w3.frozen? ⟨g, 1, none⟩ = false := hhd.frozen 1
            have HHD := Lib.hid hhd
            have H3 := Lib.hid h3.out
            have HC3 := Lib.hid (Chg.trans (HC2.out.drewN 1) h4.out (fun _ _ h => Or.inr h))
            clear hhd h3 h4
            go_wp2_with fail
            go_ret
            rw [HMM.out]
            refine ⟨rfl, ⟨HHD.out.set_ 1 _, Blk.far H3.out h2.out.ne _, h2.out.ne, ?_⟩, HC3.out.setCell (p := ⟨g, 1, none⟩) (fun _ => Or.inl rfl) _⟩
            exact ⟨by rw [erD_len (by omega)]; exact hlen.trans (congrArg (64 * ·) HBOK.out.2.2.2.2.symm), HBOK.out.1.fit, HBOK.out.1.most, HBOK.out.1.tear, HBOK.out.1.left⟩
          · have e2 : (s.tear : Int) < n := by omega
            have e8 : s.tear < n := by omega
            have hmm : min n s.tear = s.tear := by omega
            have HMM := Lib.hid hmm
            have e3 : (0 : Int) ≤ n := by omega
            have e4 : (n : Int) ≤ 64 := by omega
            have e5 : (0 : Int) ≤ s.tear := by omega
            have e6 : (s.tear : Int) ≤ 64 := by omega
            have e7 : n ≤ 64 := by omega
            clear hmm
            go_wp2_with fail
            go_still_tail 14, (by kernel_rfl)
            go_wp2_with fail
            refine (eraseFn_calls p (k * 64) s.tear 64 75 s.pages _ (Blk.drewN HB2.out 1) (by omega) (by omega)).mono ?_
            rintro e w3 ⟨rfl, h3, h4⟩
            have hhd := (Blk.drewN h2.out.head 1).chg h4.out (fun (e : g = p) => h2.out.ne e.symm)
            have hc13 : w3.cell? ⟨g, 1, none⟩ = some (.bool s.burn.2.dead) := hhd.cell 1
            have hf13 : w3.frozen? ⟨g, 1, none⟩ = false := hhd.frozen 1
            have HHD := Lib.hid hhd
            have H3 := Lib.hid h3.out
            have HC3 := Lib.hid (Chg.trans (HC2.out.drewN 1) h4.out (fun _ _ h => Or.inr h))
            clear hhd h3 h4
            go_wp2_with fail
            go_ret
            rw [HMM.out]
            refine ⟨rfl, ⟨HHD.out.set_ 1 _, Blk.far H3.out h2.out.ne _, h2.out.ne, ?_⟩, HC3.out.setCell (p := ⟨g, 1, none⟩) (fun _ => Or.inl rfl) _⟩
            exact ⟨by rw [erD_len (by omega)]; exact hlen.trans (congrArg (64 * ·) HBOK.out.2.2.2.2.symm), HBOK.out.1.fit, HBOK.out.1.most, HBOK.out.1.tear, HBOK.out.1.left⟩
set_option maxRecDepth 100000 in
set_option maxHeartbeats 800000 in
theorem change_prog (g p N : Nat) (s : FS) (i : Int) (n : Nat) (q : Nat) (ys : List UInt8) (B : Option Addr) (nb cb : Nat) (w : World) (h : FlashAt w g p N s) (hq : w.cell? ⟨q, 0, none⟩ = some (.slice B nb cb)) (hy : Rd w B (bs ys)) (hyn : ys.length = nb) (hnb : n ≤ nb)
    (hqg : q ≠ g) (hqp : q ≠ p) (hB : Apart (Two g p) B (bs ys)) (hn : n ≤ 9223372036854775807) :
    Calls Try.prog 51 #[.pointer (some ⟨g, 0, none⟩), .int .i64 i, .int .i64 n, .func (.func 53) #[] #[.pointer (some ⟨q, 0, none⟩)]] w fun e w' => e = .returned (.int .i64 (s.change N i n (prD ys)).1) ∧
      Hid (FlashAt w' g p N (s.change N i n (prD ys)).2) ∧ Hid (Chg (Two g p) w w') := by
  have H := Lib.hid h
  have HQ := Lib.hid hq
  have HY := Lib.hid hy
  have HYN := Lib.hid hyn
  have HAP := Lib.hid hB
  clear hq hy hyn hB
  obtain ⟨hc0, hc1, _, _, hc4, hf⟩ := h.cells
  have hf1 := hf 1
  have hok := h.ok
  have hmost := hok.most
  clear hf h
  by_cases hd : s.dead = true
  · have hch : s.change N i n (prD ys) = (11, s) := by unfold FS.change; rw [if_pos hd]
    rw [hch]
    rw [hd] at hc1
    clear hch hok hd
    go_enter Try.func51, Try.ntmps51
    go_wp2_with fail
    go_ret
    exact ⟨rfl, H, Chg.refl _ _⟩
  · have hd' : s.dead = false := by simpa using hd
    rw [hd'] at hc1
    by_cases hi : i < 0 ∨ (N : Int) ≤ i
    · have hch : s.change N i n (prD ys) = (1, s) := by unfold FS.change; rw [if_neg hd, if_pos (by rcases hi with h | h <;> omega)]
      rw [hch]
      have HI := Lib.hid hi
      clear hch hok hd hd' hi
      go_enter Try.func51, Try.ntmps51
      go_wp2_with fail
      refine (has_no g p N s i _ H.out HI.out).mono ?_
      rintro e w1 ⟨rfl, rfl⟩
      go_wp2_with fail
      go_ret
      exact ⟨rfl, H, Chg.refl _ _⟩
    · obtain ⟨k, rfl⟩ := Int.eq_ofNat_of_zero_le (show 0 ≤ i by omega)
      have hkN : k < N := by omega
      by_cases hn64 : 64 < n
      · have hch : s.change N k n (prD ys) = (1, s) := by unfold FS.change; rw [if_neg hd, if_pos (.inr (.inr hn64))]
        rw [hch]
        have e1 : (64 : Int) < n := by omega
        clear hch hok hd hd' hi
        go_enter Try.func51, Try.ntmps51
        go_wp2_with fail
        refine (has_yes g p N s k _ H.out (by omega) (by omega)).mono ?_
        rintro e w1 ⟨rfl, rfl⟩
        go_wp2_with fail
        go_ret
        exact ⟨rfl, H, Chg.refl _ _⟩
      · have e1 : ¬ (64 : Int) < n := by omega
        have hbok := FS.burn_ok hok
        have htear := hok.tear
        have hlen := hok.len
        have hfit := hok.fit
        have HBOK := Lib.hid hbok
        rcases hb : s.burn.1 with _ | _
        · have hch : s.change N k n (prD ys) = (0, { s.burn.2 with pages := (prD ys) s.pages (k * 64) n }) := by
            unfold FS.change
            rw [if_neg hd, if_neg (by omega), if_neg (by rw [hb]; decide)]
            rfl
          rw [hch]
          have HB := Lib.hid hb
          clear hch hok hd hd' hi hb hbok
          go_enter Try.func51, Try.ntmps51
          go_wp2_with fail
          refine (has_yes g p N s k _ H.out (by omega) (by omega)).mono ?_
          rintro e w1 ⟨rfl, rfl⟩
          go_wp2_with fail
          refine (burns_calls g p N s _ H.out).mono ?_
          rintro e w2 ⟨he, h2, hc2⟩
          rw [HB.out] at he
          subst he
          have hc02 := h2.out.cells.1
          have hE0 : (0 : Int) ≤ k := by omega
          have hE1 : (k : Int) < N := by omega
          have hb2 := h2.out.body
          rw [HBOK.out.2.1] at hb2
          have HB2 := Lib.hid hb2
          have HC2 := Lib.hid (hc2.out.mono (T := Two g p) (fun _ _ h => Or.inl h))
          clear hb2 hc0 hc1 hc4 hf1 hc2
          go_wp2_with fail
          refine (progFn_calls p (k * 64) n 64 q 75 s.pages ys B nb cb _ (HB2.out) (by omega) (by omega) (HC2.out.cell HQ.out (fun h => h.elim hqg hqp)) (HY.out.chg HC2.out HAP.out) HYN.out (by omega) hqp (fun hv ad e h => HAP.out hv ad e (.inr h))).mono ?_
          rintro e w3 ⟨rfl, h3, h4⟩
          have HP : Hid (FlashAt w3 g p N { s.burn.2 with pages := (prD ys) s.pages (k * 64) n }) := Lib.hid ⟨h2.out.head.chg h4.out (fun e => h2.out.ne e.symm), h3.out, h2.out.ne, ⟨by show ((prD ys) s.pages (k * 64) n).length = _; rw [prD_len (by omega)]; exact hlen.trans (congrArg (64 * ·) HBOK.out.2.2.2.2.symm), HBOK.out.1.fit, HBOK.out.1.most, HBOK.out.1.tear, HBOK.out.1.left⟩⟩
          have HC3 := Lib.hid (HC2.out.trans h4.out (fun _ _ h => .inr h))
          clear h3 h4
          go_wp2_with fail
          go_ret
          exact ⟨rfl, HP, HC3⟩
        · have hch : s.change N k n (prD ys) = (11, { s.burn.2 with pages := (prD ys) s.pages (k * 64) (min n s.tear), dead := true }) := by
            unfold FS.change
            rw [if_neg hd, if_neg (by omega), if_pos hb]
            rfl
          rw [hch]
          have HB := Lib.hid hb
          clear hch hok hd hd' hi hb hbok
          go_enter Try.func51, Try.ntmps51
          go_wp2_with fail
          refine (has_yes g p N s k _ H.out (by omega) (by omega)).mono ?_
          rintro e w1 ⟨rfl, rfl⟩
          go_wp2_with fail
          refine (burns_calls g p N s _ H.out).mono ?_
          rintro e w2 ⟨he, h2, hc2⟩
          rw [HB.out] at he
          subst he
          have hc02 := h2.out.cells.1
          have hc42 := h2.out.cells.2.2.2.2.1
          rw [HBOK.out.2.2.1] at hc42
          have hE0 : (0 : Int) ≤ k := by omega
          have hE1 : (k : Int) < N := by omega
          have hb2 := h2.out.body
          rw [HBOK.out.2.1] at hb2
          have HB2 := Lib.hid hb2
          have HC2 := Lib.hid (hc2.out.mono (T := Two g p) (fun _ _ h => Or.inl h))
          clear hb2 hc0 hc1 hc4 hf1 hc2
          by_cases hnt : n ≤ s.tear
          · have e2 : (n : Int) ≤ s.tear := by omega
            have e8 : ¬ s.tear < n := by omega
            have hmm : min n s.tear = n := by omega
            have HMM := Lib.hid hmm
            have e3 : (0 : Int) ≤ n := by omega
            have e4 : (n : Int) ≤ 64 := by omega
            have e5 : (0 : Int) ≤ s.tear := by omega
            have e6 : (s.tear : Int) ≤ 64 := by omega
            have e7 : n ≤ 64 := by omega
            clear hmm
            go_wp2_with fail
            go_still_tail 14, (by kernel_rfl)
            go_wp2_with fail
            refine (progFn_calls p (k * 64) n 64 q 75 s.pages ys B nb cb _ (Blk.drewN HB2.out 1) (by omega) (by omega) (HC2.out.cell HQ.out (fun h => h.elim hqg hqp)) (HY.out.chg (HC2.out.drewN 1) HAP.out) HYN.out (by omega) hqp (fun hv ad e h => HAP.out hv ad e (.inr h))).mono ?_
            rintro e w3 ⟨rfl, h3, h4⟩
            have hhd := (Blk.drewN h2.out.head 1).chg h4.out (fun (e : g = p) => h2.out.ne e.symm)
            have hc13 : w3.cell? ⟨g, 1, none⟩ = some (.bool s.burn.2.dead) := hhd.cell 1
            have hf13 : w3.frozen? ⟨g, 1, none⟩ = false := hhd.frozen 1
            have HHD := Lib.hid hhd
            have H3 := Lib.hid h3.out
            have HC3 := Lib.hid (Chg.trans (HC2.out.drewN 1) h4.out (fun _ _ h => Or.inr h))
            clear hhd h3 h4
            go_wp2_with fail
            go_ret
            rw [HMM.out]
            refine ⟨rfl, ⟨HHD.out.set_ 1 _, Blk.far H3.out h2.out.ne _, h2.out.ne, ?_⟩, HC3.out.setCell (p := ⟨g, 1, none⟩) (fun _ => Or.inl rfl) _⟩
            exact ⟨by rw [prD_len (by omega)]; exact hlen.trans (congrArg (64 * ·) HBOK.out.2.2.2.2.symm), HBOK.out.1.fit, HBOK.out.1.most, HBOK.out.1.tear, HBOK.out.1.left⟩
          · have e2 : (s.tear : Int) < n := by omega
            have e8 : s.tear < n := by omega
            have hmm : min n s.tear = s.tear := by omega
            have HMM := Lib.hid hmm
            have e3 : (0 : Int) ≤ n := by omega
            have e4 : (n : Int) ≤ 64 := by omega
            have e5 : (0 : Int) ≤ s.tear := by omega
            have e6 : (s.tear : Int) ≤ 64 := by omega
            have e7 : n ≤ 64 := by omega
            clear hmm
            go_wp2_with fail
            go_still_tail 14, (by kernel_rfl)
            go_wp2_with fail
            refine (progFn_calls p (k * 64) s.tear 64 q 75 s.pages ys B nb cb _ (Blk.drewN HB2.out 1) (by omega) (by omega) (HC2.out.cell HQ.out (fun h => h.elim hqg hqp)) (HY.out.chg (HC2.out.drewN 1) HAP.out) HYN.out (by omega) hqp (fun hv ad e h => HAP.out hv ad e (.inr h))).mono ?_
            rintro e w3 ⟨rfl, h3, h4⟩
            have hhd := (Blk.drewN h2.out.head 1).chg h4.out (fun (e : g = p) => h2.out.ne e.symm)
            have hc13 : w3.cell? ⟨g, 1, none⟩ = some (.bool s.burn.2.dead) := hhd.cell 1
            have hf13 : w3.frozen? ⟨g, 1, none⟩ = false := hhd.frozen 1
            have HHD := Lib.hid hhd
            have H3 := Lib.hid h3.out
            have HC3 := Lib.hid (Chg.trans (HC2.out.drewN 1) h4.out (fun _ _ h => Or.inr h))
            clear hhd h3 h4
            go_wp2_with fail
            go_ret
            rw [HMM.out]
            refine ⟨rfl, ⟨HHD.out.set_ 1 _, Blk.far H3.out h2.out.ne _, h2.out.ne, ?_⟩, HC3.out.setCell (p := ⟨g, 1, none⟩) (fun _ => Or.inl rfl) _⟩
            exact ⟨by rw [prD_len (by omega)]; exact hlen.trans (congrArg (64 * ·) HBOK.out.2.2.2.2.symm), HBOK.out.1.fit, HBOK.out.1.most, HBOK.out.1.tear, HBOK.out.1.left⟩
theorem Erase_calls (g p N : Nat) (s : FS) (i : Int) (w : World) (h : FlashAt w g p N s) :
    Calls Try.prog 24 #[.pointer (some ⟨g, 0, none⟩), .int .i64 i] w fun e w' => e = .returned (.int .i64 (s.change N i 64 erD).1) ∧
      Hid (FlashAt w' g p N (s.change N i 64 erD).2) ∧ Hid (Chg (Two g p) w w') := by
  have H := Lib.hid h
  clear h
  go_enter Try.func24, Try.ntmps24
  go_wp2_with fail
  refine (change_erase g p N s i 64 _ H.out (by decide)).mono ?_
  rintro e w1 ⟨rfl, h1, h2⟩
  go_wp2_with fail
  go_ret
  exact ⟨rfl, h1, h2⟩
set_option maxRecDepth 100000 in
theorem Program_calls (g p N : Nat) (s : FS) (i : Int) (B : Option Addr) (nb cb : Nat) (ys : List UInt8) (w : World) (h : FlashAt w g p N s) (hy : Rd w B (bs ys)) (hyn : ys.length = nb) (hB : Apart (Two g p) B (bs ys)) (hn : nb ≤ 9223372036854775807) :
    Calls Try.prog 25 #[.pointer (some ⟨g, 0, none⟩), .int .i64 i, .slice B nb cb] w fun e w' => e = .returned (.int .i64 (s.change N i nb (prD ys)).1) ∧
      Hid (FlashAt w' g p N (s.change N i nb (prD ys)).2) ∧ Hid (Chg (Two g p) w w') := by
  have H := Lib.hid h
  have HY := Lib.hid hy
  have HYN := Lib.hid hyn
  have HAP := Lib.hid hB
  have hgl := h.head.lt
  have hpl := Blk.lt h.body
  have HC : Hid (Chg nowhere w (w.alloc (.cells #[.slice B nb cb] 22))) := Lib.hid ((Chg.refl _ _).alloc _)
  clear h hy hyn hB
  go_enter Try.func25, Try.ntmps25
  go_wp2_with fail
  refine (change_prog g p N s i nb w.heap.size ys B nb cb _ (H.out.calm HC.out) ((Blk.new w _ _).cell 0) (HY.out.later HC.out) HYN.out (Nat.le_refl _) (by omega) (by omega) HAP.out hn).mono ?_
  rintro e w1 ⟨rfl, h1, h2⟩
  have HC2 := Lib.hid ((HC.out.mono (T := Two g p) (fun _ _ h => h.elim)).trans h2.out (fun _ _ h => h))
  go_wp2_with fail
  go_ret
  exact ⟨rfl, h1, HC2⟩
end Go.Proofs.Ytegdihpnefoolaa
