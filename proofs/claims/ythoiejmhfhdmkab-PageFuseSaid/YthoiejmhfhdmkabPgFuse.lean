/- Just so many acts that do not err are done ahead of the one that tears (the law PageFuse). -/
import Derived.Test.YthoiejmhfhdmkabPgErases
open Go Go.RowKit
namespace Go.Proofs.Ythoiejmhfhdmkab
set_option maxRecDepth 100000 in
set_option maxHeartbeats 400000 in
theorem Fuse_calls (g p N : Nat) (s : FS) (n t : Int) (w : World) (h : FlashAt w g p N s) (hn : n ≤ 9223372036854775807) :
    Calls Try.prog 15 #[.pointer (some ⟨g, 0, none⟩), .int .i64 n, .int .i64 t] w fun e w' => e = .returned (.tuple #[]) ∧ Hid (FlashAt w' g p N { s with fused := decide (0 ≤ n), left := n, tear := (min (max t 0) 64).toNat }) ∧ Hid (Chg (Two g p) w w') := by
  obtain ⟨_, _, hc2, hc3, hc4, hf⟩ := h.cells
  have hf2 := hf 2
  have hf3 := hf 3
  have hf4 := hf 4
  have hok := fuse_ok h.ok n t hn
  have HP : ∀ b : Bool, b = decide (0 ≤ n) → ∀ y : Int, y = ((min (max t 0) 64).toNat : Int) → Hid (FlashAt (((w.setCell ⟨g, 2, none⟩ (.bool b)).setCell ⟨g, 3, none⟩ (.int .i64 n)).setCell ⟨g, 4, none⟩ (.int .i64 y)) g p N { s with fused := decide (0 ≤ n), left := n, tear := (min (max t 0) 64).toNat }) := by
    rintro b rfl y rfl
    exact ⟨((h.head.set_ 2 _).set_ 3 _).set_ 4 _, Blk.far (p := ⟨g, 4, none⟩) (Blk.far (p := ⟨g, 3, none⟩) (Blk.far (p := ⟨g, 2, none⟩) h.body h.ne _) h.ne _) h.ne _, h.ne, hok⟩
  have HP' := Lib.hid HP
  have HC : Hid (∀ b y : Value, Chg (Two g p) w (((w.setCell ⟨g, 2, none⟩ b).setCell ⟨g, 3, none⟩ (.int .i64 n)).setCell ⟨g, 4, none⟩ y)) := Lib.hid (fun b y => (((Chg.refl _ w).setCell (p := ⟨g, 2, none⟩) (fun _ => .inl rfl) _).setCell (p := ⟨g, 3, none⟩) (fun _ => .inl rfl) _).setCell (p := ⟨g, 4, none⟩) (fun _ => .inl rfl) _)
  clear hf h hok HP
  rcases (show t < 0 ∨ (0 ≤ t ∧ t ≤ 64) ∨ 64 < t by omega) with h | ⟨h, h'⟩ | h
  all_goals
    go_enter Try.func15, Try.ntmps15
    go_wp2_with fail
    go_end0
    exact ⟨rfl, HP'.out _ rfl _ (by omega), HC.out _ _⟩
/-- the law's own count: acts done so far -/
structure FuseRel (s : FS) (n done : Nat) : Prop where
  tear : s.tear = 10
  live : s.dead = false → s.fused = true ∧ s.left = (n : Int) - done ∧ done ≤ n
  dead : s.dead = true → done = n
theorem fuse_step {s : FS} {n done : Nat} {i : Int} {m : Nat} {f : Deed} (h : FuseRel s n done) (hm : m ≤ 64) :
    (s.dead = true ∧ s.change 4 i m f = (11, s)) ∨
    (s.dead = false ∧ (i < 0 ∨ 3 < i) ∧ s.change 4 i m f = (1, s)) ∨
    (s.dead = false ∧ ¬ (i < 0 ∨ 3 < i) ∧ done = n ∧ (s.change 4 i m f).1 = 11 ∧ (s.change 4 i m f).2.dead = true ∧ FuseRel (s.change 4 i m f).2 n done) ∨
    (s.dead = false ∧ ¬ (i < 0 ∨ 3 < i) ∧ done < n ∧ (s.change 4 i m f).1 = 0 ∧ (s.change 4 i m f).2.dead = false ∧ FuseRel (s.change 4 i m f).2 n (done + 1)) := by
  rcases hd : s.dead with _ | _
  · obtain ⟨h1, h2, h3⟩ := h.live hd
    by_cases hi : i < 0 ∨ 3 < i
    · exact .inr (.inl ⟨rfl, hi, FS.change_bad hd (by rcases hi with h | h <;> omega)⟩)
    · by_cases hl : s.left = 0
      · have hb : s.burn = (true, s) := by unfold FS.burn; rw [if_neg (by simp [h1]), if_pos hl]
        have hc : s.change 4 i m f = (11, { s with pages := f s.pages (i.toNat * 64) (min m s.tear), dead := true }) := by
          unfold FS.change
          rw [if_neg (by simp [hd]), if_neg (by omega), hb, if_pos rfl]
        exact .inr (.inr (.inl ⟨rfl, hi, by omega, by rw [hc], by rw [hc], by rw [hc]; exact ⟨h.tear, fun h => (by cases h), fun _ => by omega⟩⟩))
      · have hb : s.burn = (false, { s with left := s.left - 1 }) := by unfold FS.burn; rw [if_neg (by simp [h1]), if_neg hl]
        have hc : s.change 4 i m f = (0, { s with left := s.left - 1, pages := f s.pages (i.toNat * 64) m }) := by
          unfold FS.change
          rw [if_neg (by simp [hd]), if_neg (by omega), hb, if_neg (by simp)]
        refine .inr (.inr (.inr ⟨rfl, hi, by omega, by rw [hc], by rw [hc]; exact hd, ?_⟩))
        rw [hc]
        exact ⟨h.tear, fun _ => ⟨h1, by show s.left - 1 = _; omega, by omega⟩, fun h' => by have : s.dead = true := h'; rw [hd] at this; cases this⟩
  · exact .inl ⟨rfl, by unfold FS.change; rw [if_pos hd]⟩
def bools (ks : List Bool) : List Value := ks.map .bool
set_option maxRecDepth 100000 in
set_option maxHeartbeats 1600000 in
theorem pageFuse_calls (n : Int) (A : Option Addr) (na ca : Nat) (ks : List Bool) (B : Option Addr) (nb cb : Nat) (at_ : List Int) (w : World) (ha : Rd w A (bools ks)) (hna : ks.length = na) (hb : Rd w B (at_.map (.int .i64))) (hnb : at_.length = nb)
    (hn : n ≤ 9223372036854775807) (hna9 : na ≤ 9223372036854775807) (hnb9 : nb ≤ 9223372036854775807) (hat : ∀ z ∈ at_, -9223372036854775808 ≤ z ∧ z ≤ 9223372036854775807) :
    Calls Try.prog 6 #[.int .i64 n, .slice A na ca, .slice B nb cb] w fun e w' => e = .returned (.bool true) ∧ Chg nowhere w w' := by
  have HA := Lib.hid ha
  have HB := Lib.hid hb
  have HNA := Lib.hid hna
  have HNB := Lib.hid hnb
  have HAT := Lib.hid hat
  clear ha hb hna hnb hat
  by_cases h0 : n < 0
  · go_enter Try.func6, Try.ntmps6
    go_wp2_with fail
    go_ret
    exact ⟨rfl, Chg.refl _ _⟩
  · by_cases h1 : 100 < n
    · go_enter Try.func6, Try.ntmps6
      go_wp2_with fail
      go_ret
      exact ⟨rfl, Chg.refl _ _⟩
    · obtain ⟨n, rfl⟩ := Int.eq_ofNat_of_zero_le (show 0 ≤ n by omega)
      by_cases h2 : 60 < na
      · have f2 : (60 : Int) < na := by omega
        go_enter Try.func6, Try.ntmps6
        go_wp2_with fail
        go_ret
        exact ⟨rfl, Chg.refl _ _⟩
      · have f2 : ¬ (60 : Int) < na := by omega
        by_cases h3 : nb < na
        · have f3 : (nb : Int) < na := by omega
          go_enter Try.func6, Try.ntmps6
          go_wp2_with fail
          go_ret
          exact ⟨rfl, Chg.refl _ _⟩
        · have f3 : ¬ (nb : Int) < na := by omega
          go_enter Try.func6, Try.ntmps6
          go_wp2_with fail
          refine (New_calls 4 _ (by decide) (by decide)).mono ?_
          rintro e w1 ⟨g, p, rfl, k1, hc1, hg, hp⟩
          have HTWO : Hid (∀ x, Two g p x → w.heap.size ≤ x) := Lib.hid (by rintro x (rfl | rfl) <;> assumption)
          have z1 : g < w1.heap.size ∧ p < w1.heap.size := ⟨k1.out.head.lt, Blk.lt k1.out.body⟩
          go_wp2_with fail
          refine (Fuse_calls g p 4 _ n 10 _ k1.out (by omega)).mono ?_
          rintro e w2 ⟨rfl, k2, c2⟩
          have HC2 := Lib.hid (hc1.out.step c2.out HTWO.out)
          have z2 := c2.out.size
          have HS : Hid (FuseRel { FS.fresh 4 with fused := decide (0 ≤ (n : Int)), left := n, tear := (min (max 10 0) 64 : Int).toNat } n 0) := Lib.hid ⟨rfl, fun _ => ⟨by simp, by simp, Nat.zero_le _⟩, fun h => by cases h⟩
          clear k1 hc1 c2
          generalize ({ FS.fresh 4 with fused := decide (0 ≤ (n : Int)), left := n, tear := (min (max 10 0) 64 : Int).toNat } : FS) = s2 at *
          go_wp2_with fail
          go_loopw [8, 9, 10, 11, 12] (fun td ti _ _ _ wr => ∃ k done : Nat, ∃ s : FS, k ≤ na ∧ ti = .int .i64 k ∧ td = .int .i64 done ∧ Hid (FlashAt wr g p 4 s) ∧ Hid (FuseRel s n done) ∧ Hid (Chg nowhere w wr)) (fun _ ti _ _ _ _ => na - (intOf ti).toNat)
          case atStart => exact ⟨0, 0, s2, Nat.zero_le _, rfl, rfl, k2, HS, HC2⟩
          case round =>
            obtain ⟨k, done, s, hk, rfl, rfl, KS, HR, HC⟩ := hrel
            by_cases hlt : k < na
            · have f1 : (k : Int) < na := by omega
              have f0 : (0 : Int) ≤ k := by omega
              have g1 : (k : Int) < nb := by omega
              have hkb : k < ks.length := by have := HNA.out; omega
              have hka : k < at_.length := by have := HNB.out; omega
              obtain ⟨a1, rfl, hca⟩ := (HA.out.later HC.out) k (.bool ks[k]) (by simp [bools, hkb])
              obtain ⟨a2, rfl, hcb⟩ := (HB.out.later HC.out) k (.int .i64 at_[k]) (by simp [hka])
              have hz := HAT.out _ (List.getElem_mem hka)
              generalize at_[k] = z at *
              generalize ks[k] = b at *
              rcases b with _ | _
              · go_wp2_with fail
                generalize wrap64 (z.tmod 6 - 1) = y at *
                refine (Program_calls g p 4 s y _ 1 _ [1] _ (KS.out.calm ((Chg.refl _ _).alloc _)) (Rd.lit _ [_] _) rfl ?_ (by decide)).mono ?_
                · rintro _ ad e (h | h)
                  · injection e with e; subst e; have := KS.out.head.lt; simp at h; omega
                  · injection e with e; subst e; have := Blk.lt KS.out.body; simp at h; omega
                rintro e w3 ⟨rfl, K3, c3⟩
                have HC3 := Lib.hid ((HC.out.alloc (.cells #[.int .u8 1] 5)).step c3.out HTWO.out)
                clear c3 KS HC
                rcases fuse_step (i := y) (m := 1) (f := (prD [1])) HR.out (by decide) with ⟨hd, hc⟩ | ⟨hd, hy, hc⟩ | ⟨hd, hy, hdn, hc1, hc2, hr⟩ | ⟨hd, hy, hdn, hc1, hc2, hr⟩
                · rw [hc] at K3 ⊢
                  have q := HR.out.dead hd
                  have q1 : ¬ (done : Int) < n := by omega
                  have q2 : (done : Int) ≤ n := by omega
                  clear hc q
                  rcases (show y < 0 ∨ 0 ≤ y by omega) with q3 | q3
                  all_goals
                    go_wp2_with fail
                    refine (Dead_calls g p 4 s _ K3.out).mono ?_
                    rintro e w4 ⟨rfl, rfl⟩
                    rw [hd]
                    go_wp2_with fail
                    exact ⟨⟨k + 1, done, s, by omega, by go_num, rfl, K3, HR, HC3⟩, by simp [intOf]; omega⟩
                · rw [hc] at K3 ⊢
                  have q := HR.out.live hd
                  have q2 : (done : Int) ≤ n := by omega
                  clear hc
                  rcases hy with q3 | q3
                  · go_wp2_with fail
                    refine (Dead_calls g p 4 s _ K3.out).mono ?_
                    rintro e w4 ⟨rfl, rfl⟩
                    rw [hd]
                    go_wp2_with fail
                    exact ⟨⟨k + 1, done, s, by omega, by go_num, rfl, K3, HR, HC3⟩, by simp [intOf]; omega⟩
                  · have q4 : 0 ≤ y := by omega
                    go_wp2_with fail
                    refine (Dead_calls g p 4 s _ K3.out).mono ?_
                    rintro e w4 ⟨rfl, rfl⟩
                    rw [hd]
                    go_wp2_with fail
                    exact ⟨⟨k + 1, done, s, by omega, by go_num, rfl, K3, HR, HC3⟩, by simp [intOf]; omega⟩
                · rw [hc1]
                  have HR3 := Lib.hid hr
                  generalize (s.change 4 y 1 (prD [1])).2 = s3 at *
                  have q1 : ¬ (done : Int) < n := by omega
                  have q2 : (done : Int) ≤ n := by omega
                  have q3 : 0 ≤ y := by omega
                  have q4 : y ≤ 3 := by omega
                  clear hc1 hr hy hdn
                  go_wp2_with fail
                  refine (Dead_calls g p 4 s3 _ K3.out).mono ?_
                  rintro e w4 ⟨rfl, rfl⟩
                  rw [hc2]
                  go_wp2_with fail
                  exact ⟨⟨k + 1, done, s3, by omega, by go_num, rfl, K3, HR3, HC3⟩, by simp [intOf]; omega⟩
                · rw [hc1]
                  have HR3 := Lib.hid hr
                  generalize (s.change 4 y 1 (prD [1])).2 = s3 at *
                  have q1 : ((done + 1 : Nat) : Int) ≤ n := by omega
                  have q2 : (done : Int) + 1 ≤ n := by omega
                  have q3 : 0 ≤ y := by omega
                  have q4 : y ≤ 3 := by omega
                  clear hc1 hr hy
                  go_wp2_with fail
                  refine (Dead_calls g p 4 s3 _ K3.out).mono ?_
                  rintro e w4 ⟨rfl, rfl⟩
                  rw [hc2]
                  go_wp2_with fail
                  exact ⟨⟨k + 1, done + 1, s3, by omega, by go_num, by go_num, K3, HR3, HC3⟩, by simp [intOf]; omega⟩
              · go_wp2_with fail
                generalize wrap64 (z.tmod 6 - 1) = y at *
                refine (Erase_calls g p 4 s y _ KS.out).mono ?_
                rintro e w3 ⟨rfl, K3, c3⟩
                have HC3 := Lib.hid (HC.out.step c3.out HTWO.out)
                clear c3 KS HC
                rcases fuse_step (i := y) (m := 64) (f := erD) HR.out (by decide) with ⟨hd, hc⟩ | ⟨hd, hy, hc⟩ | ⟨hd, hy, hdn, hc1, hc2, hr⟩ | ⟨hd, hy, hdn, hc1, hc2, hr⟩
                · rw [hc] at K3 ⊢
                  have q := HR.out.dead hd
                  have q1 : ¬ (done : Int) < n := by omega
                  have q2 : (done : Int) ≤ n := by omega
                  clear hc q
                  rcases (show y < 0 ∨ 0 ≤ y by omega) with q3 | q3
                  all_goals
                    go_wp2_with fail
                    refine (Dead_calls g p 4 s _ K3.out).mono ?_
                    rintro e w4 ⟨rfl, rfl⟩
                    rw [hd]
                    go_wp2_with fail
                    exact ⟨⟨k + 1, done, s, by omega, by go_num, rfl, K3, HR, HC3⟩, by simp [intOf]; omega⟩
                · rw [hc] at K3 ⊢
                  have q := HR.out.live hd
                  have q2 : (done : Int) ≤ n := by omega
                  clear hc
                  rcases hy with q3 | q3
                  · go_wp2_with fail
                    refine (Dead_calls g p 4 s _ K3.out).mono ?_
                    rintro e w4 ⟨rfl, rfl⟩
                    rw [hd]
                    go_wp2_with fail
                    exact ⟨⟨k + 1, done, s, by omega, by go_num, rfl, K3, HR, HC3⟩, by simp [intOf]; omega⟩
                  · have q4 : 0 ≤ y := by omega
                    go_wp2_with fail
                    refine (Dead_calls g p 4 s _ K3.out).mono ?_
                    rintro e w4 ⟨rfl, rfl⟩
                    rw [hd]
                    go_wp2_with fail
                    exact ⟨⟨k + 1, done, s, by omega, by go_num, rfl, K3, HR, HC3⟩, by simp [intOf]; omega⟩
                · rw [hc1]
                  have HR3 := Lib.hid hr
                  generalize (s.change 4 y 64 erD).2 = s3 at *
                  have q1 : ¬ (done : Int) < n := by omega
                  have q2 : (done : Int) ≤ n := by omega
                  have q3 : 0 ≤ y := by omega
                  have q4 : y ≤ 3 := by omega
                  clear hc1 hr hy hdn
                  go_wp2_with fail
                  refine (Dead_calls g p 4 s3 _ K3.out).mono ?_
                  rintro e w4 ⟨rfl, rfl⟩
                  rw [hc2]
                  go_wp2_with fail
                  exact ⟨⟨k + 1, done, s3, by omega, by go_num, rfl, K3, HR3, HC3⟩, by simp [intOf]; omega⟩
                · rw [hc1]
                  have HR3 := Lib.hid hr
                  generalize (s.change 4 y 64 erD).2 = s3 at *
                  have q1 : ((done + 1 : Nat) : Int) ≤ n := by omega
                  have q2 : (done : Int) + 1 ≤ n := by omega
                  have q3 : 0 ≤ y := by omega
                  have q4 : y ≤ 3 := by omega
                  clear hc1 hr hy
                  go_wp2_with fail
                  refine (Dead_calls g p 4 s3 _ K3.out).mono ?_
                  rintro e w4 ⟨rfl, rfl⟩
                  rw [hc2]
                  go_wp2_with fail
                  exact ⟨⟨k + 1, done + 1, s3, by omega, by go_num, by go_num, K3, HR3, HC3⟩, by simp [intOf]; omega⟩
            · have f1 : (na : Int) ≤ k := by omega
              go_wp2_with fail
              refine (pgKnown_calls _).mono ?_
              rintro e w9 ⟨rfl, h9⟩
              have HC9 := Lib.hid (HC.out.step h9.out (fun _ h => h.elim))
              go_wp2_with fail
              go_ret
              exact ⟨rfl, HC9.out⟩
end Go.Proofs.Ythoiejmhfhdmkab
