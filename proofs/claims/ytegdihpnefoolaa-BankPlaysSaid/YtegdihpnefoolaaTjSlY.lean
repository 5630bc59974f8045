/- SlV, SlW, SlX, SlY -/
import Derived.Test.YtegdihpnefoolaaTjSlU
section
open Go Go.RowKit
namespace Go.Proofs.Ytegdihpnefoolaa
set_option maxRecDepth 100000 in
set_option maxHeartbeats 1600000 in
theorem refPackN_calls {A : Option Addr} {n c : Nat} {b : List UInt8} (v : Int) {w : World} [hr : HR w A (bs b)] (hl : b.length = n) (hn : n ≤ 900000000) :
    Calls Try.prog 22 #[.int .i64 v, .slice A n c] w fun e w' => ∃ A' n' c', e = .returned (.slice A' n' c') ∧ (packS v b).length = n' ∧ n' ≤ c' ∧ HR w' A' (bs (packS v b)) ∧ NewA w A' ∧ Step nowhere w w' := by
  have HLL := Lib.hid hl
  have HRR := Lib.hid hr.out
  obtain ⟨px, hpx⟩ : ∃ px, px = packN v b := ⟨_, rfl⟩
  obtain ⟨sx, hsx⟩ : ∃ sx, sx = sha px := ⟨_, rfl⟩
  obtain ⟨S, hS⟩ : ∃ S : H32, S.l = sx := ⟨⟨sx, by rw [hsx]; exact sha_len _⟩, rfl⟩
  have HPX := Lib.hid hpx
  have HSX := Lib.hid hsx
  have HS := Lib.hid hS
  have hpl : px.length ≤ 900000018 := by rw [hpx]; have := packN_len v b (by omega); omega
  have hfin : packS v b = px ++ S.l := by rw [packS, ← hpx, hS, hsx]
  have HFIN := Lib.hid hfin
  clear hl hpx hsx hS hfin
  go_enter Try.func22, Try.ntmps22
  go_wp2_with (first | ((with_reducible apply wpl_alloc); intro z wz _ _ _) | ((with_reducible apply wpl_storerow); (exact rfl); (exact rfl); infer_instance; infer_instance; (first | (with_reducible assumption) | (with_reducible exact H32.size _) | kernel_rfl); (first | (with_reducible assumption) | (with_reducible exact H32.size _) | kernel_rfl); (first | (with_reducible exact u8s_one _) | (with_reducible assumption) | kernel_rfl); intro ws _ _) | ((with_reducible apply wpl_storecell); (exact rfl); (exact rfl); infer_instance; (exact rfl); (first | (with_reducible assumption) | omega | (focus (simp; done)) | (focus (simp; omega; done)) | decide); intro ws _ _))
  refine (refNum_calls v _).mono ?_
  rintro e w1 ⟨A1, n1, c1, rfl, f1⟩
  have s1 : Step nowhere w w1 := ⟨f1.out.chg⟩
  have o1 : HO w1 5 1 A1 n1 c1 (bs (enc (clampN v))) := ⟨f1.out.own⟩
  have na1 : NewA w A1 := ⟨f1.out.new⟩
  have hn1 : n1 ≤ 9 := by rw [f1.out.len]; exact enc_len _ (clampN_le v)
  go_wp2_with (first | ((with_reducible apply wpl_alloc); intro z wz _ _ _) | ((with_reducible apply wpl_storerow); (exact rfl); (exact rfl); infer_instance; infer_instance; (first | (with_reducible assumption) | (with_reducible exact H32.size _) | kernel_rfl); (first | (with_reducible assumption) | (with_reducible exact H32.size _) | kernel_rfl); (first | (with_reducible exact u8s_one _) | (with_reducible assumption) | kernel_rfl); intro ws _ _) | ((with_reducible apply wpl_storecell); (exact rfl); (exact rfl); infer_instance; (exact rfl); (first | (with_reducible assumption) | omega | (focus (simp; done)) | (focus (simp; omega; done)) | decide); intro ws _ _))
  refine (refBytes_calls A n c b w1 (HRR.out.later s1.chg) HLL.out (by omega)).mono ?_
  rintro e w2 ⟨A2, n2, c2, rfl, f2⟩
  have s2 : Step nowhere w1 w2 := ⟨f2.out.chg⟩
  have o2 : HO w2 5 1 A2 n2 c2 (bs (encRow b)) := ⟨f2.out.own⟩
  have na2 : NewA w1 A2 := ⟨f2.out.new⟩
  have hl2 : (encRow b).length = n2 := f2.out.len.symm
  have hn2 : n2 ≤ 900000010 := by
    rw [← hl2, encRow, List.length_append]
    have h1 := enc_len b.length (by have := HLL.out; omega)
    have := HLL.out
    omega
  have hlim : n1 + n2 ≤ 100000000000 := by omega
  go_wp2_with (first | ((with_reducible apply wpl_appendB); (exact rfl); (exact rfl); infer_instance; infer_instance; infer_instance; (exact hl2); (exact hlim); intro A3 c3 wa _ hO3 _ hcap3) | ((with_reducible apply wpl_alloc); intro z wz _ _ _) | ((with_reducible apply wpl_storerow); (exact rfl); (exact rfl); infer_instance; infer_instance; (first | (with_reducible assumption) | (with_reducible exact H32.size _) | kernel_rfl); (first | (with_reducible assumption) | (with_reducible exact H32.size _) | kernel_rfl); (first | (with_reducible exact u8s_one _) | (with_reducible assumption) | kernel_rfl); intro ws _ _) | ((with_reducible apply wpl_storecell); (exact rfl); (exact rfl); infer_instance; (exact rfl); (first | (with_reducible assumption) | omega | (focus (simp; done)) | (focus (simp; omega; done)) | decide); intro ws _ _))
  have hx3 : enc (clampN v) ++ encRow b = px := by rw [HPX.out, packN]; simp [encAll]
  rw [hx3] at hO3
  have hl3 : px.length = n1 + n2 := by rw [← hx3, List.length_append, hl2, f1.out.len]
  have nw3 : Nw w wa := inferInstance
  have na3 : NewA w A3 := inferInstance
  have HL3 := Lib.hid hl3
  clear hl3 hx3 hl2
  go_wp2_with (first | ((with_reducible apply wpl_alloc); intro z wz _ _ _) | ((with_reducible apply wpl_storerow); (exact rfl); (exact rfl); infer_instance; infer_instance; (first | (with_reducible assumption) | (with_reducible exact H32.size _) | kernel_rfl); (first | (with_reducible assumption) | (with_reducible exact H32.size _) | kernel_rfl); (first | (with_reducible exact u8s_one _) | (with_reducible assumption) | kernel_rfl); intro ws _ _) | ((with_reducible apply wpl_storecell); (exact rfl); (exact rfl); infer_instance; (exact rfl); (first | (with_reducible assumption) | omega | (focus (simp; done)) | (focus (simp; omega; done)) | decide); intro ws _ _))
  refine (dRefSum_calls A3 (n1 + n2) c3 px wa hO3.out.rd HL3.out (by omega)).mono ?_
  rw [← HSX.out, ← HS.out]
  rintro e w5 ⟨rfl, hc5⟩
  have s5 : Step nowhere wa w5 := ⟨hc5.out⟩
  have nw5 : Nw w w5 := inferInstance
  have hlim2 : n1 + n2 + 32 ≤ 100000000000 := by omega
  clear hc5
  go_wp2_with (first | ((with_reducible apply (wpl_sliceAr (t := 52) (s := 1))); (exact rfl); (exact Try.underlying52); (kernel_rfl)) | ((with_reducible apply wpl_appendB); (exact rfl); (exact rfl); infer_instance; infer_instance; infer_instance; (exact S.len); (exact hlim2); intro A6 c6 wz _ hO6 _ hcap6) | ((with_reducible apply (wpl_alloc (dst := some 6))); intro zs wzs _ _ _) | ((with_reducible apply wpl_alloc); intro z wz _ _ _) | ((with_reducible apply wpl_storerow); (exact rfl); (exact rfl); infer_instance; infer_instance; (first | (with_reducible assumption) | (with_reducible exact H32.size _) | kernel_rfl); (first | (with_reducible assumption) | (with_reducible exact H32.size _) | kernel_rfl); (first | (with_reducible exact u8s_one _) | (with_reducible assumption) | kernel_rfl); intro ws _ _) | ((with_reducible apply wpl_storecell); (exact rfl); (exact rfl); infer_instance; (exact rfl); (first | (with_reducible assumption) | omega | (focus (simp; done)) | (focus (simp; omega; done)) | decide); intro ws _ _))
  go_ret
  rw [HFIN.out]
  exact ⟨A6, _, c6, rfl, by rw [List.length_append, HL3.out, S.len], hcap6, inferInstance, inferInstance, stepN⟩
theorem rErase_at {x N : Nat} {T : Nat → Prop} {s : FS} {r : RFS} {w : World} (i : Int) (j : Nat) (hi : i = (j : Int)) (h : RF w x T r) (hrel : Rel s r N) (ok : s.ok N) :
    Calls Try.prog 41 #[.pointer (some ⟨x, 0, none⟩), .int .i64 i] w fun e w' => e = .returned (.int .i64 ((s.change N (j : Int) 64 erD).1 : Int)) ∧ Hid (∃ r', RF w' x T r' ∧ Rel (s.change N (j : Int) 64 erD).2 r' N) ∧ Step T w w' := by
  subst hi
  obtain ⟨b1, b2⟩ := hrel.bounds ok
  obtain ⟨k1, k2⟩ := hrel.act ok (j : Int) 64 erD erF (deals_er N 64)
  exact (rfErase_calls h (j : Int) b1 b2).mono fun e w' ⟨h1, h2, h3⟩ => ⟨by rw [h1, k1], Lib.hid ⟨_, h2, k2⟩, ⟨h3⟩⟩
theorem rProg_at {x N : Nat} {T : Nat → Prop} {s : FS} {r : RFS} {w : World} (i : Int) (j : Nat) (hi : i = (j : Int)) (h : RF w x T r) (hrel : Rel s r N) (ok : s.ok N) {B : Option Addr} {m c : Nat} {b : List UInt8} [hr : HR w B (bs b)] (hl : b.length = m) (hB : Apart T B (bs b)) (hm : m ≤ 1000000) :
    Calls Try.prog 26 #[.pointer (some ⟨x, 0, none⟩), .int .i64 i, .slice B m c] w fun e w' => e = .returned (.int .i64 ((s.change N (j : Int) b.length (prD b)).1 : Int)) ∧ Hid (∃ r', RF w' x T r' ∧ Rel (s.change N (j : Int) b.length (prD b)).2 r' N) ∧ Step T w w' := by
  subst hi
  obtain ⟨b1, b2⟩ := hrel.bounds ok
  obtain ⟨k1, k2⟩ := hrel.act ok (j : Int) b.length (prD b) (prF b) (deals_pr b N)
  refine (rfProgram_calls h (j : Int) hl hB (by omega) b1 b2).mono fun e w' ⟨h1, h2, h3⟩ => ⟨by rw [h1, k1, hl], Lib.hid ⟨_, h2, by rw [← hl]; exact k2⟩, ⟨h3⟩⟩
theorem next_from {s : FS} : nextP s = if (if (bestS s).2.1 = 0 then (-1 : Int) else ((bestS s).1 : Int)) = 0 then 40 else 0 := by
  have h := bestS_slot s
  unfold nextP
  by_cases h0 : (bestS s).2.1 = 0
  · rw [if_pos h0, if_pos h0, if_neg (by decide)]
  · rw [if_neg h0, if_neg h0]
    by_cases h1 : (bestS s).1 = 0
    · rw [if_pos (by omega), h1]
    · rw [if_neg (by omega), show (bestS s).1 = 1 by omega]
set_option maxRecDepth 100000 in
set_option maxHeartbeats 3200000 in
theorem rsave_calls {x N : Nat} {T : Nat → Prop} {s : FS} {r : RFS} {A : Option Addr} {n c : Nat} {b : List UInt8} {w : World} (h : RF w x T r) (hrel0 : Rel s r N) (ok : s.ok N) (hN : 80 ≤ N) (hT : ∀ k, T k → k < w.heap.size) [hr : HR w A (bs b)] (hl : b.length = n) (hn : n ≤ 9223372036854775807) :
    Calls Try.prog 13 #[.pointer (some ⟨x, 0, none⟩), .slice A n c] w fun e w' => e = .returned (.int .i64 ((saveS N s b).1 : Int)) ∧ (∃ r', RF w' x T r' ∧ Rel (saveS N s b).2 r' N) ∧ Step T w w' := by
  have HF := Lib.hid h
  have HREL := Lib.hid hrel0
  have HOK := Lib.hid ok
  have HLL := Lib.hid hl
  have HRR := Lib.hid hr.out
  have HT := Lib.hid hT
  have HBD := Lib.hid (hrel0.bounds ok)
  obtain ⟨S, hS⟩ : ∃ S, S = saveS N s b := ⟨_, rfl⟩
  have hS2 := hS
  unfold saveS at hS2
  rw [hl] at hS2
  obtain ⟨F, hF⟩ : ∃ F, F = findS r := ⟨_, rfl⟩
  have hF2 := hF.trans (find_best hrel0 ok hN)
  have hat : nextP s = if F.1 = 0 then 40 else 0 := by
    rw [next_from, hF2]
    by_cases h0 : (bestS s).2.1 = 0
    · rw [if_pos h0, if_pos h0]
    · rw [if_neg h0, if_neg h0]
  have hnum : F.2.2.1 = (bestS s).2.1 := by
    rw [hF2]
    by_cases h0 : (bestS s).2.1 = 0
    · rw [if_pos h0, h0]
    · rw [if_neg h0]
  have herr : ¬ F.2.2.2 = 1 := by
    rw [hF2]
    by_cases h0 : (bestS s).2.1 = 0
    · rw [if_pos h0]
      exact (by decide : ¬ (9 : Nat) = 1)
    · rw [if_neg h0]
      exact (by decide : ¬ (0 : Nat) = 1)
  have HS2 := Lib.hid hS2
  have HAT := Lib.hid hat
  have HFF := Lib.hid hF
  have hoffE := hrel0.off
  have hNr : r.pgs.length = N := hrel0.num
  rw [← hS]
  clear h hrel0 ok hl hT hS hS2 hF hF2 hat
  go_enter Try.func13, Try.ntmps13
  go_wp2_with (first | ((with_reducible apply wpl_loadrow); (exact rfl); infer_instance; infer_instance; (first | (with_reducible assumption) | (with_reducible exact H32.size _) | kernel_rfl)) | ((with_reducible apply wpl_loadcellN); (exact rfl); infer_instance; (exact rfl)))
  refine (find_calls HF.out (by rw [hNr]; exact hN)).mono ?_
  unfold FindPost
  rw [← HFF.out]
  rintro e w1 ⟨B, m, d, rfl, _, _, _, _, _⟩
  have HF1 : Hid (RF w1 x T r) := Lib.hid (HF.out.calm (stepN (w0 := w)).chg)
  obtain ⟨E, hE⟩ : ∃ E : Int, E = (F.2.2.2 : Int) := ⟨_, rfl⟩
  obtain ⟨X, hX⟩ : ∃ X : Int, X = (F.2.2.1 : Int) := ⟨_, rfl⟩
  obtain ⟨Y, hY⟩ : ∃ Y : Int, Y = F.1 := ⟨_, rfl⟩
  rw [← hE, ← hX, ← hY]
  have hE1 : (E == 1) = false := by
    have : ¬ E = 1 := by omega
    simp [this]
  have HX : Hid (X = ((bestS s).2.1 : Int)) := Lib.hid (by rw [hX, hnum])
  have hx0 : 0 ≤ X := by omega
  rw [← hY] at HAT
  have hb : ∃ A0 k0 c0, HB w1 x 63 #[.slice A0 k0 c0, .int .i64 r.left, .int .i64 r.tear, .bool s.dead] := by
    obtain ⟨A0, k0, c0, rows, h1, _⟩ := HF1.out
    exact ⟨A0, k0, c0, ⟨by rw [← hoffE]; exact h1.head⟩⟩
  obtain ⟨A0, k0, c0, hb⟩ := hb
  have hno : ∀ w2, Step nowhere w w2 → Hid (RF w2 x T r) := fun w2 st => Lib.hid (HF.out.calm st.chg)
  clear hE hX hY hnum herr hoffE
  cases hd : s.dead with
  | true =>
    rw [hd] at hb
    have HS3 : Hid (S = (11, s)) := Lib.hid (by rw [HS2.out, hd, if_pos rfl])
    clear HS2 HF1
    go_wp2_with (first | ((with_reducible apply wpl_loadrow); (exact rfl); infer_instance; infer_instance; (first | (with_reducible assumption) | (with_reducible exact H32.size _) | kernel_rfl)) | ((with_reducible apply wpl_loadcellN); (exact rfl); infer_instance; (exact rfl)))
    go_ret
    rw [HS3.out]
    exact ⟨rfl, ⟨r, (hno _ stepN).out, HREL.out⟩, ⟨(stepN (w0 := w)).chg.mono (fun _ _ h => h.elim)⟩⟩
  | false =>
    rw [hd] at hb HS2
    by_cases h25 : 2500 < n
    · have h25I : 2500 < (n : Int) := by omega
      have HS3 : Hid (S = (10, s)) := Lib.hid (by rw [HS2.out, if_neg (by decide), if_pos h25])
      clear HS2 HF1
      go_wp2_with (first | ((with_reducible apply wpl_loadrow); (exact rfl); infer_instance; infer_instance; (first | (with_reducible assumption) | (with_reducible exact H32.size _) | kernel_rfl)) | ((with_reducible apply wpl_loadcellN); (exact rfl); infer_instance; (exact rfl)))
      go_ret
      rw [HS3.out]
      exact ⟨rfl, ⟨r, (hno _ stepN).out, HREL.out⟩, ⟨(stepN (w0 := w)).chg.mono (fun _ _ h => h.elim)⟩⟩
    · have h25I : ¬ 2500 < (n : Int) := by omega
      by_cases h30 : 1073741824 ≤ X
      · have HS3 : Hid (S = (12, s)) := Lib.hid (by rw [HS2.out, if_neg (by decide), if_neg h25, if_pos (by have := HX.out; omega)])
        clear HS2 HF1
        go_wp2_with (first | ((with_reducible apply wpl_loadrow); (exact rfl); infer_instance; infer_instance; (first | (with_reducible assumption) | (with_reducible exact H32.size _) | kernel_rfl)) | ((with_reducible apply wpl_loadcellN); (exact rfl); infer_instance; (exact rfl)))
        go_ret
        rw [HS3.out]
        exact ⟨rfl, ⟨r, (hno _ stepN).out, HREL.out⟩, ⟨(stepN (w0 := w)).chg.mono (fun _ _ h => h.elim)⟩⟩
      · have HS3 : Hid (S = writeS N s (nextP s) (packS (((bestS s).2.1 + 1 : Nat) : Int) b)) := Lib.hid (by rw [HS2.out, if_neg (by decide), if_neg h25, if_neg (by have := HX.out; omega)])
        clear HS2 HF1
        by_cases hY : Y = 0
        · have eY : (Y != 0) = false := by simp [hY]
          have hfr : nextP s = 40 := by rw [HAT.out, if_pos hY]
          clear hY HAT
          obtain ⟨P, hP⟩ : ∃ P, P = packS (((bestS s).2.1 + 1 : Nat) : Int) b := ⟨_, rfl⟩
          have hPl : P.length ≤ 2550 ∧ 32 ≤ P.length := by
            rw [hP, packS_len]
            have := packN_len (((bestS s).2.1 + 1 : Nat) : Int) b (by have := HLL.out; omega)
            have := HLL.out
            omega
          have hX1 : X + 1 = (((bestS s).2.1 + 1 : Nat) : Int) := by have := HX.out; omega
          have HX1 := Lib.hid hX1
          have HP := Lib.hid hP
          have HPL0 := Lib.hid hPl
          rw [hfr, ← hP] at HS3
          clear hP hX1 hPl
          go_wp2_with (first | ((with_reducible apply wpl_loadrow); (exact rfl); infer_instance; infer_instance; (first | (with_reducible assumption) | (with_reducible exact H32.size _) | kernel_rfl)) | ((with_reducible apply wpl_loadcellN); (exact rfl); infer_instance; (exact rfl)))
          refine (refPackN_calls (b := b) (X + 1) HLL.out (by omega)).mono ?_
          rw [HX1.out, ← HP.out]
          rintro e w3 ⟨A3, n3, c3, rfl, hl3, hc3, hA3, hnA3, _⟩
          have h30 : 32 ≤ n3 := by have := HPL0.out; omega
          have h3m : n3 ≤ 2550 := by have := HPL0.out; omega
          obtain ⟨many, hmany⟩ : ∃ many, many = manyC n3 := ⟨_, rfl⟩
          have hm1 : 1 ≤ many := by rw [hmany]; unfold manyC; omega
          have hm2 : many ≤ 40 := by rw [hmany]; unfold manyC; omega
          have hm3 : 64 * many ≤ n3 + 63 := by rw [hmany]; unfold manyC; omega
          have hquo : ((n3 : Int) + 64 - 1).tdiv 64 = (many : Int) := by
            rw [hmany, manyC, Int.tdiv_eq_ediv_of_nonneg (by omega)]
            omega
          have hmc : manyC P.length = many := by rw [hl3, hmany]
          have HWE : Hid (∀ k, k ≤ many → (eraseK N s 40 k).1 ≠ 0 → S = eraseK N s 40 k) := Lib.hid (fun k hk h => by rw [HS3.out]; exact write_erase (by rw [hmc]; exact hk) h)
          have HWP : Hid (∀ k, k ≤ many → (progK N (eraseK N s 40 many) 40 P many k).1 ≠ 0 → S = progK N (eraseK N s 40 many) 40 P many k) := Lib.hid (fun k hk h => by
            rw [HS3.out]
            have := write_prog (N := N) (s := s) (first := 40) (k := k) (b := P) (by rw [hmc]; exact hk) (by rw [hmc]; exact h)
            rw [hmc] at this
            exact this)
          have HWF : Hid (S = progK N (eraseK N s 40 many) 40 P many many) := Lib.hid (by rw [HS3.out, writeS, hmc])
          have HL3 := Lib.hid hl3
          have HPB : Hid (∀ ad, A3 = some ad → ¬ T ad.block) := Lib.hid (fun ad e hk => by
            have h1 := hnA3.out ad e
            have h2 := HT.out _ hk
            have h3 := (stepN (w0 := w) (w := w1)).chg.size
            omega)
          have oP : OffR T A3 (bs P) := ⟨fun _ ad e h => HPB.out ad e h⟩
          have n3w : Nw w w3 := inferInstance
          have HF3 : Hid (RF w3 x T r) := hno _ stepN
          clear hl3 hmany hmc HS3 hno
          go_wp2_with (first | ((with_reducible apply wpl_loadrow); (exact rfl); infer_instance; infer_instance; (first | (with_reducible assumption) | (with_reducible exact H32.size _) | kernel_rfl)) | ((with_reducible apply wpl_loadcellN); (exact rfl); infer_instance; (exact rfl)))
          go_loopw [12] (fun iv wr => ∃ k : Nat, k ≤ many ∧ iv = .int .i64 (k : Int) ∧ Step T w wr ∧ HR wr A3 (bs P) ∧ Hid ((eraseK N s 40 k).1 = 0) ∧ Hid (∃ r', RF wr x T r' ∧ Rel (eraseK N s 40 k).2 r' N)) (fun iv _ => many - (intOf iv).toNat)
          case atStart => exact ⟨0, Nat.zero_le _, rfl, ⟨n3w.out.mono (fun _ _ h => h.elim)⟩, inferInstance, Lib.hid rfl, Lib.hid ⟨r, HF3.out, HREL.out⟩⟩
          case round =>
            obtain ⟨k, hk, rfl, st, hPr, HE0, HFr⟩ := hrel
            by_cases hlt : k < many
            · have hltI : (k : Int) < many := by omega
              obtain ⟨q, hq⟩ : ∃ q, q = (eraseK N s 40 k).2.change N ((40 + k : Nat) : Int) 64 erD := ⟨_, rfl⟩
              have hq2 : eraseK N s 40 (k + 1) = q := by rw [hq, eraseK, if_pos HE0.out]
              have HQ2 := Lib.hid hq2
              have HQ1 := Lib.hid hq
              have okk := Lib.hid (eraseK_ok 40 HOK.out k)
              clear hq hq2
              obtain ⟨r', hRF, hRl⟩ := HFr.out
              have HRF := Lib.hid hRF
              have HRl := Lib.hid hRl
              clear hRF hRl
              go_wp2_with (first | ((with_reducible apply wpl_loadrow); (exact rfl); infer_instance; infer_instance; (first | (with_reducible assumption) | (with_reducible exact H32.size _) | kernel_rfl)) | ((with_reducible apply wpl_loadcellN); (exact rfl); infer_instance; (exact rfl)))
              refine (rErase_at _ (40 + k) (by omega) HRF.out HRl.out okk.out).mono ?_
              rw [← HQ1.out]
              rintro e w5 ⟨rfl, H5, s5⟩
              have sw5 : Step T w w5 := ⟨st.chg.trans s5.chg (fun _ _ h => h)⟩
              by_cases hz0 : q.1 = 0
              · have e1 : ((q.1 : Int) != 0) = false := by simp [hz0]
                have HZ0 := Lib.hid hz0
                clear hz0
                go_wp2_with (first | ((with_reducible apply wpl_loadrow); (exact rfl); infer_instance; infer_instance; (first | (with_reducible assumption) | (with_reducible exact H32.size _) | kernel_rfl)) | ((with_reducible apply wpl_loadcellN); (exact rfl); infer_instance; (exact rfl)))
                exact ⟨⟨k + 1, by omega, by go_num, sw5, inferInstance, Lib.hid (by rw [HQ2.out]; exact HZ0.out), Lib.hid (by rw [HQ2.out]; exact H5.out)⟩, by simp [intOf]; omega⟩
              · have e1 : ((q.1 : Int) != 0) = true := by simp [hz0]
                have hwr : S = q := by
                  have h := HWE.out (k + 1) (by omega) (by rw [HQ2.out]; exact hz0)
                  rw [HQ2.out] at h
                  exact h
                have HWR := Lib.hid hwr
                clear hz0 hwr
                go_wp2_with (first | ((with_reducible apply wpl_loadrow); (exact rfl); infer_instance; infer_instance; (first | (with_reducible assumption) | (with_reducible exact H32.size _) | kernel_rfl)) | ((with_reducible apply wpl_loadcellN); (exact rfl); infer_instance; (exact rfl)))
                go_ret
                rw [HWR.out]
                exact ⟨rfl, H5.out, sw5⟩
            · have hltI : ¬ (k : Int) < many := by omega
              obtain rfl : k = many := by omega
              obtain ⟨G, hG⟩ : ∃ G, G = eraseK N s 40 k := ⟨_, rfl⟩
              have HWP2 : Hid (∀ j, j ≤ k → (progK N G 40 P k j).1 ≠ 0 → S = progK N G 40 P k j) := Lib.hid (by rw [hG]; exact HWP.out)
              have HWF2 : Hid (S = progK N G 40 P k k) := Lib.hid (by rw [hG]; exact HWF.out)
              have HGok : Hid (G.2.ok N) := Lib.hid (by rw [hG]; exact eraseK_ok 40 HOK.out k)
              rw [← hG] at HE0 HFr
              clear hG HWE HWP HWF
              go_wp2_with (first | ((with_reducible apply wpl_loadrow); (exact rfl); infer_instance; infer_instance; (first | (with_reducible assumption) | (with_reducible exact H32.size _) | kernel_rfl)) | ((with_reducible apply wpl_loadcellN); (exact rfl); infer_instance; (exact rfl)))
              go_loopw [14] (fun iv wt => ∃ j : Nat, j ≤ k ∧ iv = .int .i64 ((j : Int) + 1) ∧ Step T w wt ∧ HR wt A3 (bs P) ∧ Hid ((progK N G 40 P k j).1 = 0) ∧ Hid (∃ r', RF wt x T r' ∧ Rel (progK N G 40 P k j).2 r' N)) (fun iv _ => k + 1 - (intOf iv).toNat)
              case atStart => exact ⟨0, Nat.zero_le _, rfl, st, hPr, HE0, HFr⟩
              case round =>
                obtain ⟨j, hj, rfl, st2, hPt, HP0, HFt⟩ := hrel
                by_cases hlt2 : j < k
                · have hlt2I : (j : Int) + 1 ≤ (k : Int) := by omega
                  obtain ⟨y, hy⟩ : ∃ y, y = (j + 1) % k := ⟨_, rfl⟩
                  have hyk : y < k := by rw [hy]; exact Nat.mod_lt _ (by omega)
                  have hrem : ((j : Int) + 1).tmod (k : Int) = (y : Int) := by
                    rw [hy]
                    exact (Int.ofNat_tmod (j + 1) k).symm
                  have HREM := Lib.hid hrem
                  obtain ⟨q, hq⟩ : ∃ q, q = (progK N G 40 P k j).2.change N ((40 + y : Nat) : Int) (pieceB P y).length (prD (pieceB P y)) := ⟨_, rfl⟩
                  have hq2 : progK N G 40 P k (j + 1) = q := by rw [hq, progK, if_pos HP0.out, hy]
                  have HQ2 := Lib.hid hq2
                  have HQ1 := Lib.hid hq
                  have okj := Lib.hid (progK_ok 40 P k HGok.out j)
                  have hk0n : ¬ k = 0 := by omega
                  obtain ⟨r', hRF, hRl⟩ := HFt.out
                  have HRF := Lib.hid hRF
                  have HRl := Lib.hid hRl
                  clear hq hq2 hy hRF hRl
                  go_wp2_with (first | ((with_reducible apply wpl_loadrow); (exact rfl); infer_instance; infer_instance; (first | (with_reducible assumption) | (with_reducible exact H32.size _) | kernel_rfl)) | ((with_reducible apply wpl_loadcellN); (exact rfl); infer_instance; (exact rfl)))
                  refine wp_region_N ((T)) (by kernel_rfl) (fun wd _ _ => ?_)
                  refine' takeH (i := 0) (v := _) rfl (by kernel_rfl) (by kernel_rfl) (by kernel_rfl) (fun _ _ _ h => h) (yields_of (by rfl) (fun w' _ => ?_)) inferInstance ?_
                  rotate_left
                  · (go_simp; try with_reducible rfl)
                  try simp only [Act.put, sA]; try simp only [sB, sC]
                  refine' takeH (i := 1) (v := _) rfl (by kernel_rfl) (by kernel_rfl) (by kernel_rfl) (fun _ _ _ h => h) (yields_of (by rfl) (fun w' _ => ?_)) inferInstance ?_
                  rotate_left
                  · (go_simp; try with_reducible rfl)
                  try simp only [Act.put, sA]; try simp only [sB, sC]
                  refine' takeH (i := 2) (v := _) rfl (by kernel_rfl) (by kernel_rfl) (by kernel_rfl) (fun _ _ _ h => h) (yields_of (by rfl) (fun w' _ => ?_)) inferInstance ?_
                  rotate_left
                  · (go_simp; try with_reducible rfl)
                  try simp only [Act.put, sA]; try simp only [sB, sC]
                  refine' takeH (i := 3) (v := _) rfl (by kernel_rfl) (by kernel_rfl) (by kernel_rfl) (fun _ _ _ h => h) (yields_of (by rfl) (fun w' _ => ?_)) inferInstance ?_
                  rotate_left
                  · (go_simp; try with_reducible rfl)
                  try simp only [Act.put, sA]; try simp only [sB, sC]
                  refine' takeH (i := 4) (v := _) rfl (by kernel_rfl) (by kernel_rfl) (by kernel_rfl) (fun _ _ _ h => h) (yields_of (by rfl) (fun w' _ => ?_)) inferInstance ?_
                  rotate_left
                  · (go_simp; try with_reducible rfl)
                  try simp only [Act.put, sA]; try simp only [sB, sC]
                  try simp only [HREM.out]
                  refine' takeH (i := 5) (v := _) rfl (by kernel_rfl) (by kernel_rfl) (by kernel_rfl) (fun _ _ _ h => h) (yields_of (by rfl) (fun w' _ => ?_)) inferInstance ?_
                  rotate_left
                  · (go_simp; try with_reducible rfl)
                  try simp only [Act.put, sA]; try simp only [sB, sC]
                  try simp only [HREM.out]
                  refine' takeH (i := 6) (v := _) rfl (by kernel_rfl) (by kernel_rfl) (by kernel_rfl) (fun _ _ _ h => h) (yields_of (by rfl) (fun w' _ => ?_)) inferInstance ?_
                  rotate_left
                  · (go_simp; try with_reducible rfl)
                  try simp only [Act.put, sA]; try simp only [sB, sC]
                  refine' takeH (i := 7) (v := _) rfl (by kernel_rfl) (by kernel_rfl) (by kernel_rfl) (fun _ _ _ h => h) (yields_of (by rfl) (fun w' _ => ?_)) inferInstance ?_
                  rotate_left
                  · (go_simp; try with_reducible rfl)
                  try simp only [Act.put, sA]; try simp only [sB, sC]
                  refine' takeH (i := 8) (v := _) rfl (by kernel_rfl) (by kernel_rfl) (by kernel_rfl) (fun _ _ _ h => h) (yields_of (by rfl) (fun w' _ => ?_)) inferInstance ?_
                  rotate_left
                  · (go_simp; try with_reducible rfl)
                  try simp only [Act.put, sA]; try simp only [sB, sC]
                  refine' takeH (i := 9) (v := _) rfl (by kernel_rfl) (by kernel_rfl) (by kernel_rfl) (fun _ _ _ h => h) (yields_of (by rfl) (fun w' _ => ?_)) inferInstance ?_
                  rotate_left
                  · (go_simp; try with_reducible rfl)
                  try simp only [Act.put, sA]; try simp only [sB, sC]
                  try simp only [HREM.out]
                  refine goH (i := 10) (by kernel_rfl) rfl (fun K_ hK_ => ?_)
                  go_simp
                  refine (part_calls (b := P) y _ (by first | rfl | exact HREM.out) HL3.out hc3 (by omega) (by omega)).mono ?_
                  rintro e w6 ⟨A7, c7, m7, rfl, hpl7, hr7, hblk7, s6⟩
                  have hm7 : m7 ≤ 1000000 := by rw [← hpl7, pieceB, List.length_take]; omega
                  have HRF6 : Hid (RF w6 x T r') := Lib.hid (HRF.out.calm (stepN (w0 := wr) (w := w6)).chg)
                  have HAP : Hid (Apart T A7 (bs (pieceB P y))) := Lib.hid (fun _ ad e h => by
                    obtain ⟨ad0, e0, e1⟩ := hblk7 ad e
                    rw [e1] at h
                    exact HPB.out ad0 e0 h)
                  have HPL7 := Lib.hid hpl7
                  clear hpl7 hblk7
                  refine hK_.out _ _ inferInstance (fun _ => ?_)
                  clear hK_ K_
                  try simp only [Act.put, sA]; try simp only [sB, sC]
                  refine goH (i := 11) (by kernel_rfl) rfl (fun K_ hK_ => ?_)
                  go_simp
                  refine (rProg_at _ (40 + y) (by first | omega | (rw [IntKind.wrap_i64]; omega)) HRF6.out HRl.out okj.out HPL7.out HAP.out hm7).mono ?_
                  rw [← HQ1.out]
                  rintro e w7 ⟨rfl, H7, s7⟩
                  have sw7 : Step T w w7 := ⟨(st2.chg.trans (stepN (w0 := wr) (w := w6)).chg (fun _ _ h => h.elim)).trans s7.chg (fun _ _ h => h)⟩
                  refine hK_.out _ _ inferInstance (fun _ => ?_)
                  clear hK_ K_
                  try simp only [Act.put, sA]; try simp only [sB, sC]
                  refine' takeH (i := 12) (v := _) rfl (by kernel_rfl) (by kernel_rfl) (by kernel_rfl) (fun _ _ _ h => h) (yields_of (by rfl) (fun w' _ => ?_)) inferInstance ?_
                  rotate_left
                  · (go_simp; try with_reducible rfl)
                  try simp only [Act.put, sA]; try simp only [sB, sC]
                  refine wpAnyH_done (by kernel_rfl) ?_ _
                  by_cases hz0 : q.1 = 0
                  · have e1 : ((q.1 : Int) != 0) = false := by simp [hz0]
                    have HZ0 := Lib.hid hz0
                    clear hz0
                    go_wp2_with (first | ((with_reducible apply wpl_loadrow); (exact rfl); infer_instance; infer_instance; (first | (with_reducible assumption) | (with_reducible exact H32.size _) | kernel_rfl)) | ((with_reducible apply wpl_loadcellN); (exact rfl); infer_instance; (exact rfl)))
                    exact ⟨⟨j + 1, by omega, by go_num, sw7, inferInstance, Lib.hid (by rw [HQ2.out]; exact HZ0.out), Lib.hid (by rw [HQ2.out]; exact H7.out)⟩, by simp [intOf]; omega⟩
                  · have e1 : ((q.1 : Int) != 0) = true := by simp [hz0]
                    have hwr : S = q := by
                      have h := HWP2.out (j + 1) (by omega) (by rw [HQ2.out]; exact hz0)
                      rw [HQ2.out] at h
                      exact h
                    have HWR := Lib.hid hwr
                    clear hz0 hwr
                    go_wp2_with (first | ((with_reducible apply wpl_loadrow); (exact rfl); infer_instance; infer_instance; (first | (with_reducible assumption) | (with_reducible exact H32.size _) | kernel_rfl)) | ((with_reducible apply wpl_loadcellN); (exact rfl); infer_instance; (exact rfl)))
                    go_ret
                    rw [HWR.out]
                    exact ⟨rfl, H7.out, sw7⟩
                · have hlt2I : ¬ (j : Int) + 1 ≤ (k : Int) := by omega
                  obtain rfl : j = k := by omega
                  go_wp2_with (first | ((with_reducible apply wpl_loadrow); (exact rfl); infer_instance; infer_instance; (first | (with_reducible assumption) | (with_reducible exact H32.size _) | kernel_rfl)) | ((with_reducible apply wpl_loadcellN); (exact rfl); infer_instance; (exact rfl)))
                  go_ret
                  rw [HWF2.out, HP0.out]
                  exact ⟨rfl, HFt.out, st2⟩
        · have eY : (Y != 0) = true := by simp [hY]
          have hfr : nextP s = 0 := by rw [HAT.out, if_neg hY]
          clear hY HAT
          obtain ⟨P, hP⟩ : ∃ P, P = packS (((bestS s).2.1 + 1 : Nat) : Int) b := ⟨_, rfl⟩
          have hPl : P.length ≤ 2550 ∧ 32 ≤ P.length := by
            rw [hP, packS_len]
            have := packN_len (((bestS s).2.1 + 1 : Nat) : Int) b (by have := HLL.out; omega)
            have := HLL.out
            omega
          have hX1 : X + 1 = (((bestS s).2.1 + 1 : Nat) : Int) := by have := HX.out; omega
          have HX1 := Lib.hid hX1
          have HP := Lib.hid hP
          have HPL0 := Lib.hid hPl
          rw [hfr, ← hP] at HS3
          clear hP hX1 hPl
          go_wp2_with (first | ((with_reducible apply wpl_loadrow); (exact rfl); infer_instance; infer_instance; (first | (with_reducible assumption) | (with_reducible exact H32.size _) | kernel_rfl)) | ((with_reducible apply wpl_loadcellN); (exact rfl); infer_instance; (exact rfl)))
          refine (refPackN_calls (b := b) (X + 1) HLL.out (by omega)).mono ?_
          rw [HX1.out, ← HP.out]
          rintro e w3 ⟨A3, n3, c3, rfl, hl3, hc3, hA3, hnA3, _⟩
          have h30 : 32 ≤ n3 := by have := HPL0.out; omega
          have h3m : n3 ≤ 2550 := by have := HPL0.out; omega
          obtain ⟨many, hmany⟩ : ∃ many, many = manyC n3 := ⟨_, rfl⟩
          have hm1 : 1 ≤ many := by rw [hmany]; unfold manyC; omega
          have hm2 : many ≤ 40 := by rw [hmany]; unfold manyC; omega
          have hm3 : 64 * many ≤ n3 + 63 := by rw [hmany]; unfold manyC; omega
          have hquo : ((n3 : Int) + 64 - 1).tdiv 64 = (many : Int) := by
            rw [hmany, manyC, Int.tdiv_eq_ediv_of_nonneg (by omega)]
            omega
          have hmc : manyC P.length = many := by rw [hl3, hmany]
          have HWE : Hid (∀ k, k ≤ many → (eraseK N s 0 k).1 ≠ 0 → S = eraseK N s 0 k) := Lib.hid (fun k hk h => by rw [HS3.out]; exact write_erase (by rw [hmc]; exact hk) h)
          have HWP : Hid (∀ k, k ≤ many → (progK N (eraseK N s 0 many) 0 P many k).1 ≠ 0 → S = progK N (eraseK N s 0 many) 0 P many k) := Lib.hid (fun k hk h => by
            rw [HS3.out]
            have := write_prog (N := N) (s := s) (first := 0) (k := k) (b := P) (by rw [hmc]; exact hk) (by rw [hmc]; exact h)
            rw [hmc] at this
            exact this)
          have HWF : Hid (S = progK N (eraseK N s 0 many) 0 P many many) := Lib.hid (by rw [HS3.out, writeS, hmc])
          have HL3 := Lib.hid hl3
          have HPB : Hid (∀ ad, A3 = some ad → ¬ T ad.block) := Lib.hid (fun ad e hk => by
            have h1 := hnA3.out ad e
            have h2 := HT.out _ hk
            have h3 := (stepN (w0 := w) (w := w1)).chg.size
            omega)
          have oP : OffR T A3 (bs P) := ⟨fun _ ad e h => HPB.out ad e h⟩
          have n3w : Nw w w3 := inferInstance
          have HF3 : Hid (RF w3 x T r) := hno _ stepN
          clear hl3 hmany hmc HS3 hno
          go_wp2_with (first | ((with_reducible apply wpl_loadrow); (exact rfl); infer_instance; infer_instance; (first | (with_reducible assumption) | (with_reducible exact H32.size _) | kernel_rfl)) | ((with_reducible apply wpl_loadcellN); (exact rfl); infer_instance; (exact rfl)))
          go_loopw [12] (fun iv wr => ∃ k : Nat, k ≤ many ∧ iv = .int .i64 (k : Int) ∧ Step T w wr ∧ HR wr A3 (bs P) ∧ Hid ((eraseK N s 0 k).1 = 0) ∧ Hid (∃ r', RF wr x T r' ∧ Rel (eraseK N s 0 k).2 r' N)) (fun iv _ => many - (intOf iv).toNat)
          case atStart => exact ⟨0, Nat.zero_le _, rfl, ⟨n3w.out.mono (fun _ _ h => h.elim)⟩, inferInstance, Lib.hid rfl, Lib.hid ⟨r, HF3.out, HREL.out⟩⟩
          case round =>
            obtain ⟨k, hk, rfl, st, hPr, HE0, HFr⟩ := hrel
            by_cases hlt : k < many
            · have hltI : (k : Int) < many := by omega
              obtain ⟨q, hq⟩ : ∃ q, q = (eraseK N s 0 k).2.change N ((0 + k : Nat) : Int) 64 erD := ⟨_, rfl⟩
              have hq2 : eraseK N s 0 (k + 1) = q := by rw [hq, eraseK, if_pos HE0.out]
              have HQ2 := Lib.hid hq2
              have HQ1 := Lib.hid hq
              have okk := Lib.hid (eraseK_ok 0 HOK.out k)
              clear hq hq2
              obtain ⟨r', hRF, hRl⟩ := HFr.out
              have HRF := Lib.hid hRF
              have HRl := Lib.hid hRl
              clear hRF hRl
              go_wp2_with (first | ((with_reducible apply wpl_loadrow); (exact rfl); infer_instance; infer_instance; (first | (with_reducible assumption) | (with_reducible exact H32.size _) | kernel_rfl)) | ((with_reducible apply wpl_loadcellN); (exact rfl); infer_instance; (exact rfl)))
              refine (rErase_at _ (0 + k) (by omega) HRF.out HRl.out okk.out).mono ?_
              rw [← HQ1.out]
              rintro e w5 ⟨rfl, H5, s5⟩
              have sw5 : Step T w w5 := ⟨st.chg.trans s5.chg (fun _ _ h => h)⟩
              by_cases hz0 : q.1 = 0
              · have e1 : ((q.1 : Int) != 0) = false := by simp [hz0]
                have HZ0 := Lib.hid hz0
                clear hz0
                go_wp2_with (first | ((with_reducible apply wpl_loadrow); (exact rfl); infer_instance; infer_instance; (first | (with_reducible assumption) | (with_reducible exact H32.size _) | kernel_rfl)) | ((with_reducible apply wpl_loadcellN); (exact rfl); infer_instance; (exact rfl)))
                exact ⟨⟨k + 1, by omega, by go_num, sw5, inferInstance, Lib.hid (by rw [HQ2.out]; exact HZ0.out), Lib.hid (by rw [HQ2.out]; exact H5.out)⟩, by simp [intOf]; omega⟩
              · have e1 : ((q.1 : Int) != 0) = true := by simp [hz0]
                have hwr : S = q := by
                  have h := HWE.out (k + 1) (by omega) (by rw [HQ2.out]; exact hz0)
                  rw [HQ2.out] at h
                  exact h
                have HWR := Lib.hid hwr
                clear hz0 hwr
                go_wp2_with (first | ((with_reducible apply wpl_loadrow); (exact rfl); infer_instance; infer_instance; (first | (with_reducible assumption) | (with_reducible exact H32.size _) | kernel_rfl)) | ((with_reducible apply wpl_loadcellN); (exact rfl); infer_instance; (exact rfl)))
                go_ret
                rw [HWR.out]
                exact ⟨rfl, H5.out, sw5⟩
            · have hltI : ¬ (k : Int) < many := by omega
              obtain rfl : k = many := by omega
              obtain ⟨G, hG⟩ : ∃ G, G = eraseK N s 0 k := ⟨_, rfl⟩
              have HWP2 : Hid (∀ j, j ≤ k → (progK N G 0 P k j).1 ≠ 0 → S = progK N G 0 P k j) := Lib.hid (by rw [hG]; exact HWP.out)
              have HWF2 : Hid (S = progK N G 0 P k k) := Lib.hid (by rw [hG]; exact HWF.out)
              have HGok : Hid (G.2.ok N) := Lib.hid (by rw [hG]; exact eraseK_ok 0 HOK.out k)
              rw [← hG] at HE0 HFr
              clear hG HWE HWP HWF
              go_wp2_with (first | ((with_reducible apply wpl_loadrow); (exact rfl); infer_instance; infer_instance; (first | (with_reducible assumption) | (with_reducible exact H32.size _) | kernel_rfl)) | ((with_reducible apply wpl_loadcellN); (exact rfl); infer_instance; (exact rfl)))
              go_loopw [14] (fun iv wt => ∃ j : Nat, j ≤ k ∧ iv = .int .i64 ((j : Int) + 1) ∧ Step T w wt ∧ HR wt A3 (bs P) ∧ Hid ((progK N G 0 P k j).1 = 0) ∧ Hid (∃ r', RF wt x T r' ∧ Rel (progK N G 0 P k j).2 r' N)) (fun iv _ => k + 1 - (intOf iv).toNat)
              case atStart => exact ⟨0, Nat.zero_le _, rfl, st, hPr, HE0, HFr⟩
              case round =>
                obtain ⟨j, hj, rfl, st2, hPt, HP0, HFt⟩ := hrel
                by_cases hlt2 : j < k
                · have hlt2I : (j : Int) + 1 ≤ (k : Int) := by omega
                  obtain ⟨y, hy⟩ : ∃ y, y = (j + 1) % k := ⟨_, rfl⟩
                  have hyk : y < k := by rw [hy]; exact Nat.mod_lt _ (by omega)
                  have hrem : ((j : Int) + 1).tmod (k : Int) = (y : Int) := by
                    rw [hy]
                    exact (Int.ofNat_tmod (j + 1) k).symm
                  have HREM := Lib.hid hrem
                  obtain ⟨q, hq⟩ : ∃ q, q = (progK N G 0 P k j).2.change N ((0 + y : Nat) : Int) (pieceB P y).length (prD (pieceB P y)) := ⟨_, rfl⟩
                  have hq2 : progK N G 0 P k (j + 1) = q := by rw [hq, progK, if_pos HP0.out, hy]
                  have HQ2 := Lib.hid hq2
                  have HQ1 := Lib.hid hq
                  have okj := Lib.hid (progK_ok 0 P k HGok.out j)
                  have hk0n : ¬ k = 0 := by omega
                  obtain ⟨r', hRF, hRl⟩ := HFt.out
                  have HRF := Lib.hid hRF
                  have HRl := Lib.hid hRl
                  clear hq hq2 hy hRF hRl
                  go_wp2_with (first | ((with_reducible apply wpl_loadrow); (exact rfl); infer_instance; infer_instance; (first | (with_reducible assumption) | (with_reducible exact H32.size _) | kernel_rfl)) | ((with_reducible apply wpl_loadcellN); (exact rfl); infer_instance; (exact rfl)))
                  refine wp_region_N ((T)) (by kernel_rfl) (fun wd _ _ => ?_)
                  refine' takeH (i := 0) (v := _) rfl (by kernel_rfl) (by kernel_rfl) (by kernel_rfl) (fun _ _ _ h => h) (yields_of (by rfl) (fun w' _ => ?_)) inferInstance ?_
                  rotate_left
                  · (go_simp; try with_reducible rfl)
                  try simp only [Act.put, sA]; try simp only [sB, sC]
                  refine' takeH (i := 1) (v := _) rfl (by kernel_rfl) (by kernel_rfl) (by kernel_rfl) (fun _ _ _ h => h) (yields_of (by rfl) (fun w' _ => ?_)) inferInstance ?_
                  rotate_left
                  · (go_simp; try with_reducible rfl)
                  try simp only [Act.put, sA]; try simp only [sB, sC]
                  refine' takeH (i := 2) (v := _) rfl (by kernel_rfl) (by kernel_rfl) (by kernel_rfl) (fun _ _ _ h => h) (yields_of (by rfl) (fun w' _ => ?_)) inferInstance ?_
                  rotate_left
                  · (go_simp; try with_reducible rfl)
                  try simp only [Act.put, sA]; try simp only [sB, sC]
                  refine' takeH (i := 3) (v := _) rfl (by kernel_rfl) (by kernel_rfl) (by kernel_rfl) (fun _ _ _ h => h) (yields_of (by rfl) (fun w' _ => ?_)) inferInstance ?_
                  rotate_left
                  · (go_simp; try with_reducible rfl)
                  try simp only [Act.put, sA]; try simp only [sB, sC]
                  refine' takeH (i := 4) (v := _) rfl (by kernel_rfl) (by kernel_rfl) (by kernel_rfl) (fun _ _ _ h => h) (yields_of (by rfl) (fun w' _ => ?_)) inferInstance ?_
                  rotate_left
                  · (go_simp; try with_reducible rfl)
                  try simp only [Act.put, sA]; try simp only [sB, sC]
                  try simp only [HREM.out]
                  refine' takeH (i := 5) (v := _) rfl (by kernel_rfl) (by kernel_rfl) (by kernel_rfl) (fun _ _ _ h => h) (yields_of (by rfl) (fun w' _ => ?_)) inferInstance ?_
                  rotate_left
                  · (go_simp; try with_reducible rfl)
                  try simp only [Act.put, sA]; try simp only [sB, sC]
                  try simp only [HREM.out]
                  refine' takeH (i := 6) (v := _) rfl (by kernel_rfl) (by kernel_rfl) (by kernel_rfl) (fun _ _ _ h => h) (yields_of (by rfl) (fun w' _ => ?_)) inferInstance ?_
                  rotate_left
                  · (go_simp; try with_reducible rfl)
                  try simp only [Act.put, sA]; try simp only [sB, sC]
                  refine' takeH (i := 7) (v := _) rfl (by kernel_rfl) (by kernel_rfl) (by kernel_rfl) (fun _ _ _ h => h) (yields_of (by rfl) (fun w' _ => ?_)) inferInstance ?_
                  rotate_left
                  · (go_simp; try with_reducible rfl)
                  try simp only [Act.put, sA]; try simp only [sB, sC]
                  refine' takeH (i := 8) (v := _) rfl (by kernel_rfl) (by kernel_rfl) (by kernel_rfl) (fun _ _ _ h => h) (yields_of (by rfl) (fun w' _ => ?_)) inferInstance ?_
                  rotate_left
                  · (go_simp; try with_reducible rfl)
                  try simp only [Act.put, sA]; try simp only [sB, sC]
                  refine' takeH (i := 9) (v := _) rfl (by kernel_rfl) (by kernel_rfl) (by kernel_rfl) (fun _ _ _ h => h) (yields_of (by rfl) (fun w' _ => ?_)) inferInstance ?_
                  rotate_left
                  · (go_simp; try with_reducible rfl)
                  try simp only [Act.put, sA]; try simp only [sB, sC]
                  try simp only [HREM.out]
                  refine goH (i := 10) (by kernel_rfl) rfl (fun K_ hK_ => ?_)
                  go_simp
                  refine (part_calls (b := P) y _ (by first | rfl | exact HREM.out) HL3.out hc3 (by omega) (by omega)).mono ?_
                  rintro e w6 ⟨A7, c7, m7, rfl, hpl7, hr7, hblk7, s6⟩
                  have hm7 : m7 ≤ 1000000 := by rw [← hpl7, pieceB, List.length_take]; omega
                  have HRF6 : Hid (RF w6 x T r') := Lib.hid (HRF.out.calm (stepN (w0 := wr) (w := w6)).chg)
                  have HAP : Hid (Apart T A7 (bs (pieceB P y))) := Lib.hid (fun _ ad e h => by
                    obtain ⟨ad0, e0, e1⟩ := hblk7 ad e
                    rw [e1] at h
                    exact HPB.out ad0 e0 h)
                  have HPL7 := Lib.hid hpl7
                  clear hpl7 hblk7
                  refine hK_.out _ _ inferInstance (fun _ => ?_)
                  clear hK_ K_
                  try simp only [Act.put, sA]; try simp only [sB, sC]
                  refine goH (i := 11) (by kernel_rfl) rfl (fun K_ hK_ => ?_)
                  go_simp
                  refine (rProg_at _ (0 + y) (by first | omega | (rw [IntKind.wrap_i64]; omega)) HRF6.out HRl.out okj.out HPL7.out HAP.out hm7).mono ?_
                  rw [← HQ1.out]
                  rintro e w7 ⟨rfl, H7, s7⟩
                  have sw7 : Step T w w7 := ⟨(st2.chg.trans (stepN (w0 := wr) (w := w6)).chg (fun _ _ h => h.elim)).trans s7.chg (fun _ _ h => h)⟩
                  refine hK_.out _ _ inferInstance (fun _ => ?_)
                  clear hK_ K_
                  try simp only [Act.put, sA]; try simp only [sB, sC]
                  refine' takeH (i := 12) (v := _) rfl (by kernel_rfl) (by kernel_rfl) (by kernel_rfl) (fun _ _ _ h => h) (yields_of (by rfl) (fun w' _ => ?_)) inferInstance ?_
                  rotate_left
                  · (go_simp; try with_reducible rfl)
                  try simp only [Act.put, sA]; try simp only [sB, sC]
                  refine wpAnyH_done (by kernel_rfl) ?_ _
                  by_cases hz0 : q.1 = 0
                  · have e1 : ((q.1 : Int) != 0) = false := by simp [hz0]
                    have HZ0 := Lib.hid hz0
                    clear hz0
                    go_wp2_with (first | ((with_reducible apply wpl_loadrow); (exact rfl); infer_instance; infer_instance; (first | (with_reducible assumption) | (with_reducible exact H32.size _) | kernel_rfl)) | ((with_reducible apply wpl_loadcellN); (exact rfl); infer_instance; (exact rfl)))
                    exact ⟨⟨j + 1, by omega, by go_num, sw7, inferInstance, Lib.hid (by rw [HQ2.out]; exact HZ0.out), Lib.hid (by rw [HQ2.out]; exact H7.out)⟩, by simp [intOf]; omega⟩
                  · have e1 : ((q.1 : Int) != 0) = true := by simp [hz0]
                    have hwr : S = q := by
                      have h := HWP2.out (j + 1) (by omega) (by rw [HQ2.out]; exact hz0)
                      rw [HQ2.out] at h
                      exact h
                    have HWR := Lib.hid hwr
                    clear hz0 hwr
                    go_wp2_with (first | ((with_reducible apply wpl_loadrow); (exact rfl); infer_instance; infer_instance; (first | (with_reducible assumption) | (with_reducible exact H32.size _) | kernel_rfl)) | ((with_reducible apply wpl_loadcellN); (exact rfl); infer_instance; (exact rfl)))
                    go_ret
                    rw [HWR.out]
                    exact ⟨rfl, H7.out, sw7⟩
                · have hlt2I : ¬ (j : Int) + 1 ≤ (k : Int) := by omega
                  obtain rfl : j = k := by omega
                  go_wp2_with (first | ((with_reducible apply wpl_loadrow); (exact rfl); infer_instance; infer_instance; (first | (with_reducible assumption) | (with_reducible exact H32.size _) | kernel_rfl)) | ((with_reducible apply wpl_loadcellN); (exact rfl); infer_instance; (exact rfl)))
                  go_ret
                  rw [HWF2.out, HP0.out]
                  exact ⟨rfl, HFt.out, st2⟩
end Go.Proofs.Ytegdihpnefoolaa
end
section
open Go Go.RowKit
namespace Go.Proofs.Ytegdihpnefoolaa
/-- an act of the law's -/
structure SAct where
  kind : Int
  A : Option Addr
  c : Nat
  b : List UInt8
  n : Int
  tear : Int
def SAct.cells (a : SAct) : List Value := [.int .i64 a.kind, .slice a.A a.b.length a.c, .int .i64 a.n, .int .i64 a.tear]
def sactsV (l : List SAct) : List Value := l.flatMap SAct.cells
instance : RowC SAct := ⟨4, SAct.cells, fun _ => rfl, fun a u hu => by
  simp only [SAct.cells, List.mem_cons, List.not_mem_nil, or_false] at hu
  rcases hu with rfl | rfl | rfl | rfl <;> rfl, ⟨0, none, 0, [], 0, 0⟩⟩
end Go.Proofs.Ytegdihpnefoolaa
end
section
open Go Go.RowKit
namespace Go.Proofs.Ytegdihpnefoolaa
/-- a record, its number, an error -/
def loadN (N : Nat) (s : FS) : List UInt8 × Nat × Nat := if N < 80 then ([], 0, 1) else ((bestS s).2.2, (bestS s).2.1, if (bestS s).2.1 = 0 then 9 else 0)
def saveN (N : Nat) (s : FS) (b : List UInt8) : Nat × FS := if N < 80 then (1, s) else saveS N s b
theorem saveN_ok {N : Nat} {s : FS} (b : List UInt8) (h : s.ok N) : (saveN N s b).2.ok N := by
  unfold saveN
  split
  · exact h
  · exact saveS_ok b h
def LoadQ (Q : List UInt8 × Nat × Nat) (w : World) (e : Ending) (w' : World) : Prop :=
  ∃ B m d, e = .returned (.tuple #[.slice B m d, .int .i64 (Q.2.1 : Int), .int .i64 (Q.2.2 : Int)]) ∧ Q.1.length = m ∧ m ≤ d ∧ HR w' B (bs Q.1) ∧ NewA w B ∧ Step nowhere w w'
theorem loadQ_none {w w' : World} {e : Ending} (he : e = .returned (.tuple #[.slice none 0 0, .int .i64 0, .int .i64 1])) (st : Step nowhere w w') : LoadQ ([], 0, 1) w e w' := ⟨none, 0, 0, he, rfl, Nat.le_refl _, ⟨Rd.nil _ _⟩, ⟨fun ad e => by cases e⟩, st⟩
section
variable {g p N x : Nat} {T : Nat → Prop} {s : FS} {r : RFS} {w : World}
theorem pLoad_calls (hF : FlashAt w g p N s) : Calls Try.prog 21 #[.pointer (some ⟨g, 0, none⟩)] w (LoadQ (loadN N s) w) := by
  by_cases h : N < 80
  · rw [loadN, if_pos h]
    exact (loadLow_calls hF h).mono fun e w' ⟨h1, h2⟩ => loadQ_none h1 h2
  · rw [loadN, if_neg h]
    refine (load_calls hF (by omega)).mono fun e w' ⟨B, m, d, h1, h2, h3, h4, h5, h6⟩ => ⟨B, m, d, ?_, h2, h3, h4, h5, h6⟩
    rw [h1]
    by_cases h0 : (bestS s).2.1 = 0
    · rw [if_pos h0, if_pos h0]; rfl
    · rw [if_neg h0, if_neg h0]; rfl
theorem rLoad_calls (hX : RF w x T r) (hR : Rel s r N) (ok : s.ok N) : Calls Try.prog 16 #[.pointer (some ⟨x, 0, none⟩)] w (LoadQ (loadN N s) w) := by
  by_cases h : N < 80
  · rw [loadN, if_pos h]
    exact (rloadLow_calls hX (by rw [hR.num]; exact h)).mono fun e w' ⟨h1, h2⟩ => loadQ_none h1 h2
  · have e : ((findS r).2.1, (findS r).2.2.1, (findS r).2.2.2) = loadN N s := by
      rw [loadN, if_neg h, find_best hR ok (by omega)]
      by_cases h0 : (bestS s).2.1 = 0
      · rw [if_pos h0, if_pos h0, show bestS s = (0, 0, []) from bestK_zero 2 h0]
      · rw [if_neg h0, if_neg h0]
    rw [← e]
    exact (rload_calls hX (by rw [hR.num]; omega)).mono fun _ _ h => h
theorem pSave_calls {A : Option Addr} {n c : Nat} {b : List UInt8} (hF : FlashAt w g p N s) [hr : HR w A (bs b)] (hl : b.length = n) (hn : n ≤ 9223372036854775807) :
    Calls Try.prog 18 #[.pointer (some ⟨g, 0, none⟩), .slice A n c] w fun e w' => e = .returned (.int .i64 ((saveN N s b).1 : Int)) ∧ Hid (FlashAt w' g p N (saveN N s b).2) ∧ Step (Two g p) w w' := by
  by_cases h : N < 80
  · rw [saveN, if_pos h]
    exact (saveLow_calls A n c hF h).mono fun e w' ⟨h1, h2⟩ => ⟨h1, Lib.hid (hF.calm h2.chg), ⟨h2.chg.mono (fun _ _ h => h.elim)⟩⟩
  · rw [saveN, if_neg h]
    exact (save_calls hF (by omega) hl hn).mono fun e w' ⟨h1, h2, h3⟩ => ⟨h1, Lib.hid h2, h3⟩
set_option maxRecDepth 100000 in
theorem rsaveLow_calls (A : Option Addr) (n c : Nat) (hX : RF w x T r) (hN : r.pgs.length < 80) :
    Calls Try.prog 13 #[.pointer (some ⟨x, 0, none⟩), .slice A n c] w fun e w' => e = .returned (.int .i64 1) ∧ Step nowhere w w' := by
  go_enter Try.func13, Try.ntmps13
  go_wp2_with (first | ((with_reducible apply wpl_loadrow); (exact rfl); infer_instance; infer_instance; (first | (with_reducible assumption) | (with_reducible exact H32.size _) | kernel_rfl)) | ((with_reducible apply wpl_loadcellN); (exact rfl); infer_instance; (exact rfl)))
  refine (findLow_calls hX hN).mono ?_
  rintro e w1 ⟨rfl, _⟩
  go_wp2_with (first | ((with_reducible apply wpl_loadrow); (exact rfl); infer_instance; infer_instance; (first | (with_reducible assumption) | (with_reducible exact H32.size _) | kernel_rfl)) | ((with_reducible apply wpl_loadcellN); (exact rfl); infer_instance; (exact rfl)))
  go_ret
  exact ⟨rfl, stepN⟩
theorem rSave_calls {A : Option Addr} {n c : Nat} {b : List UInt8} (hX : RF w x T r) (hR : Rel s r N) (ok : s.ok N) (hT : ∀ k, T k → k < w.heap.size) [hr : HR w A (bs b)] (hl : b.length = n) (hn : n ≤ 9223372036854775807) :
    Calls Try.prog 13 #[.pointer (some ⟨x, 0, none⟩), .slice A n c] w fun e w' => e = .returned (.int .i64 ((saveN N s b).1 : Int)) ∧ Hid (∃ r', RF w' x T r' ∧ Rel (saveN N s b).2 r' N) ∧ Step T w w' := by
  by_cases h : N < 80
  · rw [saveN, if_pos h]
    exact (rsaveLow_calls A n c hX (by rw [hR.num]; exact h)).mono fun e w' ⟨h1, h2⟩ => ⟨h1, Lib.hid ⟨r, hX.calm h2.chg, hR⟩, ⟨h2.chg.mono (fun _ _ h => h.elim)⟩⟩
  · rw [saveN, if_neg h]
    exact (rsave_calls hX hR ok (by omega) hT hl hn).mono fun e w' ⟨h1, h2, h3⟩ => ⟨h1, Lib.hid h2, h3⟩
end
end Go.Proofs.Ytegdihpnefoolaa
end
section
open Go Go.RowKit
namespace Go.Proofs.Ytegdihpnefoolaa
theorem slNewAny_calls (n : Int) (N : Nat) (hN : min (max n 1) 256 = (N : Int)) (hn : n ≤ 256) (w : World) :
    Calls Try.prog 11 #[.int .i64 n] w fun e w' => ∃ g p, e = .returned (.pointer (some ⟨g, 0, none⟩)) ∧ Hid (FlashAt w' g p N (FS.fresh N)) ∧ Hid (Chg nowhere w w') ∧ w.heap.size ≤ g ∧ w.heap.size ≤ p := by
  by_cases h : n < 1
  · obtain rfl : N = 1 := by omega
    exact NewLow_calls n h w
  · obtain rfl : n = (N : Int) := by omega
    exact New_calls N w (by omega) (by omega)
/-- an act of the script, as it stands in this world -/
def SActIn (w : World) (a : SAct) : Prop := Rd w a.A (bs a.b) ∧ a.b.length ≤ 9223372036854775807 ∧ a.n ≤ 9223372036854775807
/-- both flashes, one -/
def BothS (w : World) (g p N x : Nat) (T : Nat → Prop) : Prop := (∃ s r, FlashAt w g p N s ∧ RF w x T r ∧ Rel s r N) ∧ ∀ k, T k → k < w.heap.size
theorem BothS.nw {w0 w : World} [n : Nw w0 w] {g p N x : Nat} {T : Nat → Prop} (h : BothS w0 g p N x T) : BothS w g p N x T := by
  obtain ⟨⟨s, r, h1, h2, h3⟩, h4⟩ := h
  exact ⟨⟨s, r, FlashAt.nw h1, RF.nw h2, h3⟩, fun k hk => Nat.lt_of_lt_of_le (h4 k hk) n.out.size⟩
end Go.Proofs.Ytegdihpnefoolaa
end
