/- TgN -/
import Derived.Test.YthcleccofccbdaaGreatTyTgM
open Go Go.RowKit
namespace Go.Proofs.YthcleccofccbdaaGreat
set_option maxRecDepth 100000 in
set_option maxHeartbeats 3200000 in
theorem takeTarget_calls {g d : Nat} {s : RS} {w : World} (hw : RdrAt w g d s) (hl : s.b.length ≤ 140737488351232) :
    Calls Tryz.prog 110 #[.pointer (some ⟨g, 0, none⟩)] w fun e w' => e = .returned (.agg (RowC.enc (tgTk s).1).toArray) ∧ Step (only g) w w' ∧ Hid (RdrAt w' g d (tgTk s).2) := by
  have HW0 := Lib.hid hw
  have HL := Lib.hid hl
  have hgl := hw.lt
  have hdl := hw.dlt
  have hpl := tgTakes.le s
  obtain ⟨s1, hs1⟩ : ∃ x, x = s.row.2 := ⟨_, rfl⟩
  obtain ⟨s2, hs2⟩ : ∃ x, x = s1.num.2 := ⟨_, rfl⟩
  obtain ⟨s3, hs3⟩ : ∃ x, x = s2.hnx := ⟨_, rfl⟩
  obtain ⟨s4, hs4⟩ : ∃ x, x = s3.row.2 := ⟨_, rfl⟩
  obtain ⟨s5, hs5⟩ : ∃ x, x = s4.num.2 := ⟨_, rfl⟩
  have e1 : s1.b.length ≤ s.b.length := by rw [hs1]; exact RS.row_le _
  have e2 : s2.b.length ≤ s1.b.length := by rw [hs2]; exact RS.num_le _
  have e3 : s3.b.length ≤ s2.b.length := by rw [hs3]; exact RS.hnx_le _
  have e4 : s4.b.length ≤ s3.b.length := by rw [hs4]; exact RS.row_le _
  have e5 : s5.b.length ≤ s4.b.length := by rw [hs5]; exact RS.num_le _
  obtain ⟨p, hp⟩ : ∃ p, p = (tgTk s).1 := ⟨_, rfl⟩
  have HE : Hid ((tgTk s).2 = s5.row.2) := Lib.hid (by rw [hs5, hs4, hs3, hs2, hs1]; rfl)
  have HP0 : Hid (s.row.1 = p.l) := Lib.hid (by rw [hp]; rfl)
  have HP1 : Hid (((s1.num.1 : Nat) : Int) = p.size) := Lib.hid (by rw [hp, hs1]; rfl)
  have HP2 : Hid (s2.hsh = p.sum) := Lib.hid (by rw [hp, hs2, hs1]; rfl)
  have HP3 : Hid (s3.row.1 = p.hw) := Lib.hid (by rw [hp, hs3, hs2, hs1]; rfl)
  have HP4 : Hid (((s4.num.1 : Nat) : Int) = p.ctr) := Lib.hid (by rw [hp, hs4, hs3, hs2, hs1]; rfl)
  have HP5 : Hid (s5.row.1 = p.ecu) := Lib.hid (by rw [hp, hs5, hs4, hs3, hs2, hs1]; rfl)
  have HS1 := Lib.hid hs1
  have HS2 := Lib.hid hs2
  have HS3 : Hid (s3 = (s2.raw 32).2) := Lib.hid hs3
  have HS4 := Lib.hid hs4
  have HS5 := Lib.hid hs5
  have kb := run_tgB p.l p.hw p.ecu p.size p.ctr p.sum
  have hsz : (RowC.enc p).toArray.size = 37 := tgR_len p
  have hon := enc_one p
  rw [← hp]
  clear hw hl hp hs1 hs2 hs3 hs4 hs5
  go_enter Tryz.func110, Tryz.ntmps110
  go_wp2_with (first | ((with_reducible apply (wpl_alloc (dst := some 2))); intro zo wzo _ _ _))
  have hzo : w.heap.size ≤ zo := Nat.le_of_eq (inferInstance : Born w zo).eq.symm
  have ozo : OffB (only g) zo := ⟨fun e => by have e' : zo = g := e; omega⟩
  refine (takeText_calls (HW0.out.chg (stepN (w0 := w)).chg (fun h => h) (fun h => h)) HL.out).mono ?_
  rw [HP0.out, ← HS1.out]
  rintro e w2 ⟨rfl, st2, h2⟩
  have H2 := Lib.hid h2
  clear h2
  go_wp2_with fail
  refine (Num_calls g d s1 w2 H2.out (by have := HL.out; omega)).mono ?_
  rw [HP1.out, ← HS2.out]
  rintro e w3 ⟨rfl, h3, c3⟩
  have st3 : Step (only g) w2 w3 := ⟨c3.out⟩
  clear c3
  go_wp2_with fail
  refine (takeHash_calls h3.out (by have := HL.out; omega)).mono ?_
  rw [HP2.out, ← HS3.out]
  rintro e w4 ⟨rfl, st4, h4⟩
  have H4 := Lib.hid h4
  clear h4
  go_wp2_with fail
  refine (takeText_calls H4.out (by have := HL.out; omega)).mono ?_
  rw [HP3.out, ← HS4.out]
  rintro e w5 ⟨rfl, st5, h5⟩
  have H5 := Lib.hid h5
  clear h5
  go_wp2_with fail
  refine (Num_calls g d s4 w5 H5.out (by have := HL.out; omega)).mono ?_
  rw [HP4.out, ← HS5.out]
  rintro e w6 ⟨rfl, h6, c6⟩
  have st6 : Step (only g) w5 w6 := ⟨c6.out⟩
  clear c6
  go_wp2_with fail
  refine (takeText_calls h6.out (by have := HL.out; omega)).mono ?_
  rw [HP5.out, ← HE.out]
  rintro e w7 ⟨rfl, st7, h7⟩
  have H7 := Lib.hid h7
  clear h7
  have hzo7 : HB w7 zo 83 zeroTg := inferInstance
  go_wp2_with (first | ((with_reducible apply wpl_build); (exact kb _)) | ((with_reducible apply wpl_storerow); (exact rfl); (exact rfl); infer_instance; infer_instance; (first | (with_reducible assumption) | (with_reducible exact H32.size _) | (with_reducible exact enc_sz _ rfl) | kernel_rfl); (first | (with_reducible assumption) | (with_reducible exact H32.size _) | (with_reducible exact enc_sz _ rfl) | kernel_rfl); (first | (with_reducible exact u8s_one _) | (with_reducible assumption) | (with_reducible exact enc_one _) | kernel_rfl); intro ws _ _))
  refine ret_row rfl rfl (n := 37) hsz rfl ⟨rfl, stepC, ?_⟩
  exact Lib.hid (H7.out.far (inferInstance : Step (only zo) w7 ws).chg (m := w.heap.size) (fun x hx => by have hx' : x = zo := hx; omega) hgl (fun h => hdl (by
    intro h0
    rw [h0] at hpl
    exact h (List.eq_nil_of_length_eq_zero (by simpa using hpl)))))
/-- one target as a slice -/
theorem run_tg1 (r : TargetR) (w : World) : (Instr.buildSlice 22 1 #[(0, .agg (RowC.enc r).toArray)]).run Tryz.prog w = .ok (.slice (some ⟨w.heap.size, 0, none⟩) 1 1) (w.alloc (.cells (cellsOf [r]).toArray 83)) := by
  have hs : (RowC.enc r).toArray.size = 37 := RowC.len r
  have hz : ∀ w, (zeroValue 83).run Tryz.prog w = .ok (.agg zeroTg) w := fun _ => by kernel_rfl
  have hi : ∀ w, (sizeOf 83).run Tryz.prog w = .ok 37 w := fun _ => by kernel_rfl
  have hz1 : zeroTg.size = 37 := rfl
  have he : (cellsOf [r]).toArray = (RowC.enc r).toArray.toList.toArray := by simp [cellsOf]
  rw [he]
  obtain ⟨Z, hZ⟩ : ∃ Z : Array Value, Z = zeroTg := ⟨_, rfl⟩
  obtain ⟨R, hR⟩ : ∃ R : Array Value, R = (RowC.enc r).toArray := ⟨_, rfl⟩
  rw [← hZ] at hz hz1
  rw [← hR] at hs ⊢
  clear hZ hR he
  unfold Instr.buildSlice
  simp only [Sem.run_bind, run_underlying Tryz.underlying22, Result.andThen_ok, hi]
  obtain ⟨W, hW⟩ : ∃ W : Array Value, W = (Array.range (1 * 37)).map (Z[· % Z.size]!) := ⟨_, rfl⟩
  have hWs : W.size = 37 := by rw [hW]; simp
  have hf : Instr.fill (fun i => some (i * 37, 37)) W [(0, Value.agg R)] = some R.toList.toArray := by
    rw [fill_step _ _ 0 (.agg R) _ (off := 0) (size := 37) rfl hs (by rw [hWs]; decide)]
    have e : lay 0 R W = R.toList.toArray := by
      unfold lay
      congr 1
      simp only [List.take_zero, List.nil_append, Nat.zero_add, hs]
      rw [List.drop_of_length_le (by simp [hWs]), List.append_nil]
    show Instr.fill _ (lay 0 R W) [] = _
    rw [e]
    rfl
  rw [hW] at hf
  simp [hz, Value.cells, hf, newRow]
set_option maxRecDepth 100000 in
set_option maxHeartbeats 3200000 in
theorem takenT_calls {g d : Nat} {s : RS} {w : World} (hw : RdrAt w g d s) (hl : s.b.length ≤ 140737488351232) :
    Calls Tryz.prog 109 #[.pointer (some ⟨g, 0, none⟩), .int .i64 16, .func (.func 110) #[] #[]] w fun e w' => ∃ A n c, e = .returned (.slice A n c) ∧ Step (only g) w w' ∧ Hid (RdrAt w' g d (lstS tgTk 16 s)) ∧ HR w' A (cellsOf (lstL tgTk 16 s)) ∧ NewA w A ∧ Hid ((lstL tgTk 16 s).length = n ∧ n ≤ c ∧ n ≤ 16) := by
  have HW0 := Lib.hid hw
  have HL := Lib.hid hl
  have hgl := hw.lt
  have hdl := hw.dlt
  obtain ⟨N, hN⟩ : ∃ N, N = s.num.1 := ⟨_, rfl⟩
  obtain ⟨S, hS1⟩ : ∃ S, S = s.num.2 := ⟨_, rfl⟩
  have HN := Lib.hid hN
  have HS := Lib.hid hS1
  have hSl : S.b.length ≤ 140737488351232 := by rw [hS1]; exact Nat.le_trans (RS.num_le s) hl
  have hSd : S.b ≠ [] → d < w.heap.size := fun h => hdl (num_ne (by rw [← hS1]; exact h))
  clear hw hl hN hS1
  go_enter Tryz.func109, Tryz.ntmps109
  go_wp2_with fail
  refine (Num_calls g d s w HW0.out (by have := HL.out; omega)).mono ?_
  rw [← HN.out, ← HS.out]
  rintro e w2 ⟨rfl, h2, c2⟩
  have st2 : Step (only g) w w2 := ⟨c2.out⟩
  clear c2
  by_cases h4 : 16 < N
  · have h4I : 16 < (N : Int) := by omega
    have HKM : Hid (lstS tgTk 16 s = RS.bad) := Lib.hid (by rw [lstS, if_pos (by rw [← HN.out]; exact h4)])
    have HKL : Hid (lstL tgTk 16 s = []) := Lib.hid (by rw [lstL, if_pos (by rw [← HN.out]; exact h4)])
    go_wp2_with fail
    refine (Bad_calls g d _ _ h2.out).mono ?_
    rintro e w3 ⟨rfl, h3, c3⟩
    have st3 : Step (only g) w2 w3 := ⟨c3.out⟩
    go_wp2_with fail
    go_ret
    refine ⟨none, 0, 0, rfl, ⟨st2.chg.trans st3.chg (fun _ _ h => h)⟩, ?_, ?_, newA_none _, Lib.hid ⟨?_, Nat.le_refl _, by decide⟩⟩
    · rw [HKM.out]; exact h3
    · rw [HKL.out]; exact ⟨Rd.nil _ _⟩
    · rw [HKL.out]; rfl
  · have h4I : ¬ 16 < (N : Int) := by omega
    have HKM : Hid (lstS tgTk 16 s = tkS tgTk S N) := Lib.hid (by rw [lstS, if_neg (by rw [← HN.out]; exact h4), ← HN.out, ← HS.out])
    have HKL : Hid (lstL tgTk 16 s = tkL tgTk S N) := Lib.hid (by rw [lstL, if_neg (by rw [← HN.out]; exact h4), ← HN.out, ← HS.out])
    have hcell0 : HO w2 83 37 none 0 0 (cellsOf ([] : List TargetR)) := ⟨Own.nil _ _ _⟩
    go_wp2_with fail
    go_loopw [8, 17] (fun lv iv wr => ∃ (k : Nat) (A1 : Option Addr) (c1 : Nat), k ≤ N ∧ iv = .int .i64 (k : Int) ∧ lv = .slice A1 k c1 ∧ k ≤ c1 ∧ Step (only g) w wr ∧ HO wr 83 37 A1 k c1 (cellsOf (tkL tgTk S k)) ∧ NewA w A1 ∧ Hid (RdrAt wr g d (tkS tgTk S k))) (fun _ iv _ => N - (intOf iv).toNat)
    case atStart => exact ⟨0, none, 0, Nat.zero_le _, rfl, rfl, Nat.le_refl _, st2, hcell0, newA_none _, h2⟩
    case round =>
      clear st2 h2 hcell0
      obtain ⟨k, A1, c1, hk, rfl, rfl, hkc, st, hO, hA1, hR⟩ := hrel
      by_cases hlt : k < N
      · have hltI : (k : Int) < N := by omega
        have og : OffA (only g) A1 := ⟨fun ad e h => by have h' : ad.block = g := h; have := hA1.out ad e; omega⟩
        have hsl := tgTakes.tkS_le S k
        have hsk := tgTakes.tkS_le S (k + 1)
        have kb1 := run_tg1 (tgTk (tkS tgTk S k)).1
        go_wp2_with fail
        refine (takeTarget_calls hR.out (by omega)).mono ?_
        rintro e w5 ⟨rfl, st5, h5⟩
        have H5 : Hid (RdrAt w5 g d (tkS tgTk S (k + 1))) := h5
        have HNX : Hid (tkL tgTk S k ++ [(tgTk (tkS tgTk S k)).1] = tkL tgTk S (k + 1)) := Lib.hid rfl
        have n5w : SzLe w w5 := inferInstance
        clear h5
        go_wp2_with (first | ((with_reducible apply (stop_dst (dst := some 23))); (try simp only [Act.put, sA, sB, sC]); ((with_reducible apply (wpl_bslice (dst := some 23))); (exact kb1 _); intro zb wb _ _ _)) | ((with_reducible apply (wpl_appendR (α := TargetR))); (exact rfl); (exact rfl); infer_instance; infer_instance; (exact HB.cells inferInstance); (exact rfl); (exact rfl); omega; (decide); (decide); intro A' c' wa _ _ _ hcap))
        have hcA : Chg (rowOf A1) w5 wa := (inferInstance : Ch (rowOf A1) w5 wa).out
        refine ⟨⟨k + 1, A', c', by omega, by go_num, rfl, hcap, ⟨?_⟩, ?_, newA_grew inferInstance hA1 (Nat.le_trans n5w.out (inferInstance : SzLe w5 wb).out), Lib.hid ?_⟩, by simp [intOf]; omega⟩
        · exact (st.chg.trans st5.chg (fun _ _ h => h)).trans hcA (fun x hx ⟨ad, e, h⟩ => by have := hA1.out ad e; omega)
        · rw [← HNX.out]; infer_instance
        · exact H5.out.far hcA (m := w.heap.size) (fun x ⟨ad, e, h⟩ => by rw [← h]; exact hA1.out ad e) hgl (fun h => hSd (by
            intro h0
            rw [h0] at hsk
            exact h (List.eq_nil_of_length_eq_zero (by simpa using hsk))))
      · have hltI : ¬ (k : Int) < N := by omega
        have hkn : k = N := by omega
        subst hkn
        have HRR := hR
        go_wp2_with fail
        go_ret
        refine ⟨A1, k, c1, rfl, st, ?_, ?_, hA1, Lib.hid ⟨?_, hkc, by omega⟩⟩
        · rw [HKM.out]; exact HRR
        · rw [HKL.out]; exact ⟨hO.out.rd⟩
        · rw [HKL.out, tkL_len]
end Go.Proofs.YthcleccofccbdaaGreat
