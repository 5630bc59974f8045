/- EnE -/
import Derived.Test.YthcleccofccbdaaTrEnD
open Go Go.RowKit
namespace Go.Proofs.Ythcleccofccbdaa
theorem run_mk1 (r : MarkR) (w : World) : (Instr.buildSlice 56 1 #[(0, .agg (RowC.enc r).toArray)]).run Try.prog w = .ok (.slice (some ⟨w.heap.size, 0, none⟩) 1 1) (w.alloc (.cells (cellsOf [r]).toArray 125)) := by
  have hs : (RowC.enc r).toArray.size = 35 := RowC.len r
  have hz : ∀ w, (zeroValue 125).run Try.prog w = .ok (.agg zeroMk) w := fun _ => by kernel_rfl
  have hi : ∀ w, (sizeOf 125).run Try.prog w = .ok 35 w := fun _ => by kernel_rfl
  have hz1 : zeroMk.size = 35 := zeroMk_size
  have he : (cellsOf [r]).toArray = (RowC.enc r).toArray.toList.toArray := by simp [cellsOf]
  rw [he]
  obtain ⟨Z, hZ⟩ : ∃ Z : Array Value, Z = zeroMk := ⟨_, rfl⟩
  obtain ⟨R, hR⟩ : ∃ R : Array Value, R = (RowC.enc r).toArray := ⟨_, rfl⟩
  rw [← hZ] at hz hz1
  rw [← hR] at hs ⊢
  clear hZ hR he
  unfold Instr.buildSlice
  simp only [Sem.run_bind, run_underlying Try.underlying56, Result.andThen_ok, hi]
  obtain ⟨W, hW⟩ : ∃ W : Array Value, W = (Array.range (1 * 35)).map (Z[· % Z.size]!) := ⟨_, rfl⟩
  have hWs : W.size = 35 := by rw [hW]; simp
  have hf : Instr.fill (fun i => some (i * 35, 35)) W [(0, Value.agg R)] = some R.toList.toArray := by
    rw [fill_step _ _ 0 (.agg R) _ (off := 0) (size := 35) rfl hs (by rw [hWs]; decide)]
    have e : lay 0 R W = R.toList.toArray := by
      unfold lay
      congr 1
      simp only [List.take_zero, List.nil_append, Nat.zero_add, hs]
      rw [List.drop_of_length_le (by simp [hWs]), List.append_nil]
    show Instr.fill _ (lay 0 R W) [] = _
    rw [e]
    rfl
  rw [hW] at hf
  simp [hz, Value.cells, hf, newRow]
/-- each in rows of its own, apart from the row that they lie in -/
def KsM (w0 w : World) (A : Option Addr) (D : List MarkR) : Prop := ∀ x ∈ D, MarkIn w x ∧ (NewA w0 x.A ∧ NewA w0 x.B) ∧ ∀ y, inMk x y → ¬ rowOf A y
theorem inMk_new {w : World} {x : MarkR} (h : NewA w x.A ∧ NewA w x.B) (y : Nat) (hy : inMk x y) : w.heap.size ≤ y := by
  rcases hy with ⟨_, ad, e, rfl⟩ | ⟨_, ad, e, rfl⟩
  · exact h.1.out ad e
  · exact h.2.out ad e
set_option maxRecDepth 100000 in
set_option maxHeartbeats 3200000 in
theorem takenMk_calls {g d : Nat} {s : RS} {w : World} (hw : RdrAt w g d s) (hl : s.b.length ≤ 1000000000) :
    Calls Try.prog 131 #[.pointer (some ⟨g, 0, none⟩), .int .i64 4, .func (.func 132) #[] #[]] w fun e w' => ∃ A n c, ∃ D : List MarkR, e = .returned (.slice A n c) ∧ Step (only g) w w' ∧ Hid (RdrAt w' g d (lstS mkTk 4 s)) ∧ HR w' A (cellsOf D) ∧ NewA w A ∧ Hid (D.map MarkR.m = lstL mkTk 4 s) ∧ Hid (∀ x ∈ D, MarkIn w' x ∧ NewA w x.A ∧ NewA w x.B) ∧ Hid (D.length = n ∧ n ≤ c ∧ n ≤ 4) := by
  have HW0 := Lib.hid hw
  have HL := Lib.hid hl
  have hgl := hw.lt
  have hdl := hw.dlt
  obtain ⟨N, hN⟩ : ∃ N, N = s.num.1 := ⟨_, rfl⟩
  obtain ⟨S, hS1⟩ : ∃ S, S = s.num.2 := ⟨_, rfl⟩
  have HN := Lib.hid hN
  have HS := Lib.hid hS1
  have hSl : S.b.length ≤ 1000000000 := by rw [hS1]; exact Nat.le_trans (RS.num_le s) hl
  have hSd : S.b ≠ [] → d < w.heap.size := fun h => hdl (num_ne (by rw [← hS1]; exact h))
  clear hw hl hN hS1
  go_enter Try.func131, Try.ntmps131
  go_wp2_with fail
  refine (Num_calls g d s w HW0.out (by have := HL.out; omega)).mono ?_
  rw [← HN.out, ← HS.out]
  rintro e w2 ⟨rfl, h2, c2⟩
  have st2 : Step (only g) w w2 := ⟨c2.out⟩
  clear c2
  by_cases h4 : 4 < N
  · have h4I : 4 < (N : Int) := by omega
    have HKM : Hid (lstS mkTk 4 s = RS.bad) := Lib.hid (by rw [lstS, if_pos (by rw [← HN.out]; exact h4)])
    have HKL : Hid (lstL mkTk 4 s = []) := Lib.hid (by rw [lstL, if_pos (by rw [← HN.out]; exact h4)])
    go_wp2_with (first | fail)
    refine (Bad_calls g d _ _ h2.out).mono ?_
    rintro e w3 ⟨rfl, h3, c3⟩
    have st3 : Step (only g) w2 w3 := ⟨c3.out⟩
    go_wp2_with (first | fail)
    go_ret
    refine ⟨none, 0, 0, [], rfl, ⟨st2.chg.trans st3.chg (fun _ _ h => h)⟩, ?_, ⟨Rd.nil _ _⟩, newA_none _, Lib.hid ?_, Lib.hid (fun x hx => by cases hx), Lib.hid ⟨rfl, Nat.le_refl _, by decide⟩⟩
    · rw [HKM.out]; exact h3
    · rw [HKL.out]; rfl
  · have h4I : ¬ 4 < (N : Int) := by omega
    have HKM : Hid (lstS mkTk 4 s = tkS mkTk S N) := Lib.hid (by rw [lstS, if_neg (by rw [← HN.out]; exact h4), ← HN.out, ← HS.out])
    have HKL : Hid (lstL mkTk 4 s = tkL mkTk S N) := Lib.hid (by rw [lstL, if_neg (by rw [← HN.out]; exact h4), ← HN.out, ← HS.out])
    have hcell0 : HO w2 125 35 none 0 0 (cellsOf ([] : List MarkR)) := ⟨Own.nil _ _ _⟩
    go_wp2_with (first | fail)
    go_loopw [8, 17] (fun lv iv wr => ∃ (k : Nat) (A1 : Option Addr) (c1 : Nat) (D : List MarkR), k ≤ N ∧ iv = .int .i64 (k : Int) ∧ lv = .slice A1 k c1 ∧ k ≤ c1 ∧ Step (only g) w wr ∧ HO wr 125 35 A1 k c1 (cellsOf D) ∧ NewA w A1 ∧ Hid (RdrAt wr g d (tkS mkTk S k)) ∧ Hid (D.map MarkR.m = tkL mkTk S k) ∧ Hid (KsM w wr A1 D)) (fun _ iv _ => N - (intOf iv).toNat)
    case atStart => exact ⟨0, none, 0, [], Nat.zero_le _, rfl, rfl, Nat.le_refl _, st2, hcell0, newA_none _, h2, Lib.hid rfl, Lib.hid (fun x hx => by cases hx)⟩
    case round =>
      clear st2 h2 hcell0
      obtain ⟨k, A1, c1, D, hk, rfl, rfl, hkc, st, hO, hA1, hR, hDm, hDk⟩ := hrel
      by_cases hlt : k < N
      · have hltI : (k : Int) < N := by omega
        have og : OffA (only g) A1 := ⟨fun ad e h => by have h' : ad.block = g := h; have := hA1.out ad e; omega⟩
        have hsl := mkTakes.tkS_le S k
        have hsk := mkTakes.tkS_le S (k + 1)
        go_wp2_with (first | fail)
        refine (takeMark_calls hR.out (by omega)).mono ?_
        rintro e w5 ⟨x, rfl, st5, h5, hxm, hxk, hxA⟩
        have H5 : Hid (RdrAt w5 g d (tkS mkTk S (k + 1))) := h5
        have HNX : Hid ((D ++ [x]).map MarkR.m = tkL mkTk S (k + 1)) := Lib.hid (by
          rw [List.map_append, hDm.out]
          show _ ++ [x.m] = _
          rw [hxm.out]
          rfl)
        have HXK := Lib.hid hxk
        have hlenD : D.length = k := by
          have h9 := congrArg List.length hDm.out
          rw [List.length_map, tkL_len] at h9
          exact h9
        have HLD := Lib.hid hlenD
        have n5w : SzLe w w5 := inferInstance
        have kb1 := run_mk1 x
        have hsx : (RowC.enc x).toArray.size = 35 := enc_sz _ rfl
        have hox := enc_one x
        clear h5 hxk hlenD
        go_wp2_with (first | ((with_reducible apply (stop_dst (dst := some 23))); (try simp only [Act.put, sA, sB, sC]); ((with_reducible apply (wpl_bslice (dst := some 23))); (exact kb1 _); intro zb wb _ _ _)) | ((with_reducible apply (wpl_appendR (α := MarkR))); (exact rfl); (exact rfl); infer_instance; infer_instance; (exact HB.cells inferInstance); (exact rfl); (exact rfl); omega; (decide); (decide); intro A' c' wa _ _ hgr hcap))
        have hcA : Chg (rowOf A1) w5 wa := (inferInstance : Ch (rowOf A1) w5 wa).out
        have hb5 : w5.heap.size ≤ wb.heap.size := (inferInstance : SzLe w5 wb).out
        have hr5 : wr.heap.size ≤ w5.heap.size := st5.chg.size
        have hwr : w.heap.size ≤ wr.heap.size := st.chg.size
        have hA1lt : ∀ y, rowOf A1 y → y < wr.heap.size := fun y ⟨ad, e, h⟩ => by rw [← h]; exact hO.out.lt e
        have hxn : ∀ y, inMk x y → wr.heap.size ≤ y := inMk_new hxA
        have hKD : Hid (KsM w wa A' (D ++ [x])) := Lib.hid (by
          intro z hz
          rcases List.mem_append.1 hz with h | h
          · obtain ⟨q1, q2, q3⟩ := hDk.out z h
            refine ⟨MarkIn.chg (MarkIn.chg q1 st5.chg (fun y hy h => ?_)) hcA q3, q2, fun y hy h => ?_⟩
            · have h8 := inMk_new q2 y hy
              have h7 : y = g := h
              omega
            · have h6 := MarkIn.low q1 y hy
              rcases hgr.out with h9 | h9
              · rw [h9] at h; exact q3 y hy h
              · rw [h9] at h
                obtain ⟨ad, e, h8⟩ := h
                injection e with e
                subst e
                have h7 : wb.heap.size = y := h8
                omega
          · obtain rfl := List.mem_singleton.1 h
            refine ⟨MarkIn.chg HXK.out hcA (fun y hy h => ?_), ⟨⟨fun ad e => Nat.le_trans hwr (hxA.1.out ad e)⟩, ⟨fun ad e => Nat.le_trans hwr (hxA.2.out ad e)⟩⟩, fun y hy h => ?_⟩
            · have h8 := hxn y hy
              have h9 := hA1lt y h
              omega
            · have h6 := MarkIn.low HXK.out y hy
              have h5 := hxn y hy
              rcases hgr.out with h9 | h9
              · rw [h9] at h
                have h4 := hA1lt y h
                omega
              · rw [h9] at h
                obtain ⟨ad, e, h8⟩ := h
                injection e with e
                subst e
                have h7 : wb.heap.size = y := h8
                omega)
        refine ⟨⟨k + 1, A', c', D ++ [x], by omega, by go_num, rfl, hcap, ⟨?_⟩, ?_, newA_grew inferInstance hA1 (Nat.le_trans n5w.out (inferInstance : SzLe w5 wb).out), Lib.hid ?_, HNX, hKD⟩, by simp [intOf]; omega⟩
        · exact (st.chg.trans st5.chg (fun _ _ h => h)).trans hcA (fun x hx ⟨ad, e, h⟩ => by have := hA1.out ad e; omega)
        · infer_instance
        · exact H5.out.far hcA (m := w.heap.size) (fun x ⟨ad, e, h⟩ => by rw [← h]; exact hA1.out ad e) hgl (fun h => hSd (by
            intro h0
            rw [h0] at hsk
            exact h (List.eq_nil_of_length_eq_zero (by simpa using hsk))))
      · have hltI : ¬ (k : Int) < N := by omega
        have hkn : k = N := by omega
        subst hkn
        have HRR := hR
        go_wp2_with (first | fail)
        go_ret
        first | refine ⟨A1, k, c1, rfl, st, ?_, D, ⟨hO.out.rd⟩, hA1, Lib.hid ?_, Lib.hid (fun x hx => ⟨(hDk.out x hx).1, (hDk.out x hx).2.1⟩), Lib.hid ⟨?_, hkc, by omega⟩⟩ | refine ⟨A1, k, c1, D, rfl, st, ?_, ⟨hO.out.rd⟩, hA1, Lib.hid ?_, Lib.hid (fun x hx => ⟨(hDk.out x hx).1, (hDk.out x hx).2.1⟩), Lib.hid ⟨?_, hkc, by omega⟩⟩
        · rw [HKM.out]; exact HRR
        · rw [HKL.out]; exact hDm.out
        · have h9 := congrArg List.length hDm.out
          rw [List.length_map, tkL_len] at h9
          exact h9
end Go.Proofs.Ythcleccofccbdaa
