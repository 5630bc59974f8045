/- TgR -/
import Derived.Test.YthcleccofccbdaaTwTgQ
open Go Go.RowKit
namespace Go.Proofs.Ythcleccofccbdaa
theorem run_dl1 (r : DeleR) (w : World) : (Instr.buildSlice 69 1 #[(0, .agg (RowC.enc r).toArray)]).run Try.prog w = .ok (.slice (some ⟨w.heap.size, 0, none⟩) 1 1) (w.alloc (.cells (cellsOf [r]).toArray 138)) := by kernel_rfl
/-- each in rows of its own, apart from the row that they lie in -/
def KsD (w0 w : World) (A : Option Addr) (D : List DeleR) : Prop := ∀ x ∈ D, DIn w x ∧ NewA w0 x.k.A ∧ ∀ y, inRow x.k.A x.k.l y → ¬ rowOf A y
set_option maxRecDepth 100000 in
set_option maxHeartbeats 3200000 in
theorem takenD_calls {g d : Nat} {s : RS} {w : World} (hw : RdrAt w g d s) (hl : s.b.length ≤ 140737488351232) :
    Calls Try.prog 149 #[.pointer (some ⟨g, 0, none⟩), .int .i64 16, .func (.func 150) #[] #[]] w fun e w' => ∃ A n c, ∃ D : List DeleR, e = .returned (.slice A n c) ∧ Step (only g) w w' ∧ Hid (RdrAt w' g d (lstS dlTk 16 s)) ∧ HR w' A (cellsOf D) ∧ NewA w A ∧ Hid (D.map DeleR.m = lstL dlTk 16 s) ∧ Hid (∀ x ∈ D, DIn w' x ∧ NewA w x.k.A) ∧ Hid (D.length = n ∧ n ≤ c ∧ n ≤ 16) := by
  have HW0 := Lib.hid hw
  have HL := Lib.hid hl
  have hgl := hw.lt
  have hdl := hw.dlt
  obtain ⟨N, hN⟩ : ∃ N, N = s.num.1 := ⟨_, rfl⟩
  obtain ⟨S, hS1⟩ : ∃ S, S = s.num.2 := ⟨_, rfl⟩
  have HN := Lib.hid hN
  have HS := Lib.hid hS1
  have hSl : S.b.length ≤ 140737488351232 := by rw [hS1]; exact Nat.le_trans (RS.num_le s) hl
  have hSd : S.b ≠ [] → d < w.heap.size := fun h => hdl (num_ne (by rw [← hS1]; exact h))
  clear hw hl hN hS1
  go_enter Try.func149, Try.ntmps149
  go_wp2_with fail
  refine (Num_calls g d s w HW0.out (by have := HL.out; omega)).mono ?_
  rw [← HN.out, ← HS.out]
  rintro e w2 ⟨rfl, h2, c2⟩
  have st2 : Step (only g) w w2 := ⟨c2.out⟩
  clear c2
  by_cases h4 : 16 < N
  · have h4I : 16 < (N : Int) := by omega
    have HKM : Hid (lstS dlTk 16 s = RS.bad) := Lib.hid (by rw [lstS, if_pos (by rw [← HN.out]; exact h4)])
    have HKL : Hid (lstL dlTk 16 s = []) := Lib.hid (by rw [lstL, if_pos (by rw [← HN.out]; exact h4)])
    go_wp2_with (first | fail)
    refine (Bad_calls g d _ _ h2.out).mono ?_
    rintro e w3 ⟨rfl, h3, c3⟩
    have st3 : Step (only g) w2 w3 := ⟨c3.out⟩
    go_wp2_with (first | fail)
    go_ret
    refine ⟨none, 0, 0, [], rfl, ⟨st2.chg.trans st3.chg (fun _ _ h => h)⟩, ?_, ⟨Rd.nil _ _⟩, newA_none _, Lib.hid ?_, Lib.hid (fun x hx => by cases hx), Lib.hid ⟨rfl, Nat.le_refl _, by decide⟩⟩
    · rw [HKM.out]; exact h3
    · rw [HKL.out]; rfl
  · have h4I : ¬ 16 < (N : Int) := by omega
    have HKM : Hid (lstS dlTk 16 s = tkS dlTk S N) := Lib.hid (by rw [lstS, if_neg (by rw [← HN.out]; exact h4), ← HN.out, ← HS.out])
    have HKL : Hid (lstL dlTk 16 s = tkL dlTk S N) := Lib.hid (by rw [lstL, if_neg (by rw [← HN.out]; exact h4), ← HN.out, ← HS.out])
    have hcell0 : HO w2 138 5 none 0 0 (cellsOf ([] : List DeleR)) := ⟨Own.nil _ _ _⟩
    go_wp2_with (first | fail)
    go_loopw [8, 17] (fun lv iv wr => ∃ (k : Nat) (A1 : Option Addr) (c1 : Nat) (D : List DeleR), k ≤ N ∧ iv = .int .i64 (k : Int) ∧ lv = .slice A1 k c1 ∧ k ≤ c1 ∧ Step (only g) w wr ∧ HO wr 138 5 A1 k c1 (cellsOf D) ∧ NewA w A1 ∧ Hid (RdrAt wr g d (tkS dlTk S k)) ∧ Hid (D.map DeleR.m = tkL dlTk S k) ∧ Hid (KsD w wr A1 D)) (fun _ iv _ => N - (intOf iv).toNat)
    case atStart => exact ⟨0, none, 0, [], Nat.zero_le _, rfl, rfl, Nat.le_refl _, st2, hcell0, newA_none _, h2, Lib.hid rfl, Lib.hid (fun x hx => by cases hx)⟩
    case round =>
      clear st2 h2 hcell0
      obtain ⟨k, A1, c1, D, hk, rfl, rfl, hkc, st, hO, hA1, hR, hDm, hDk⟩ := hrel
      by_cases hlt : k < N
      · have hltI : (k : Int) < N := by omega
        have og : OffA (only g) A1 := ⟨fun ad e h => by have h' : ad.block = g := h; have := hA1.out ad e; omega⟩
        have hsl := dlTakes.tkS_le S k
        have hsk := dlTakes.tkS_le S (k + 1)
        go_wp2_with (first | fail)
        refine (takeDele_calls hR.out (by omega)).mono ?_
        rintro e w5 ⟨x, rfl, st5, h5, hxm, hxk, hxA⟩
        have H5 : Hid (RdrAt w5 g d (tkS dlTk S (k + 1))) := h5
        have HNX : Hid ((D ++ [x]).map DeleR.m = tkL dlTk S (k + 1)) := Lib.hid (by
          rw [List.map_append, hDm.out]
          show _ ++ [x.m] = _
          rw [hxm.out]
          rfl)
        have HXK := Lib.hid hxk
        have hlenD : D.length = k := by
          have h9 := congrArg List.length hDm.out
          rw [List.length_map, tkL_len] at h9
          exact h9
        have HLD := Lib.hid hlenD
        have n5w : SzLe w w5 := inferInstance
        have kb1 := run_dl1 x
        have hsx : (RowC.enc x).toArray.size = 5 := rfl
        have hox := enc_one x
        clear h5 hxk hlenD
        go_wp2_with (first | ((with_reducible apply (stop_dst (dst := some 23))); (try simp only [Act.put, sA, sB, sC]); ((with_reducible apply (wpl_bslice (dst := some 23))); (exact kb1 _); intro zb wb _ _ _)) | ((with_reducible apply (wpl_appendR (α := DeleR))); (exact rfl); (exact rfl); infer_instance; infer_instance; (exact HB.cells inferInstance); (exact rfl); (exact rfl); omega; (decide); (decide); intro A' c' wa _ _ hgr hcap))
        have hcA : Chg (rowOf A1) w5 wa := (inferInstance : Ch (rowOf A1) w5 wa).out
        have hb5 : w5.heap.size ≤ wb.heap.size := (inferInstance : SzLe w5 wb).out
        have hr5 : wr.heap.size ≤ w5.heap.size := st5.chg.size
        have hwr : w.heap.size ≤ wr.heap.size := st.chg.size
        have hA1lt : ∀ y, rowOf A1 y → y < wr.heap.size := fun y ⟨ad, e, h⟩ => by rw [← h]; exact hO.out.lt e
        have hxn : ∀ y, inRow x.k.A x.k.l y → wr.heap.size ≤ y := fun y ⟨_, ad, e, h⟩ => by rw [← h]; exact hxA.out ad e
        have hKD : Hid (KsD w wa A' (D ++ [x])) := Lib.hid (by
          intro z hz
          rcases List.mem_append.1 hz with h | h
          · obtain ⟨q1, q2, q3⟩ := hDk.out z h
            refine ⟨KIn.chg (KIn.chg q1 st5.chg (fun y hy h => ?_)) hcA q3, q2, fun y hy h => ?_⟩
            · obtain ⟨_, ad, e, h9⟩ := hy
              have h8 := q2.out ad e
              have h7 : y = g := h
              omega
            · have h6 := KIn.low q1 y hy
              rcases hgr.out with h9 | h9
              · rw [h9] at h; exact q3 y hy h
              · rw [h9] at h
                obtain ⟨ad, e, h8⟩ := h
                injection e with e
                subst e
                have h7 : wb.heap.size = y := h8
                omega
          · obtain rfl := List.mem_singleton.1 h
            refine ⟨KIn.chg HXK.out hcA (fun y hy h => ?_), ⟨fun ad e => Nat.le_trans hwr (hxA.out ad e)⟩, fun y hy h => ?_⟩
            · have h8 := hxn y hy
              have h9 := hA1lt y h
              omega
            · have h6 := KIn.low HXK.out y hy
              have h5 := hxn y hy
              rcases hgr.out with h9 | h9
              · rw [h9] at h
                have h4 := hA1lt y h
                omega
              · rw [h9] at h
                obtain ⟨ad, e, h8⟩ := h
                injection e with e
                subst e
                have h7 : wb.heap.size = y := h8
                omega)
        refine ⟨⟨k + 1, A', c', D ++ [x], by omega, by go_num, rfl, hcap, ⟨?_⟩, ?_, newA_grew inferInstance hA1 (Nat.le_trans n5w.out (inferInstance : SzLe w5 wb).out), Lib.hid ?_, HNX, hKD⟩, by simp [intOf]; omega⟩
        · exact (st.chg.trans st5.chg (fun _ _ h => h)).trans hcA (fun x hx ⟨ad, e, h⟩ => by have := hA1.out ad e; omega)
        · infer_instance
        · exact H5.out.far hcA (m := w.heap.size) (fun x ⟨ad, e, h⟩ => by rw [← h]; exact hA1.out ad e) hgl (fun h => hSd (by
            intro h0
            rw [h0] at hsk
            exact h (List.eq_nil_of_length_eq_zero (by simpa using hsk))))
      · have hltI : ¬ (k : Int) < N := by omega
        have hkn : k = N := by omega
        subst hkn
        have HRR := hR
        go_wp2_with (first | fail)
        go_ret
        first | refine ⟨A1, k, c1, rfl, st, ?_, D, ⟨hO.out.rd⟩, hA1, Lib.hid ?_, Lib.hid (fun x hx => ⟨(hDk.out x hx).1, (hDk.out x hx).2.1⟩), Lib.hid ⟨?_, hkc, by omega⟩⟩ | refine ⟨A1, k, c1, D, rfl, st, ?_, ⟨hO.out.rd⟩, hA1, Lib.hid ?_, Lib.hid (fun x hx => ⟨(hDk.out x hx).1, (hDk.out x hx).2.1⟩), Lib.hid ⟨?_, hkc, by omega⟩⟩
        · rw [HKM.out]; exact HRR
        · rw [HKL.out]; exact hDm.out
        · have h9 := congrArg List.length hDm.out
          rw [List.length_map, tkL_len] at h9
          exact h9
end Go.Proofs.Ythcleccofccbdaa
