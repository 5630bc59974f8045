/- SnC -/
import Derived.Test.YthcleccofccbdaaTmSnA
import Derived.Test.YthcleccofccbdaaTmRoH
import Derived.Test.YthcleccofccbdaaTmWuC
open Go Go.RowKit
namespace Go.Proofs.Ythcleccofccbdaa
theorem HB.cells {α : Type} [RowC α] {w : World} {z : Nat} {t : TypeId} {l : List α} (h : HB w z t (cellsOf l).toArray) : HR w (some ⟨z, 0, none⟩) (cellsOf l) := ⟨by
  have h1 := h.rdL
  simpa using h1⟩
theorem run_pin1 (p : PinR) (w : World) : (Instr.buildSlice 42 1 #[(0, .agg (RowC.enc p).toArray)]).run Try.prog w = .ok (.slice (some ⟨w.heap.size, 0, none⟩) 1 1) (w.alloc (.cells (cellsOf [p]).toArray 46)) := by kernel_rfl
theorem run_pinB (l : List UInt8) (v : Int) (w : World) : (Instr.build 46 #[(0, .string (strL l)), (1, .int .i64 v)]).run Try.prog w = .ok (.agg (RowC.enc (⟨l, v⟩ : PinR)).toArray) w := by kernel_rfl
set_option maxRecDepth 100000 in
set_option maxHeartbeats 1600000 in
theorem takePin_calls {g d : Nat} {s : RS} {w : World} (hw : RdrAt w g d s) (hl : s.b.length ≤ 140737488351232) :
    Calls Try.prog 123 #[.pointer (some ⟨g, 0, none⟩)] w fun e w' => e = .returned (.agg (RowC.enc (pinTk s).1).toArray) ∧ Step (only g) w w' ∧ Hid (RdrAt w' g d (pinTk s).2) := by
  have HW0 := Lib.hid hw
  have HL := Lib.hid hl
  have hgl := hw.lt
  have hdl := hw.dlt
  have hrl := RS.row_le s
  have hpl := pinTakes.le s
  obtain ⟨p, hp⟩ : ∃ p, p = (pinTk s).1 := ⟨_, rfl⟩
  have hp1 : s.row.1 = p.l := by rw [hp]; rfl
  have hp2 : ((s.row.2.num.1 : Nat) : Int) = p.v := by rw [hp]; rfl
  have kb := run_pinB p.l p.v
  have hsz : (RowC.enc p).toArray.size = 2 := rfl
  have hon := enc_one p
  have HP1 := Lib.hid hp1
  have HP2 := Lib.hid hp2
  rw [← hp]
  clear hw hl hp hp1 hp2
  go_enter Try.func123, Try.ntmps123
  go_wp2_with (first | ((with_reducible apply (wpl_alloc (dst := some 2))); intro zo wzo _ _ _) | ((with_reducible apply wpl_alloc); intro z wz _ _ _) | ((with_reducible apply wpl_storerow); (exact rfl); (exact rfl); infer_instance; infer_instance; (first | (with_reducible assumption) | (with_reducible exact H32.size _) | kernel_rfl); (first | (with_reducible assumption) | (with_reducible exact H32.size _) | kernel_rfl); (first | (with_reducible exact u8s_one _) | (with_reducible assumption) | kernel_rfl); intro ws _ _) | ((with_reducible apply wpl_storecell); (exact rfl); (exact rfl); infer_instance; (exact rfl); (first | (with_reducible assumption) | omega | (focus (simp; done)) | (focus (simp; omega; done)) | decide); intro ws _ _))
  have hzo : w.heap.size ≤ zo := Nat.le_of_eq (inferInstance : Born w zo).eq.symm
  have ozo : OffB (only g) zo := ⟨fun e => by have e' : zo = g := e; omega⟩
  refine (takeText_calls (HW0.out.chg (stepN (w0 := w)).chg (fun h => h) (fun h => h)) HL.out).mono ?_
  rw [HP1.out]
  rintro e w2 ⟨rfl, st2, h2⟩
  go_wp2_with fail
  refine (Num_calls g d s.row.2 w2 h2 (by have := HL.out; omega)).mono ?_
  rw [HP2.out]
  rintro e w3 ⟨rfl, h3, c3⟩
  have st3 : Step (only g) w2 w3 := ⟨c3.out⟩
  have hzo3 : HB w3 zo 46 #[.string ⟨#[]⟩, .int .i64 0] := inferInstance
  go_wp2_with (first | ((with_reducible apply wpl_build); (exact kb _)) | ((with_reducible apply wpl_alloc); intro z wz _ _ _) | ((with_reducible apply wpl_storerow); (exact rfl); (exact rfl); infer_instance; infer_instance; (first | (with_reducible assumption) | (with_reducible exact H32.size _) | kernel_rfl); (first | (with_reducible assumption) | (with_reducible exact H32.size _) | kernel_rfl); (first | (with_reducible exact u8s_one _) | (with_reducible assumption) | kernel_rfl); intro ws _ _) | ((with_reducible apply wpl_storecell); (exact rfl); (exact rfl); infer_instance; (exact rfl); (first | (with_reducible assumption) | omega | (focus (simp; done)) | (focus (simp; omega; done)) | decide); intro ws _ _))
  refine ret_row rfl rfl (n := 2) hsz rfl ⟨rfl, stepC, ?_⟩
  exact Lib.hid (h3.out.far (inferInstance : Step (only zo) w3 ws).chg (m := w.heap.size) (fun x hx => by have hx' : x = zo := hx; omega) hgl (fun h => hdl (by
    intro h0
    rw [h0] at hpl
    exact h (List.eq_nil_of_length_eq_zero (by simpa using hpl)))))
set_option maxRecDepth 100000 in
set_option maxHeartbeats 3200000 in
theorem takenP_calls {g d : Nat} {s : RS} {w : World} (hw : RdrAt w g d s) (hl : s.b.length ≤ 140737488351232) :
    Calls Try.prog 122 #[.pointer (some ⟨g, 0, none⟩), .int .i64 16, .func (.func 123) #[] #[]] w fun e w' => ∃ A n c, e = .returned (.slice A n c) ∧ Step (only g) w w' ∧ Hid (RdrAt w' g d (lstS pinTk 16 s)) ∧ HR w' A (cellsOf (lstL pinTk 16 s)) ∧ NewA w A ∧ Hid ((lstL pinTk 16 s).length = n ∧ n ≤ c ∧ n ≤ 16) := by
  have HW0 := Lib.hid hw
  have HL := Lib.hid hl
  have hgl := hw.lt
  have hdl := hw.dlt
  obtain ⟨N, hN⟩ : ∃ N, N = s.num.1 := ⟨_, rfl⟩
  obtain ⟨S, hS1⟩ : ∃ S, S = s.num.2 := ⟨_, rfl⟩
  have HN := Lib.hid hN
  have HS := Lib.hid hS1
  have hSl : S.b.length ≤ 140737488351232 := by rw [hS1]; exact Nat.le_trans (RS.num_le s) hl
  have hSd : S.b ≠ [] → d < w.heap.size := fun h => hdl (num_ne (by rw [← hS1]; exact h))
  clear hw hl hN hS1
  go_enter Try.func122, Try.ntmps122
  go_wp2_with fail
  refine (Num_calls g d s w HW0.out (by have := HL.out; omega)).mono ?_
  rw [← HN.out, ← HS.out]
  rintro e w2 ⟨rfl, h2, c2⟩
  have st2 : Step (only g) w w2 := ⟨c2.out⟩
  clear c2
  by_cases h4 : 16 < N
  · have h4I : 16 < (N : Int) := by omega
    have HKM : Hid (lstS pinTk 16 s = RS.bad) := Lib.hid (by rw [lstS, if_pos (by rw [← HN.out]; exact h4)])
    have HKL : Hid (lstL pinTk 16 s = []) := Lib.hid (by rw [lstL, if_pos (by rw [← HN.out]; exact h4)])
    go_wp2_with (first | fail)
    refine (Bad_calls g d _ _ h2.out).mono ?_
    rintro e w3 ⟨rfl, h3, c3⟩
    have st3 : Step (only g) w2 w3 := ⟨c3.out⟩
    go_wp2_with (first | fail)
    go_ret
    refine ⟨none, 0, 0, rfl, ⟨st2.chg.trans st3.chg (fun _ _ h => h)⟩, ?_, ?_, newA_none _, Lib.hid ⟨?_, Nat.le_refl _, by decide⟩⟩
    · rw [HKM.out]; exact h3
    · rw [HKL.out]; exact ⟨Rd.nil _ _⟩
    · rw [HKL.out]; rfl
  · have h4I : ¬ 16 < (N : Int) := by omega
    have HKM : Hid (lstS pinTk 16 s = tkS pinTk S N) := Lib.hid (by rw [lstS, if_neg (by rw [← HN.out]; exact h4), ← HN.out, ← HS.out])
    have HKL : Hid (lstL pinTk 16 s = tkL pinTk S N) := Lib.hid (by rw [lstL, if_neg (by rw [← HN.out]; exact h4), ← HN.out, ← HS.out])
    have hcell0 : HO w2 46 2 none 0 0 (cellsOf ([] : List PinR)) := ⟨Own.nil _ _ _⟩
    go_wp2_with (first | fail)
    go_loopw [8, 17] (fun lv iv wr => ∃ (k : Nat) (A1 : Option Addr) (c1 : Nat), k ≤ N ∧ iv = .int .i64 (k : Int) ∧ lv = .slice A1 k c1 ∧ k ≤ c1 ∧ Step (only g) w wr ∧ HO wr 46 2 A1 k c1 (cellsOf (tkL pinTk S k)) ∧ NewA w A1 ∧ Hid (RdrAt wr g d (tkS pinTk S k))) (fun _ iv _ => N - (intOf iv).toNat)
    case atStart => exact ⟨0, none, 0, Nat.zero_le _, rfl, rfl, Nat.le_refl _, st2, hcell0, newA_none _, h2⟩
    case round =>
      clear st2 h2 hcell0
      obtain ⟨k, A1, c1, hk, rfl, rfl, hkc, st, hO, hA1, hR⟩ := hrel
      by_cases hlt : k < N
      · have hltI : (k : Int) < N := by omega
        have og : OffA (only g) A1 := ⟨fun ad e h => by have h' : ad.block = g := h; have := hA1.out ad e; omega⟩
        have hsl := pinTakes.tkS_le S k
        have hsk := pinTakes.tkS_le S (k + 1)
        have kb1 := run_pin1 (pinTk (tkS pinTk S k)).1
        go_wp2_with (first | fail)
        refine (takePin_calls hR.out (by omega)).mono ?_
        rintro e w5 ⟨rfl, st5, h5⟩
        have H5 : Hid (RdrAt w5 g d (tkS pinTk S (k + 1))) := h5
        have HNX : Hid (tkL pinTk S k ++ [(pinTk (tkS pinTk S k)).1] = tkL pinTk S (k + 1)) := Lib.hid rfl
        have n5w : SzLe w w5 := inferInstance
        clear h5
        go_wp2_with (first | ((with_reducible apply (stop_dst (dst := some 23))); (try simp only [Act.put, sA, sB, sC]); ((with_reducible apply (wpl_bslice (dst := some 23))); (exact kb1 _); intro zb wb _ _ _)) | ((with_reducible apply (wpl_appendR (α := PinR))); (exact rfl); (exact rfl); infer_instance; infer_instance; (exact HB.cells inferInstance); (exact rfl); (exact rfl); omega; (decide); (decide); intro A' c' wa _ _ _ hcap))
        have hcA : Chg (rowOf A1) w5 wa := (inferInstance : Ch (rowOf A1) w5 wa).out
        refine ⟨⟨k + 1, A', c', by omega, by go_num, rfl, hcap, ⟨?_⟩, ?_, newA_grew inferInstance hA1 (Nat.le_trans n5w.out (inferInstance : SzLe w5 wb).out), Lib.hid ?_⟩, by simp [intOf]; omega⟩
        · exact (st.chg.trans st5.chg (fun _ _ h => h)).trans hcA (fun x hx ⟨ad, e, h⟩ => by have := hA1.out ad e; omega)
        · rw [← HNX.out]; infer_instance
        · exact H5.out.far hcA (m := w.heap.size) (fun x ⟨ad, e, h⟩ => by rw [← h]; exact hA1.out ad e) hgl (fun h => hSd (by
            intro h0
            rw [h0] at hsk
            exact h (List.eq_nil_of_length_eq_zero (by simpa using hsk))))
      · have hltI : ¬ (k : Int) < N := by omega
        have hkn : k = N := by omega
        subst hkn
        have HRR := hR
        go_wp2_with (first | fail)
        go_ret
        refine ⟨A1, k, c1, rfl, st, ?_, ?_, hA1, Lib.hid ⟨?_, hkc, by omega⟩⟩
        · rw [HKM.out]; exact HRR
        · rw [HKL.out]; exact ⟨hO.out.rd⟩
        · rw [HKL.out, tkL_len]
theorem put2S (z : Nat) (s : RS) : putN z [some ⟨z, 0, none⟩, some ⟨z, 1, none⟩] s 2 #[.int .i64 0, .int .i64 0, .slice none 0 0] = #[.int .i64 (s.num.1 : Nat), .int .i64 ((s.at 1).num.1 : Nat), .slice none 0 0] := by
  simp only [putN, List.getElem?_cons_zero, List.getElem?_cons_succ, if_pos]
  rfl
set_option maxRecDepth 100000 in
set_option maxHeartbeats 3200000 in
theorem takeSnap_calls {g d : Nat} {s : RS} {w : World} (hw : RdrAt w g d s) (hl : s.b.length ≤ 140737488351232) :
    Calls Try.prog 65 #[.pointer (some ⟨g, 0, none⟩)] w fun e w' => ∃ A n c, e = .returned (.agg #[.int .i64 (s.num.1 : Nat), .int .i64 ((s.at 1).num.1 : Nat), .slice A n c]) ∧ Step (only g) w w' ∧ Hid (RdrAt w' g d (lstS pinTk 16 (s.at 2))) ∧ HR w' A (cellsOf (lstL pinTk 16 (s.at 2))) ∧ NewA w A ∧ Hid ((lstL pinTk 16 (s.at 2)).length = n ∧ n ≤ c ∧ n ≤ 16) := by
  have HW0 := Lib.hid hw
  have HL := Lib.hid hl
  have hgl := hw.lt
  have hdl := hw.dlt
  obtain ⟨V, hV⟩ : ∃ V, V = s.num.1 := ⟨_, rfl⟩
  obtain ⟨E, hE⟩ : ∃ E, E = (s.at 1).num.1 := ⟨_, rfl⟩
  obtain ⟨S, hS⟩ : ∃ S, S = s.at 2 := ⟨_, rfl⟩
  have HV := Lib.hid hV
  have HE := Lib.hid hE
  have HS := Lib.hid hS
  have hSl : S.b.length ≤ 140737488351232 := by rw [hS]; exact Nat.le_trans (s.at_le 2) hl
  have hSd : S.b ≠ [] → d < w.heap.size := fun h => hdl (RS.at_ne (k := 2) (by rw [← hS]; exact h))
  have hll := pinTakes.lstS_le 16 S
  rw [← hV, ← hE, ← hS]
  clear hw hl hV hE hS
  go_enter Try.func65, Try.ntmps65
  go_wp2_with (first | ((with_reducible apply (stop_dst (dst := some 7))); (try simp only [Act.put, sA, sB, sC]); ((with_reducible apply (wpl_bslice (dst := some 7))); (exact run_ptr2R _ _ _); intro zb wb _ _ _)) | ((with_reducible apply (wpl_alloc (dst := some 2))); intro zo wzo _ _ _) | ((with_reducible apply (wpl_alloc (dst := some 3))); intro zt wzt _ _ _) | ((with_reducible apply wpl_alloc); intro z wz _ _ _) | ((with_reducible apply wpl_loadrow); (exact rfl); infer_instance; infer_instance; (first | (with_reducible assumption) | (with_reducible exact H32.size _) | kernel_rfl)) | ((with_reducible apply wpl_loadcellN); (exact rfl); infer_instance; (exact rfl)) | ((with_reducible apply wpl_storerow); (exact rfl); (exact rfl); infer_instance; infer_instance; (first | (with_reducible assumption) | (with_reducible exact H32.size _) | kernel_rfl); (first | (with_reducible assumption) | (with_reducible exact H32.size _) | kernel_rfl); (first | (with_reducible exact u8s_one _) | (with_reducible assumption) | kernel_rfl); intro ws _ _) | ((with_reducible apply wpl_storecell); (exact rfl); (exact rfl); infer_instance; (exact rfl); (first | (with_reducible assumption) | omega | (focus (simp; done)) | (focus (simp; omega; done)) | decide); intro ws _ _))
  have hzo : w.heap.size ≤ zo := Nat.le_of_eq (inferInstance : Born w zo).eq.symm
  have hzt : w.heap.size ≤ zt := by
    have e1 := (inferInstance : Born wzo zt).eq
    have e2 := (inferInstance : SzLe w wzo).out
    omega
  have hzb : w.heap.size ≤ zb := by
    have e1 := (inferInstance : Born wzt zb).eq
    have e2 := (inferInstance : SzLe w wzt).out
    omega
  have hzbt : zb ≠ zt := by
    have e1 := (inferInstance : Born wzt zb).eq
    have e2 := (inferInstance : HB wzt zt 44 #[.int .i64 0, .int .i64 0, .slice none 0 0]).out.lt
    omega
  have hzot : zo ≠ zt := by
    have e1 := (inferInstance : Born wzo zt).eq
    have e2 := (inferInstance : HB wzo zo 44 #[.int .i64 0, .int .i64 0, .slice none 0 0]).out.lt
    omega
  have hbb : HB wb zb 167 #[.pointer (some ⟨zt, 0, none⟩), .pointer (some ⟨zt, 1, none⟩)] := inferInstance
  have hbt : HB wb zt 44 #[.int .i64 0, .int .i64 0, .slice none 0 0] := inferInstance
  have hbo : HB wb zo 44 #[.int .i64 0, .int .i64 0, .slice none 0 0] := inferInstance
  have hnn : Nw w wb := inferInstance
  have hdt : s.b ≠ [] → zt ≠ d := fun h e => by
    have := hdl h
    omega
  have hrd := hbb.rdL
  refine (rNums_calls g d s (some ⟨zb, 0, none⟩) 2 2 [some ⟨zt, 0, none⟩, some ⟨zt, 1, none⟩] _ (HW0.out.chg hnn.out (fun h => h) (fun h => h)) (by have := HL.out; omega) hrd rfl (by decide) ?_ ?_).mono ?_
  · rintro _ ad e hk
    injection e with e
    subst e
    rcases hk with hk | ⟨ad, hm, hk⟩
    · have hk' : zb = g := hk
      omega
    · simp only [List.mem_cons, List.not_mem_nil, or_false, Option.some.injEq] at hm
      rcases hm with rfl | rfl
      · exact hzbt hk.symm
      · exact hzbt hk.symm
  · intro ad hm
    simp only [List.mem_cons, List.not_mem_nil, or_false, Option.some.injEq] at hm
    rcases hm with rfl | rfl
    · exact ⟨zt, 0, _, _, rfl, hbt.out, by decide, by omega, hdt⟩
    · exact ⟨zt, 1, _, _, rfl, hbt.out, by decide, by omega, hdt⟩
  rintro e w5 ⟨rfl, h5, c5, p5⟩
  have st5 : Step (gz2 g zt) wb w5 := ⟨c5.out.mono (fun x _ hx => by
    rcases hx with hx | ⟨ad, hm, hk⟩
    · exact .inl hx
    · simp only [List.mem_cons, List.not_mem_nil, or_false, Option.some.injEq] at hm
      rcases hm with rfl | rfl
      · exact .inr hk.symm
      · exact .inr hk.symm)⟩
  have ht5 : HB w5 zt 44 #[.int .i64 V, .int .i64 E, .slice none 0 0] := ⟨by
    have h9 := p5.out zt _ _ (by omega) hbt.out
    rw [put2S, ← HV.out, ← HE.out] at h9
    exact h9⟩
  have o1 : OffB (only g) zt := ⟨fun e => by have e' : zt = g := e; omega⟩
  have o2 : OffB (gz2 g zt) zo := ⟨fun e => by rcases e with e | e <;> omega⟩
  have o3 : OffB (only g) zo := ⟨fun e => by have e' : zo = g := e; omega⟩
  have o4 : OffB (only zt) zo := ⟨fun e => hzot e⟩
  have ho5 : HB w5 zo 44 #[.int .i64 0, .int .i64 0, .slice none 0 0] := inferInstance
  have hC05 : Hid (Chg (only g) w w5) := Lib.hid ((hnn.out.mono (T := only g) (fun _ _ h => h.elim)).trans st5.chg (fun x hx h => by
    rcases h with h | h
    · exact h
    · omega))
  have hsz5 : w.heap.size ≤ w5.heap.size := hC05.out.size
  have hztl : zt < w5.heap.size := ht5.out.lt
  have hzol : zo < w5.heap.size := ho5.out.lt
  have H5 : Hid (RdrAt w5 g d S) := Lib.hid (by rw [HS.out]; exact h5.out)
  clear c5 p5 h5 hbt hbb hrd hbo st5
  go_wp2_with (first | ((with_reducible apply wpl_alloc); intro z wz _ _ _) | ((with_reducible apply wpl_loadrow); (exact rfl); infer_instance; infer_instance; (first | (with_reducible assumption) | (with_reducible exact H32.size _) | kernel_rfl)) | ((with_reducible apply wpl_loadcellN); (exact rfl); infer_instance; (exact rfl)) | ((with_reducible apply wpl_storerow); (exact rfl); (exact rfl); infer_instance; infer_instance; (first | (with_reducible assumption) | (with_reducible exact H32.size _) | kernel_rfl); (first | (with_reducible assumption) | (with_reducible exact H32.size _) | kernel_rfl); (first | (with_reducible exact u8s_one _) | (with_reducible assumption) | kernel_rfl); intro ws _ _) | ((with_reducible apply wpl_storecell); (exact rfl); (exact rfl); infer_instance; (exact rfl); (first | (with_reducible assumption) | omega | (focus (simp; done)) | (focus (simp; omega; done)) | decide); intro ws _ _))
  refine (takenP_calls H5.out hSl).mono ?_
  rintro e w6 ⟨A, n, c, rfl, st6, h6, hr6, hA6, hn6⟩
  have ht6 : HB w6 zt 44 #[.int .i64 V, .int .i64 E, .slice none 0 0] := inferInstance
  have ho6 : HB w6 zo 44 #[.int .i64 0, .int .i64 0, .slice none 0 0] := inferInstance
  have H6 := h6
  have HR6 := Lib.hid hr6.out
  clear h6 hr6
  go_wp2_with (first | ((with_reducible apply wpl_alloc); intro z wz _ _ _) | ((with_reducible apply wpl_loadrow); (exact rfl); infer_instance; infer_instance; (first | (with_reducible assumption) | (with_reducible exact H32.size _) | kernel_rfl)) | ((with_reducible apply wpl_loadcellN); (exact rfl); infer_instance; (exact rfl)) | ((with_reducible apply wpl_storerow); (exact rfl); (exact rfl); infer_instance; infer_instance; (first | (with_reducible assumption) | (with_reducible exact H32.size _) | kernel_rfl); (first | (with_reducible assumption) | (with_reducible exact H32.size _) | kernel_rfl); (first | (with_reducible exact u8s_one _) | (with_reducible assumption) | kernel_rfl); intro ws _ _) | ((with_reducible apply wpl_storecell); (exact rfl); (exact rfl); infer_instance; (exact rfl); (first | (with_reducible assumption) | omega | (focus (simp; done)) | (focus (simp; omega; done)) | decide); intro ws _ _))
  have hcF : Chg (gz2 zt zo) w6 ws := (inferInstance : Ch (gz2 zt zo) w6 ws).out
  refine ret_row rfl rfl (n := 3) rfl rfl ⟨A, n, c, rfl, ⟨?_⟩, Lib.hid ?_, ⟨?_⟩, ⟨fun ad e => Nat.le_trans hsz5 (hA6.out ad e)⟩, hn6⟩
  · exact (hC05.out.trans st6.chg (fun _ _ h => h)).trans hcF (fun x hx h => by rcases h with h | h <;> omega)
  · exact H6.out.far hcF (m := w.heap.size) (fun x h => by rcases h with h | h <;> omega) hgl (fun h => hSd (by
      intro h0
      rw [h0] at hll
      exact h (List.eq_nil_of_length_eq_zero (by simpa using hll))))
  · exact HR6.out.chg hcF (fun _ ad e h => by
      have h1 := hA6.out ad e
      rcases h with h | h <;> omega)
end Go.Proofs.Ythcleccofccbdaa
