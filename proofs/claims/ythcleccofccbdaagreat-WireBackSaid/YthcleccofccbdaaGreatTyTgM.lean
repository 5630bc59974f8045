/- SnC, TgM -/
import Derived.Test.YthcleccofccbdaaGreatTySnH
import Derived.Test.YthcleccofccbdaaGreatTyRoJ
import Derived.Test.YthcleccofccbdaaGreatTyWyQ
import Derived.Test.YthcleccofccbdaaGreatTyTgA
import Derived.Test.YthcleccofccbdaaGreatTyTgC
section
open Go Go.RowKit
namespace Go.Proofs.YthcleccofccbdaaGreat
theorem HB.cells {α : Type} [RowC α] {w : World} {z : Nat} {t : TypeId} {l : List α} (h : HB w z t (cellsOf l).toArray) : HR w (some ⟨z, 0, none⟩) (cellsOf l) := ⟨by
  have h1 := h.rdL
  simpa using h1⟩
theorem run_pin1 (p : PinR) (w : World) : (Instr.buildSlice 50 1 #[(0, .agg (RowC.enc p).toArray)]).run Tryz.prog w = .ok (.slice (some ⟨w.heap.size, 0, none⟩) 1 1) (w.alloc (.cells (cellsOf [p]).toArray 122)) := by kernel_rfl
theorem run_pinB (l : List UInt8) (v : Int) (w : World) : (Instr.build 122 #[(0, .string (strL l)), (1, .int .i64 v)]).run Tryz.prog w = .ok (.agg (RowC.enc (⟨l, v⟩ : PinR)).toArray) w := by kernel_rfl
set_option maxRecDepth 100000 in
set_option maxHeartbeats 1600000 in
theorem takePin_calls {g d : Nat} {s : RS} {w : World} (hw : RdrAt w g d s) (hl : s.b.length ≤ 140737488351232) :
    Calls Tryz.prog 132 #[.pointer (some ⟨g, 0, none⟩)] w fun e w' => e = .returned (.agg (RowC.enc (pinTk s).1).toArray) ∧ Step (only g) w w' ∧ Hid (RdrAt w' g d (pinTk s).2) := by
  have HW0 := Lib.hid hw
  have HL := Lib.hid hl
  have hgl := hw.lt
  have hdl := hw.dlt
  have hrl := RS.row_le s
  have hpl := pinTakes.le s
  obtain ⟨p, hp⟩ : ∃ p, p = (pinTk s).1 := ⟨_, rfl⟩
  have hp1 : s.row.1 = p.l := by rw [hp]; rfl
  have hp2 : ((s.row.2.num.1 : Nat) : Int) = p.v := by rw [hp]; rfl
  have kb := run_pinB p.l p.v
  have hsz : (RowC.enc p).toArray.size = 2 := rfl
  have hon := enc_one p
  have HP1 := Lib.hid hp1
  have HP2 := Lib.hid hp2
  rw [← hp]
  clear hw hl hp hp1 hp2
  go_enter Tryz.func132, Tryz.ntmps132
  go_wp2_with (first | ((with_reducible apply (wpl_alloc (dst := some 2))); intro zo wzo _ _ _))
  have hzo : w.heap.size ≤ zo := Nat.le_of_eq (inferInstance : Born w zo).eq.symm
  have ozo : OffB (only g) zo := ⟨fun e => by have e' : zo = g := e; omega⟩
  refine (takeText_calls (HW0.out.chg (stepN (w0 := w)).chg (fun h => h) (fun h => h)) HL.out).mono ?_
  rw [HP1.out]
  rintro e w2 ⟨rfl, st2, h2⟩
  go_wp2_with fail
  refine (Num_calls g d s.row.2 w2 h2 (by have := HL.out; omega)).mono ?_
  rw [HP2.out]
  rintro e w3 ⟨rfl, h3, c3⟩
  have st3 : Step (only g) w2 w3 := ⟨c3.out⟩
  have hzo3 : HB w3 zo 122 #[.string ⟨#[]⟩, .int .i64 0] := inferInstance
  go_wp2_with (first | ((with_reducible apply wpl_build); (exact kb _)) | ((with_reducible apply wpl_storerow); (exact rfl); (exact rfl); infer_instance; infer_instance; (first | (with_reducible assumption) | (with_reducible exact H32.size _) | kernel_rfl); (first | (with_reducible assumption) | (with_reducible exact H32.size _) | kernel_rfl); (first | (with_reducible exact u8s_one _) | (with_reducible assumption) | kernel_rfl); intro ws _ _))
  refine ret_row rfl rfl (n := 2) hsz rfl ⟨rfl, stepC, ?_⟩
  exact Lib.hid (h3.out.far (inferInstance : Step (only zo) w3 ws).chg (m := w.heap.size) (fun x hx => by have hx' : x = zo := hx; omega) hgl (fun h => hdl (by
    intro h0
    rw [h0] at hpl
    exact h (List.eq_nil_of_length_eq_zero (by simpa using hpl)))))
set_option maxRecDepth 100000 in
set_option maxHeartbeats 3200000 in
theorem takenP_calls {g d : Nat} {s : RS} {w : World} (hw : RdrAt w g d s) (hl : s.b.length ≤ 140737488351232) :
    Calls Tryz.prog 131 #[.pointer (some ⟨g, 0, none⟩), .int .i64 16, .func (.func 132) #[] #[]] w fun e w' => ∃ A n c, e = .returned (.slice A n c) ∧ Step (only g) w w' ∧ Hid (RdrAt w' g d (lstS pinTk 16 s)) ∧ HR w' A (cellsOf (lstL pinTk 16 s)) ∧ NewA w A ∧ Hid ((lstL pinTk 16 s).length = n ∧ n ≤ c ∧ n ≤ 16) := by
  have HW0 := Lib.hid hw
  have HL := Lib.hid hl
  have hgl := hw.lt
  have hdl := hw.dlt
  obtain ⟨N, hN⟩ : ∃ N, N = s.num.1 := ⟨_, rfl⟩
  obtain ⟨S, hS1⟩ : ∃ S, S = s.num.2 := ⟨_, rfl⟩
  have HN := Lib.hid hN
  have HS := Lib.hid hS1
  have hSl : S.b.length ≤ 140737488351232 := by rw [hS1]; exact Nat.le_trans (RS.num_le s) hl
  have hSd : S.b ≠ [] → d < w.heap.size := fun h => hdl (num_ne (by rw [← hS1]; exact h))
  clear hw hl hN hS1
  go_enter Tryz.func131, Tryz.ntmps131
  go_wp2_with fail
  refine (Num_calls g d s w HW0.out (by have := HL.out; omega)).mono ?_
  rw [← HN.out, ← HS.out]
  rintro e w2 ⟨rfl, h2, c2⟩
  have st2 : Step (only g) w w2 := ⟨c2.out⟩
  clear c2
  by_cases h4 : 16 < N
  · have h4I : 16 < (N : Int) := by omega
    have HKM : Hid (lstS pinTk 16 s = RS.bad) := Lib.hid (by rw [lstS, if_pos (by rw [← HN.out]; exact h4)])
    have HKL : Hid (lstL pinTk 16 s = []) := Lib.hid (by rw [lstL, if_pos (by rw [← HN.out]; exact h4)])
    go_wp2_with fail
    refine (Bad_calls g d _ _ h2.out).mono ?_
    rintro e w3 ⟨rfl, h3, c3⟩
    have st3 : Step (only g) w2 w3 := ⟨c3.out⟩
    go_wp2_with fail
    go_ret
    refine ⟨none, 0, 0, rfl, ⟨st2.chg.trans st3.chg (fun _ _ h => h)⟩, ?_, ?_, newA_none _, Lib.hid ⟨?_, Nat.le_refl _, by decide⟩⟩
    · rw [HKM.out]; exact h3
    · rw [HKL.out]; exact ⟨Rd.nil _ _⟩
    · rw [HKL.out]; rfl
  · have h4I : ¬ 16 < (N : Int) := by omega
    have HKM : Hid (lstS pinTk 16 s = tkS pinTk S N) := Lib.hid (by rw [lstS, if_neg (by rw [← HN.out]; exact h4), ← HN.out, ← HS.out])
    have HKL : Hid (lstL pinTk 16 s = tkL pinTk S N) := Lib.hid (by rw [lstL, if_neg (by rw [← HN.out]; exact h4), ← HN.out, ← HS.out])
    have hcell0 : HO w2 122 2 none 0 0 (cellsOf ([] : List PinR)) := ⟨Own.nil _ _ _⟩
    go_wp2_with fail
    go_loopw [8, 17] (fun lv iv wr => ∃ (k : Nat) (A1 : Option Addr) (c1 : Nat), k ≤ N ∧ iv = .int .i64 (k : Int) ∧ lv = .slice A1 k c1 ∧ k ≤ c1 ∧ Step (only g) w wr ∧ HO wr 122 2 A1 k c1 (cellsOf (tkL pinTk S k)) ∧ NewA w A1 ∧ Hid (RdrAt wr g d (tkS pinTk S k))) (fun _ iv _ => N - (intOf iv).toNat)
    case atStart => exact ⟨0, none, 0, Nat.zero_le _, rfl, rfl, Nat.le_refl _, st2, hcell0, newA_none _, h2⟩
    case round =>
      clear st2 h2 hcell0
      obtain ⟨k, A1, c1, hk, rfl, rfl, hkc, st, hO, hA1, hR⟩ := hrel
      by_cases hlt : k < N
      · have hltI : (k : Int) < N := by omega
        have og : OffA (only g) A1 := ⟨fun ad e h => by have h' : ad.block = g := h; have := hA1.out ad e; omega⟩
        have hsl := pinTakes.tkS_le S k
        have hsk := pinTakes.tkS_le S (k + 1)
        have kb1 := run_pin1 (pinTk (tkS pinTk S k)).1
        go_wp2_with fail
        refine (takePin_calls hR.out (by omega)).mono ?_
        rintro e w5 ⟨rfl, st5, h5⟩
        have H5 : Hid (RdrAt w5 g d (tkS pinTk S (k + 1))) := h5
        have HNX : Hid (tkL pinTk S k ++ [(pinTk (tkS pinTk S k)).1] = tkL pinTk S (k + 1)) := Lib.hid rfl
        have n5w : SzLe w w5 := inferInstance
        clear h5
        go_wp2_with (first | ((with_reducible apply (stop_dst (dst := some 23))); (try simp only [Act.put, sA, sB, sC]); ((with_reducible apply (wpl_bslice (dst := some 23))); (exact kb1 _); intro zb wb _ _ _)) | ((with_reducible apply (wpl_appendR (α := PinR))); (exact rfl); (exact rfl); infer_instance; infer_instance; (exact HB.cells inferInstance); (exact rfl); (exact rfl); omega; (decide); (decide); intro A' c' wa _ _ _ hcap))
        have hcA : Chg (rowOf A1) w5 wa := (inferInstance : Ch (rowOf A1) w5 wa).out
        refine ⟨⟨k + 1, A', c', by omega, by go_num, rfl, hcap, ⟨?_⟩, ?_, newA_grew inferInstance hA1 (Nat.le_trans n5w.out (inferInstance : SzLe w5 wb).out), Lib.hid ?_⟩, by simp [intOf]; omega⟩
        · exact (st.chg.trans st5.chg (fun _ _ h => h)).trans hcA (fun x hx ⟨ad, e, h⟩ => by have := hA1.out ad e; omega)
        · rw [← HNX.out]; infer_instance
        · exact H5.out.far hcA (m := w.heap.size) (fun x ⟨ad, e, h⟩ => by rw [← h]; exact hA1.out ad e) hgl (fun h => hSd (by
            intro h0
            rw [h0] at hsk
            exact h (List.eq_nil_of_length_eq_zero (by simpa using hsk))))
      · have hltI : ¬ (k : Int) < N := by omega
        have hkn : k = N := by omega
        subst hkn
        have HRR := hR
        go_wp2_with fail
        go_ret
        refine ⟨A1, k, c1, rfl, st, ?_, ?_, hA1, Lib.hid ⟨?_, hkc, by omega⟩⟩
        · rw [HKM.out]; exact HRR
        · rw [HKL.out]; exact ⟨hO.out.rd⟩
        · rw [HKL.out, tkL_len]
theorem put2S (z : Nat) (s : RS) : putN z [some ⟨z, 0, none⟩, some ⟨z, 1, none⟩] s 2 #[.int .i64 0, .int .i64 0, .slice none 0 0] = #[.int .i64 (s.num.1 : Nat), .int .i64 ((s.at 1).num.1 : Nat), .slice none 0 0] := by
  simp only [putN, List.getElem?_cons_zero, List.getElem?_cons_succ, if_pos]
  rfl
set_option maxRecDepth 100000 in
set_option maxHeartbeats 3200000 in
theorem takeSnap_calls {g d : Nat} {s : RS} {w : World} (hw : RdrAt w g d s) (hl : s.b.length ≤ 140737488351232) :
    Calls Tryz.prog 67 #[.pointer (some ⟨g, 0, none⟩)] w fun e w' => ∃ A n c, e = .returned (.agg #[.int .i64 (s.num.1 : Nat), .int .i64 ((s.at 1).num.1 : Nat), .slice A n c]) ∧ Step (only g) w w' ∧ Hid (RdrAt w' g d (lstS pinTk 16 (s.at 2))) ∧ HR w' A (cellsOf (lstL pinTk 16 (s.at 2))) ∧ NewA w A ∧ Hid ((lstL pinTk 16 (s.at 2)).length = n ∧ n ≤ c ∧ n ≤ 16) := by
  have HW0 := Lib.hid hw
  have HL := Lib.hid hl
  have hgl := hw.lt
  have hdl := hw.dlt
  obtain ⟨V, hV⟩ : ∃ V, V = s.num.1 := ⟨_, rfl⟩
  obtain ⟨E, hE⟩ : ∃ E, E = (s.at 1).num.1 := ⟨_, rfl⟩
  obtain ⟨S, hS⟩ : ∃ S, S = s.at 2 := ⟨_, rfl⟩
  have HV := Lib.hid hV
  have HE := Lib.hid hE
  have HS := Lib.hid hS
  have hSl : S.b.length ≤ 140737488351232 := by rw [hS]; exact Nat.le_trans (s.at_le 2) hl
  have hSd : S.b ≠ [] → d < w.heap.size := fun h => hdl (RS.at_ne (k := 2) (by rw [← hS]; exact h))
  have hll := pinTakes.lstS_le 16 S
  rw [← hV, ← hE, ← hS]
  clear hw hl hV hE hS
  go_enter Tryz.func67, Tryz.ntmps67
  go_wp2_with (first | ((with_reducible apply (stop_dst (dst := some 7))); (try simp only [Act.put, sA, sB, sC]); ((with_reducible apply (wpl_bslice (dst := some 7))); (exact run_ptr2R _ _ _); intro zb wb _ _ _)) | ((with_reducible apply (wpl_alloc (dst := some 2))); intro zo wzo _ _ _) | ((with_reducible apply (wpl_alloc (dst := some 3))); intro zt wzt _ _ _))
  have hzo : w.heap.size ≤ zo := Nat.le_of_eq (inferInstance : Born w zo).eq.symm
  have hzt : w.heap.size ≤ zt := by
    have e1 := (inferInstance : Born wzo zt).eq
    have e2 := (inferInstance : SzLe w wzo).out
    omega
  have hzb : w.heap.size ≤ zb := by
    have e1 := (inferInstance : Born wzt zb).eq
    have e2 := (inferInstance : SzLe w wzt).out
    omega
  have hzbt : zb ≠ zt := by
    have e1 := (inferInstance : Born wzt zb).eq
    have e2 := (inferInstance : HB wzt zt 52 #[.int .i64 0, .int .i64 0, .slice none 0 0]).out.lt
    omega
  have hzot : zo ≠ zt := by
    have e1 := (inferInstance : Born wzo zt).eq
    have e2 := (inferInstance : HB wzo zo 52 #[.int .i64 0, .int .i64 0, .slice none 0 0]).out.lt
    omega
  have hbb : HB wb zb 173 #[.pointer (some ⟨zt, 0, none⟩), .pointer (some ⟨zt, 1, none⟩)] := inferInstance
  have hbt : HB wb zt 52 #[.int .i64 0, .int .i64 0, .slice none 0 0] := inferInstance
  have hbo : HB wb zo 52 #[.int .i64 0, .int .i64 0, .slice none 0 0] := inferInstance
  have hnn : Nw w wb := inferInstance
  have hdt : s.b ≠ [] → zt ≠ d := fun h e => by
    have := hdl h
    omega
  have hrd := hbb.rdL
  refine (rNums_calls g d s (some ⟨zb, 0, none⟩) 2 2 [some ⟨zt, 0, none⟩, some ⟨zt, 1, none⟩] _ (HW0.out.chg hnn.out (fun h => h) (fun h => h)) (by have := HL.out; omega) hrd rfl (by decide) ?_ ?_).mono ?_
  · rintro _ ad e hk
    injection e with e
    subst e
    rcases hk with hk | ⟨ad, hm, hk⟩
    · have hk' : zb = g := hk
      omega
    · simp only [List.mem_cons, List.not_mem_nil, or_false, Option.some.injEq] at hm
      rcases hm with rfl | rfl
      · exact hzbt hk.symm
      · exact hzbt hk.symm
  · intro ad hm
    simp only [List.mem_cons, List.not_mem_nil, or_false, Option.some.injEq] at hm
    rcases hm with rfl | rfl
    · exact ⟨zt, 0, _, _, rfl, hbt.out, by decide, by omega, hdt⟩
    · exact ⟨zt, 1, _, _, rfl, hbt.out, by decide, by omega, hdt⟩
  rintro e w5 ⟨rfl, h5, c5, p5⟩
  have st5 : Step (gz2 g zt) wb w5 := ⟨c5.out.mono (fun x _ hx => by
    rcases hx with hx | ⟨ad, hm, hk⟩
    · exact .inl hx
    · simp only [List.mem_cons, List.not_mem_nil, or_false, Option.some.injEq] at hm
      rcases hm with rfl | rfl
      · exact .inr hk.symm
      · exact .inr hk.symm)⟩
  have ht5 : HB w5 zt 52 #[.int .i64 V, .int .i64 E, .slice none 0 0] := ⟨by
    have h9 := p5.out zt _ _ (by omega) hbt.out
    rw [put2S, ← HV.out, ← HE.out] at h9
    exact h9⟩
  have o1 : OffB (only g) zt := ⟨fun e => by have e' : zt = g := e; omega⟩
  have o2 : OffB (gz2 g zt) zo := ⟨fun e => by rcases e with e | e <;> omega⟩
  have o3 : OffB (only g) zo := ⟨fun e => by have e' : zo = g := e; omega⟩
  have o4 : OffB (only zt) zo := ⟨fun e => hzot e⟩
  have ho5 : HB w5 zo 52 #[.int .i64 0, .int .i64 0, .slice none 0 0] := inferInstance
  have hC05 : Hid (Chg (only g) w w5) := Lib.hid ((hnn.out.mono (T := only g) (fun _ _ h => h.elim)).trans st5.chg (fun x hx h => by
    rcases h with h | h
    · exact h
    · omega))
  have hsz5 : w.heap.size ≤ w5.heap.size := hC05.out.size
  have hztl : zt < w5.heap.size := ht5.out.lt
  have hzol : zo < w5.heap.size := ho5.out.lt
  have H5 : Hid (RdrAt w5 g d S) := Lib.hid (by rw [HS.out]; exact h5.out)
  clear c5 p5 h5 hbt hbb hrd hbo st5
  go_wp2_with fail
  refine (takenP_calls H5.out hSl).mono ?_
  rintro e w6 ⟨A, n, c, rfl, st6, h6, hr6, hA6, hn6⟩
  have ht6 : HB w6 zt 52 #[.int .i64 V, .int .i64 E, .slice none 0 0] := inferInstance
  have ho6 : HB w6 zo 52 #[.int .i64 0, .int .i64 0, .slice none 0 0] := inferInstance
  have H6 := h6
  have HR6 := Lib.hid hr6.out
  clear h6 hr6
  go_wp2_with (first | ((with_reducible apply wpl_loadrow); (exact rfl); infer_instance; infer_instance; (first | (with_reducible assumption) | (with_reducible exact H32.size _) | kernel_rfl)) | ((with_reducible apply wpl_storerow); (exact rfl); (exact rfl); infer_instance; infer_instance; (first | (with_reducible assumption) | (with_reducible exact H32.size _) | kernel_rfl); (first | (with_reducible assumption) | (with_reducible exact H32.size _) | kernel_rfl); (first | (with_reducible exact u8s_one _) | (with_reducible assumption) | kernel_rfl); intro ws _ _) | ((with_reducible apply wpl_storecell); (exact rfl); (exact rfl); infer_instance; (exact rfl); (first | (with_reducible assumption) | omega | (focus (simp; done)) | (focus (simp; omega; done)) | decide); intro ws _ _))
  have hcF : Chg (gz2 zt zo) w6 ws := (inferInstance : Ch (gz2 zt zo) w6 ws).out
  refine ret_row rfl rfl (n := 3) rfl rfl ⟨A, n, c, rfl, ⟨?_⟩, Lib.hid ?_, ⟨?_⟩, ⟨fun ad e => Nat.le_trans hsz5 (hA6.out ad e)⟩, hn6⟩
  · exact (hC05.out.trans st6.chg (fun _ _ h => h)).trans hcF (fun x hx h => by rcases h with h | h <;> omega)
  · exact H6.out.far hcF (m := w.heap.size) (fun x h => by rcases h with h | h <;> omega) hgl (fun h => hSd (by
      intro h0
      rw [h0] at hll
      exact h (List.eq_nil_of_length_eq_zero (by simpa using hll))))
  · exact HR6.out.chg hcF (fun _ ad e h => by
      have h1 := hA6.out ad e
      rcases h with h | h <;> omega)
end Go.Proofs.YthcleccofccbdaaGreat
end
section
open Go Go.RowKit
namespace Go.Proofs.YthcleccofccbdaaGreat
/-- the state behind a digest -/
def RS.hnx (s : RS) : RS := (s.raw 32).2
theorem RS.hnx_le (s : RS) : s.hnx.b.length ≤ s.b.length := by
  unfold RS.hnx RS.raw
  split
  · exact Nat.zero_le _
  · show (s.b.drop _).length ≤ s.b.length
    rw [List.length_drop]
    omega
def tgTk (s : RS) : TargetR × RS := (⟨s.row.1, (s.row.2.num.1 : Nat), s.row.2.num.2.hsh, s.row.2.num.2.hnx.row.1, (s.row.2.num.2.hnx.row.2.num.1 : Nat), s.row.2.num.2.hnx.row.2.num.2.row.1⟩, s.row.2.num.2.hnx.row.2.num.2.row.2)
theorem numB_back {s : RS} (h : s.num.2.e = false) : s.e = false ∧ s.b = encAll [(s.num.1 : Int)] ++ s.num.2.b := by
  obtain ⟨a1, a2, a3⟩ := num_back h
  exact ⟨a1, by rw [encN a3]; exact a2⟩
theorem hnx_back {s : RS} (h : s.hnx.e = false) : s.e = false ∧ s.b = s.hsh.l ++ s.hnx.b := hsh_back h
theorem tgTakes : Takes tgTk tgE := ⟨fun s => by
  have h1 := RS.row_le s
  have h2 := RS.num_le s.row.2
  have h3 := RS.hnx_le s.row.2.num.2
  have h4 := RS.row_le s.row.2.num.2.hnx
  have h5 := RS.num_le s.row.2.num.2.hnx.row.2
  have h6 := RS.row_le s.row.2.num.2.hnx.row.2.num.2
  show s.row.2.num.2.hnx.row.2.num.2.row.2.b.length ≤ _
  omega, fun s h => by
  obtain ⟨f1, f2⟩ := row_back (s := s.row.2.num.2.hnx.row.2.num.2) h
  obtain ⟨e1, e2⟩ := numB_back (s := s.row.2.num.2.hnx.row.2) f1
  obtain ⟨d1, d2⟩ := row_back (s := s.row.2.num.2.hnx) e1
  obtain ⟨c1, c2⟩ := hnx_back (s := s.row.2.num.2) d1
  obtain ⟨b1, b2⟩ := numB_back (s := s.row.2) c1
  obtain ⟨a1, a2⟩ := row_back (s := s) b1
  refine ⟨a1, ?_⟩
  show s.b = (encRow s.row.1 ++ (encAll [(s.row.2.num.1 : Int)] ++ (s.row.2.num.2.hsh.l ++ (encRow s.row.2.num.2.hnx.row.1 ++ (encAll [(s.row.2.num.2.hnx.row.2.num.1 : Int)] ++ encRow s.row.2.num.2.hnx.row.2.num.2.row.1))))) ++ s.row.2.num.2.hnx.row.2.num.2.row.2.b
  rw [List.append_assoc, List.append_assoc, List.append_assoc, List.append_assoc, List.append_assoc, ← f2, ← e2, ← d2, ← c2, ← b2]
  exact a2⟩
theorem lay_oneT (k : Nat) (v : Value) (z : Array Value) (hk : k < z.size) : lay k #[v] z = z.setIfInBounds k v := by
  apply Array.ext'
  rw [lay, Array.toList_setIfInBounds, List.set_eq_take_append_cons_drop, if_pos (by simpa using hk)]
  simp
/-- a target's cells, loosely -/
def tgV (a b : Value) (h : H32) (x y z : Value) : List Value := a :: b :: (bs h.l ++ [x, y, z])
theorem tgV_len (a b : Value) (h : H32) (x y z : Value) : (tgV a b h x y z).toArray.size = 37 := by simp [tgV, bs_length, h.len]
theorem tgV_34 (a b : Value) (h : H32) (x y z v : Value) : (tgV a b h x y z).toArray.setIfInBounds 34 v = (tgV a b h v y z).toArray := by
  rw [sA]
  congr 1
  show a :: b :: (bs h.l ++ [x, y, z]).set 32 v = _
  rw [List.set_append_right _ _ (by rw [bs32]; exact Nat.le_refl _), bs32]
  rfl
theorem tgV_35 (a b : Value) (h : H32) (x y z v : Value) : (tgV a b h x y z).toArray.setIfInBounds 35 v = (tgV a b h x v z).toArray := by
  rw [sA]
  congr 1
  show a :: b :: (bs h.l ++ [x, y, z]).set 33 v = _
  rw [List.set_append_right _ _ (by rw [bs32]; decide), bs32]
  rfl
theorem tgV_36 (a b : Value) (h : H32) (x y z v : Value) : (tgV a b h x y z).toArray.setIfInBounds 36 v = (tgV a b h x y v).toArray := by
  rw [sA]
  congr 1
  show a :: b :: (bs h.l ++ [x, y, z]).set 34 v = _
  rw [List.set_append_right _ _ (by rw [bs32]; decide), bs32]
  rfl
theorem tgV_2 (a b : Value) (h : H32) (x y z : Value) : lay 2 (u8s h.l) (tgV a b zeroH x y z).toArray = (tgV a b h x y z).toArray := by
  apply Array.ext'
  show (tgV a b zeroH x y z).take 2 ++ (u8s h.l).toList ++ (tgV a b zeroH x y z).drop (2 + (u8s h.l).size) = tgV a b h x y z
  rw [h.size]
  show [a, b] ++ (u8s h.l).toList ++ [x, y, z] = tgV a b h x y z
  simp [tgV, u8s]
set_option maxRecDepth 100000 in
theorem run_tgB (l hw ec : List UInt8) (sz ct : Int) (h : H32) (w : World) : (Instr.build 83 #[(0, .string (strL l)), (1, .int .i64 sz), (2, .agg (u8s h.l)), (3, .string (strL hw)), (4, .int .i64 ct), (5, .string (strL ec))]).run Tryz.prog w = .ok (.agg (RowC.enc (⟨l, sz, h, hw, ct, ec⟩ : TargetR)).toArray) w := by
  refine run_build_struct Tryz.underlying83 (zv := .agg zeroTg) (fun _ => by kernel_rfl) (places := #[(0, 1), (1, 1), (2, 32), (34, 1), (35, 1), (36, 1)]) (fun _ => by kernel_rfl) ?_ w
  have hz : zeroTg = (tgV (.string ⟨#[]⟩) (.int .i64 0) zeroH (.string ⟨#[]⟩) (.int .i64 0) (.string ⟨#[]⟩)).toArray := by kernel_rfl
  have hs := tgV_len
  show Instr.fill _ zeroTg [(0, .string (strL l)), (1, .int .i64 sz), (2, .agg (u8s h.l)), (3, .string (strL hw)), (4, .int .i64 ct), (5, .string (strL ec))] = _
  rw [hz]
  rw [fill_step _ _ 0 _ _ (off := 0) (size := 1) rfl rfl (by rw [hs]; decide)]
  rw [show lay 0 (Value.string (strL l)).cells (tgV (.string ⟨#[]⟩) (.int .i64 0) zeroH (.string ⟨#[]⟩) (.int .i64 0) (.string ⟨#[]⟩)).toArray = (tgV (.string (strL l)) (.int .i64 0) zeroH (.string ⟨#[]⟩) (.int .i64 0) (.string ⟨#[]⟩)).toArray from rfl]
  rw [fill_step _ _ 1 _ _ (off := 1) (size := 1) rfl rfl (by rw [hs]; decide)]
  rw [show lay 1 (Value.int .i64 sz).cells (tgV (.string (strL l)) (.int .i64 0) zeroH (.string ⟨#[]⟩) (.int .i64 0) (.string ⟨#[]⟩)).toArray = (tgV (.string (strL l)) (.int .i64 sz) zeroH (.string ⟨#[]⟩) (.int .i64 0) (.string ⟨#[]⟩)).toArray from rfl]
  rw [fill_step _ _ 2 _ _ (off := 2) (size := 32) rfl (by show (u8s h.l).size = 32; exact h.size) (by rw [hs]; decide)]
  rw [show lay 2 (Value.agg (u8s h.l)).cells (tgV (.string (strL l)) (.int .i64 sz) zeroH (.string ⟨#[]⟩) (.int .i64 0) (.string ⟨#[]⟩)).toArray = (tgV (.string (strL l)) (.int .i64 sz) h (.string ⟨#[]⟩) (.int .i64 0) (.string ⟨#[]⟩)).toArray from tgV_2 _ _ _ _ _ _]
  rw [fill_step _ _ 3 _ _ (off := 34) (size := 1) rfl rfl (by rw [hs]; decide)]
  rw [show lay 34 (Value.string (strL hw)).cells (tgV (.string (strL l)) (.int .i64 sz) h (.string ⟨#[]⟩) (.int .i64 0) (.string ⟨#[]⟩)).toArray = (tgV (.string (strL l)) (.int .i64 sz) h (.string (strL hw)) (.int .i64 0) (.string ⟨#[]⟩)).toArray from (lay_oneT 34 _ _ (by rw [hs]; decide)).trans (tgV_34 _ _ _ _ _ _ _)]
  rw [fill_step _ _ 4 _ _ (off := 35) (size := 1) rfl rfl (by rw [hs]; decide)]
  rw [show lay 35 (Value.int .i64 ct).cells (tgV (.string (strL l)) (.int .i64 sz) h (.string (strL hw)) (.int .i64 0) (.string ⟨#[]⟩)).toArray = (tgV (.string (strL l)) (.int .i64 sz) h (.string (strL hw)) (.int .i64 ct) (.string ⟨#[]⟩)).toArray from (lay_oneT 35 _ _ (by rw [hs]; decide)).trans (tgV_35 _ _ _ _ _ _ _)]
  rw [fill_step _ _ 5 _ _ (off := 36) (size := 1) rfl rfl (by rw [hs]; decide)]
  rw [show lay 36 (Value.string (strL ec)).cells (tgV (.string (strL l)) (.int .i64 sz) h (.string (strL hw)) (.int .i64 ct) (.string ⟨#[]⟩)).toArray = (tgV (.string (strL l)) (.int .i64 sz) h (.string (strL hw)) (.int .i64 ct) (.string (strL ec))).toArray from (lay_oneT 36 _ _ (by rw [hs]; decide)).trans (tgV_36 _ _ _ _ _ _ _)]
  rfl
end Go.Proofs.YthcleccofccbdaaGreat
end
