/- TgS -/
import Derived.Test.YthcleccofccbdaaGreatTyFwE
import Derived.Test.YthcleccofccbdaaGreatTyTgE
open Go Go.RowKit
namespace Go.Proofs.YthcleccofccbdaaGreat
theorem put2T (z : Nat) (s : RS) (a : Value) : putN z [some ⟨z, 1, none⟩, some ⟨z, 2, none⟩] s 2 #[a, .int .i64 0, .int .i64 0, .slice none 0 0, .slice none 0 0] = #[a, .int .i64 (s.num.1 : Nat), .int .i64 ((s.at 1).num.1 : Nat), .slice none 0 0, .slice none 0 0] := by
  simp only [putN, List.getElem?_cons_zero, List.getElem?_cons_succ, if_pos]
  rfl
theorem run_tgsN (l : List UInt8) (w : World) : (Instr.build 25 #[(0, .string (strL l))]).run Tryz.prog w = .ok (.agg #[.string (strL l), .int .i64 0, .int .i64 0, .slice none 0 0, .slice none 0 0]) w := by kernel_rfl
/-- where the targets begin, where what is handed on -/
def tgsS (s : RS) : RS := s.row.2.at 2
set_option maxRecDepth 100000 in
set_option maxHeartbeats 3200000 in
theorem takeTargets_calls {g d : Nat} {s : RS} {w : World} (hw : RdrAt w g d s) (hl : s.b.length ≤ 140737488351232) :
    Calls Tryz.prog 43 #[.pointer (some ⟨g, 0, none⟩)] w fun e w' => ∃ A n c C m q, ∃ D : List DeleR, e = .returned (.agg #[.string (strL s.row.1), .int .i64 (s.row.2.num.1 : Nat), .int .i64 ((s.row.2.at 1).num.1 : Nat), .slice A n c, .slice C m q]) ∧ Step (only g) w w' ∧ Hid (RdrAt w' g d (lstS dlTk 16 (lstS tgTk 16 (tgsS s)))) ∧ HR w' A (cellsOf (lstL tgTk 16 (tgsS s))) ∧ NewA w A ∧ HR w' C (cellsOf D) ∧ NewA w C ∧ Hid (D.map DeleR.m = lstL dlTk 16 (lstS tgTk 16 (tgsS s))) ∧ Hid (∀ x ∈ D, DIn w' x ∧ NewA w x.k.A) ∧ Hid ((lstL tgTk 16 (tgsS s)).length = n ∧ n ≤ c ∧ n ≤ 16) ∧ Hid (D.length = m ∧ m ≤ q ∧ m ≤ 16) := by
  have HW0 := Lib.hid hw
  have HL := Lib.hid hl
  have hgl := hw.lt
  have hdl := hw.dlt
  obtain ⟨nm, hnm⟩ : ∃ V, V = s.row.1 := ⟨_, rfl⟩
  obtain ⟨s1, hs1⟩ : ∃ V, V = s.row.2 := ⟨_, rfl⟩
  obtain ⟨V, hV⟩ : ∃ V, V = s1.num.1 := ⟨_, rfl⟩
  obtain ⟨E, hE⟩ : ∃ E, E = (s1.at 1).num.1 := ⟨_, rfl⟩
  obtain ⟨S, hS⟩ : ∃ S, S = s1.at 2 := ⟨_, rfl⟩
  have hT : tgsS s = S := by rw [hS, hs1]; rfl
  obtain ⟨S2, hS2⟩ : ∃ S2, S2 = lstS tgTk 16 S := ⟨_, rfl⟩
  have HNM := Lib.hid hnm
  have HS1 := Lib.hid hs1
  have HV := Lib.hid hV
  have HE := Lib.hid hE
  have HS := Lib.hid hS
  have HS2 := Lib.hid hS2
  have hs1l : s1.b.length ≤ s.b.length := by rw [hs1]; exact RS.row_le _
  have hSl : S.b.length ≤ 140737488351232 := by rw [hS]; exact Nat.le_trans (s1.at_le 2) (Nat.le_trans hs1l hl)
  have hS2l : S2.b.length ≤ 140737488351232 := by rw [hS2]; exact Nat.le_trans (tgTakes.lstS_le 16 S) hSl
  have hSd : S.b ≠ [] → d < w.heap.size := fun h => hdl (fun h0 => by
    have h1 := s1.at_le 2
    rw [← hS] at h1
    have h2 : s.b.length = 0 := by rw [h0]; rfl
    exact h (List.eq_nil_of_length_eq_zero (by omega)))
  have hs1d : s1.b ≠ [] → d < w.heap.size := fun h => hdl (fun h0 => by
    have h2 : s.b.length = 0 := by rw [h0]; rfl
    exact h (List.eq_nil_of_length_eq_zero (by omega)))
  have hll : (lstS dlTk 16 S2).b.length ≤ S.b.length := by
    rw [hS2]
    exact Nat.le_trans (dlTakes.lstS_le 16 _) (tgTakes.lstS_le 16 S)
  rw [hT, ← hnm, ← hs1, ← hV, ← hE, ← hS2]
  clear hw hl hnm hs1 hV hE hS hS2 hT
  go_enter Tryz.func43, Tryz.ntmps43
  go_wp2_with (first | ((with_reducible apply (wpl_alloc (dst := some 2))); intro zo wzo _ _ _))
  have hzo : w.heap.size ≤ zo := Nat.le_of_eq (inferInstance : Born w zo).eq.symm
  have ozo : OffB (only g) zo := ⟨fun e => by have e' : zo = g := e; omega⟩
  have hw0 := (stepN (w0 := w) (w := wzo)).chg
  refine (takeText_calls (HW0.out.chg hw0 (fun h => h) (fun h => h)) HL.out).mono ?_
  rw [← HNM.out, ← HS1.out]
  rintro e w2 ⟨rfl, st2, h2⟩
  have H2 := Lib.hid h2
  clear h2
  have hbo2 : HB w2 zo 25 #[.string ⟨#[]⟩, .int .i64 0, .int .i64 0, .slice none 0 0, .slice none 0 0] := inferInstance
  have kbT := run_tgsN nm
  go_wp2_with (first | ((with_reducible apply wpl_build); (exact kbT _)) | ((with_reducible apply (stop_dst (dst := some 10))); (try simp only [Act.put, sA, sB, sC]); ((with_reducible apply (wpl_bslice (dst := some 10))); (exact run_ptr2R _ _ _); intro zb wb _ _ _)) | ((with_reducible apply (wpl_alloc (dst := some 3))); intro zt wzt _ _ _) | ((with_reducible apply wpl_storerow); (exact rfl); (exact rfl); infer_instance; infer_instance; (first | (with_reducible assumption) | (with_reducible exact H32.size _) | (with_reducible exact enc_sz _ rfl) | kernel_rfl); (first | (with_reducible assumption) | (with_reducible exact H32.size _) | (with_reducible exact enc_sz _ rfl) | kernel_rfl); (first | (with_reducible exact u8s_one _) | (with_reducible assumption) | (with_reducible exact enc_one _) | kernel_rfl); intro ws _ _))
  have hzt : zt = w2.heap.size := (inferInstance : Born w2 zt).eq
  have hw02 : w.heap.size ≤ w2.heap.size := Nat.le_trans hw0.size st2.chg.size
  have hzot : zo ≠ zt := by
    have e2 := hbo2.out.lt
    omega
  have hbb : HB wb zb 173 #[.pointer (some ⟨zt, 1, none⟩), .pointer (some ⟨zt, 2, none⟩)] := inferInstance
  have hbt : HB wb zt 25 #[.string (strL nm), .int .i64 0, .int .i64 0, .slice none 0 0, .slice none 0 0] := inferInstance
  have hbo : HB wb zo 25 #[.string ⟨#[]⟩, .int .i64 0, .int .i64 0, .slice none 0 0, .slice none 0 0] := inferInstance
  have hnn : Nw w2 wb := inferInstance
  have hzb : w2.heap.size ≤ zb := (NewA.monoS (w0 := w2) (NewA.of_born (z := zb) 0)).out ⟨zb, 0, none⟩ rfl
  have hzbt : zb ≠ zt := by
    have e1 := (inferInstance : Born ws zb).eq
    have e2 := (inferInstance : HB ws zt 25 #[.string (strL nm), .int .i64 0, .int .i64 0, .slice none 0 0, .slice none 0 0]).out.lt
    omega
  have hdt : s1.b ≠ [] → zt ≠ d := fun h e => by
    have := hs1d h
    omega
  have hrd := hbb.rdL
  refine (rNums_calls g d s1 (some ⟨zb, 0, none⟩) 2 2 [some ⟨zt, 1, none⟩, some ⟨zt, 2, none⟩] _ (H2.out.chg hnn.out (fun h => h) (fun h => h)) (by have := HL.out; omega) hrd rfl (by decide) ?_ ?_).mono ?_
  · rintro _ ad e hk
    injection e with e
    subst e
    rcases hk with hk | ⟨ad, hm, hk⟩
    · have hk' : zb = g := hk
      omega
    · simp only [List.mem_cons, List.not_mem_nil, or_false, Option.some.injEq] at hm
      rcases hm with rfl | rfl
      · exact hzbt hk.symm
      · exact hzbt hk.symm
  · intro ad hm
    simp only [List.mem_cons, List.not_mem_nil, or_false, Option.some.injEq] at hm
    rcases hm with rfl | rfl
    · exact ⟨zt, 1, _, _, rfl, hbt.out, (show 1 < 5 by decide), by omega, hdt⟩
    · exact ⟨zt, 2, _, _, rfl, hbt.out, (show 2 < 5 by decide), by omega, hdt⟩
  rintro e w5 ⟨rfl, h5, c5, p5⟩
  have st5 : Step (gz2 g zt) wb w5 := ⟨c5.out.mono (fun x _ hx => by
    rcases hx with hx | ⟨ad, hm, hk⟩
    · exact .inl hx
    · simp only [List.mem_cons, List.not_mem_nil, or_false, Option.some.injEq] at hm
      rcases hm with rfl | rfl
      · exact .inr hk.symm
      · exact .inr hk.symm)⟩
  have ht5 : HB w5 zt 25 #[.string (strL nm), .int .i64 V, .int .i64 E, .slice none 0 0, .slice none 0 0] := ⟨by
    have h9 := p5.out zt _ _ (by omega) hbt.out
    rw [put2T, ← HV.out, ← HE.out] at h9
    exact h9⟩
  have o1 : OffB (only g) zt := ⟨fun e => by have e' : zt = g := e; omega⟩
  have o2 : OffB (gz2 g zt) zo := ⟨fun e => by rcases e with e | e <;> omega⟩
  have o4 : OffB (only zt) zo := ⟨fun e => hzot e⟩
  have ho5 : HB w5 zo 25 #[.string ⟨#[]⟩, .int .i64 0, .int .i64 0, .slice none 0 0, .slice none 0 0] := inferInstance
  have hC05 : Hid (Chg (only g) w w5) := Lib.hid ((((hw0.mono (T := only g) (fun _ _ h => h.elim)).trans st2.chg (fun _ _ h => h)).trans hnn.out (fun _ _ h => h.elim)).trans st5.chg (fun x hx h => by
    rcases h with h | h
    · exact h
    · omega))
  have hsz5 : w.heap.size ≤ w5.heap.size := hC05.out.size
  have hztl : zt < w5.heap.size := ht5.out.lt
  have hzol : zo < w5.heap.size := ho5.out.lt
  have H5 : Hid (RdrAt w5 g d S) := Lib.hid (by rw [HS.out]; exact h5.out)
  have hztw : w.heap.size ≤ zt := by omega
  clear c5 p5 h5 hbt hbb hrd hbo st5 hzt
  go_wp2_with fail
  refine (takenT_calls H5.out hSl).mono ?_
  rintro e w6 ⟨A, n, c, rfl, st6, h6, hr6, hA6, hn6⟩
  rw [← HS2.out] at h6
  have ht6 : HB w6 zt 25 #[.string (strL nm), .int .i64 V, .int .i64 E, .slice none 0 0, .slice none 0 0] := inferInstance
  have ho6 : HB w6 zo 25 #[.string ⟨#[]⟩, .int .i64 0, .int .i64 0, .slice none 0 0, .slice none 0 0] := inferInstance
  have H6 := h6
  have HR6 := Lib.hid hr6.out
  have hs56 : w5.heap.size ≤ w6.heap.size := st6.chg.size
  clear h6 hr6
  go_wp2_with (first | ((with_reducible apply wpl_storecell); (exact rfl); (exact rfl); infer_instance; (exact rfl); (first | (with_reducible assumption) | omega | (focus (simp; done)) | (focus (simp; omega; done)) | decide); intro ws _ _))
  obtain ⟨wq, hwq⟩ : ∃ wq : World, wq = ws := ⟨_, rfl⟩
  subst hwq
  have hcq : Chg (only zt) w6 wq := (inferInstance : Ch (only zt) w6 wq).out
  have hS2d : S2.b ≠ [] → d < w.heap.size := fun h => hSd (by
    intro h0
    have h1 := tgTakes.lstS_le 16 S
    rw [← HS2.out, h0] at h1
    exact h (List.eq_nil_of_length_eq_zero (by simpa using h1)))
  have H7 : Hid (RdrAt wq g d S2) := Lib.hid (H6.out.far hcq (m := w.heap.size) (fun x h => by have h' : x = zt := h; omega) hgl hS2d)
  have hsq := hcq.size
  refine (takenD_calls H7.out hS2l).mono ?_
  rintro e w7 ⟨C, m, q, D, rfl, st7, h7, hr7, hC7, hm7, hk7, hn7⟩
  have ht7 : HB w7 zt 25 #[.string (strL nm), .int .i64 V, .int .i64 E, .slice A n c, .slice none 0 0] := inferInstance
  have ho7 : HB w7 zo 25 #[.string ⟨#[]⟩, .int .i64 0, .int .i64 0, .slice none 0 0, .slice none 0 0] := inferInstance
  have HR7 := Lib.hid hr7.out
  clear hr7
  go_wp2_with (first | ((with_reducible apply wpl_loadrow); (exact rfl); infer_instance; infer_instance; (first | (with_reducible assumption) | (with_reducible exact H32.size _) | (with_reducible exact enc_sz _ rfl) | kernel_rfl)) | ((with_reducible apply wpl_storerow); (exact rfl); (exact rfl); infer_instance; infer_instance; (first | (with_reducible assumption) | (with_reducible exact H32.size _) | (with_reducible exact enc_sz _ rfl) | kernel_rfl); (first | (with_reducible assumption) | (with_reducible exact H32.size _) | (with_reducible exact enc_sz _ rfl) | kernel_rfl); (first | (with_reducible exact u8s_one _) | (with_reducible assumption) | (with_reducible exact enc_one _) | kernel_rfl); intro ws _ _) | ((with_reducible apply wpl_storecell); (exact rfl); (exact rfl); infer_instance; (exact rfl); (first | (with_reducible assumption) | omega | (focus (simp; done)) | (focus (simp; omega; done)) | decide); intro ws _ _))
  have hcF : Chg (gz2 zt zo) w7 ws := (inferInstance : Ch (gz2 zt zo) w7 ws).out
  refine ret_row rfl rfl (n := 5) rfl rfl ⟨A, n, c, C, m, q, D, rfl, ⟨?_⟩, Lib.hid ?_, ⟨?_⟩, ⟨fun ad e => Nat.le_trans hsz5 (hA6.out ad e)⟩, ⟨?_⟩, ⟨fun ad e => Nat.le_trans (Nat.le_trans hsz5 (Nat.le_trans hs56 hsq)) (hC7.out ad e)⟩, hm7, Lib.hid (fun x hx => ⟨?_, ⟨fun ad e => Nat.le_trans (Nat.le_trans hsz5 (Nat.le_trans hs56 hsq)) ((hk7.out x hx).2.out ad e)⟩⟩), hn6, hn7⟩
  · exact (((hC05.out.trans st6.chg (fun _ _ h => h)).trans hcq (fun x hx h => by have h' : x = zt := h; omega)).trans st7.chg (fun _ _ h => h)).trans hcF (fun x hx h => by rcases h with h | h <;> omega)
  · exact h7.out.far hcF (m := w.heap.size) (fun x h => by rcases h with h | h <;> omega) hgl (fun h => hSd (by
      intro h0
      rw [h0] at hll
      exact h (List.eq_nil_of_length_eq_zero (by simpa using hll))))
  · exact ((HR6.out.chg hcq (fun _ ad e h => by
      have h1 := hA6.out ad e
      have h' : ad.block = zt := h
      omega)).chg st7.chg (fun _ ad e h => by
      have h1 := hA6.out ad e
      have h' : ad.block = g := h
      omega)).chg hcF (fun _ ad e h => by
      have h1 := hA6.out ad e
      rcases h with h | h <;> omega)
  · exact HR7.out.chg hcF (fun _ ad e h => by
      have h1 := hC7.out ad e
      rcases h with h | h <;> omega)
  · exact KIn.chg (hk7.out x hx).1 hcF (fun y ⟨_, ad, e, h9⟩ h => by
      have h1 := (hk7.out x hx).2.out ad e
      rcases h with h | h <;> omega)
end Go.Proofs.YthcleccofccbdaaGreat
