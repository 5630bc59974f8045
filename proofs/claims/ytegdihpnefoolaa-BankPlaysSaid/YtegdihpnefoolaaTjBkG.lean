/- BkG -/
import Derived.Test.YtegdihpnefoolaaTjBkD
import Derived.Test.YtegdihpnefoolaaTjBkF
import Derived.Test.YtegdihpnefoolaaTjSxC
import Derived.Stop.BytesEq
open Go Go.RowKit
namespace Go.Proofs.Ytegdihpnefoolaa
instance decH32 : DecidableEq H32 := fun a b => decidable_of_iff (a.l = b.l) ⟨H32.ext', congrArg _⟩
theorem beq_hashB (a b : H32) : (a.l == b.l) = decide (a = b) := by
  rw [Bool.eq_iff_iff]
  simp only [beq_iff_eq, decide_eq_true_eq]
  exact ⟨H32.ext', fun h => by rw [h]⟩
theorem neqHB (a b : H32) (w : World) : (binOp .neq 52 (.agg (u8s a.l)) (.agg (u8s b.l))).run Try.prog w = .ok (.bool (!decide (a = b))) w := by
  rw [← beq_hashB, run_neq_struct]
  have h := run_equalIn_bytes (P := Try.prog) w 9998 52 5 32 Try.underlying52 Try.underlying5 Try.sizeOf5 a.l b.l a.len b.len
  show ((Op.equalIn 10000 52 (.agg (u8s a.l)) (.agg (u8s b.l))).run Try.prog w).andThen _ = _
  have e : (Op.equalIn 10000 52 (.agg (u8s a.l)) (.agg (u8s b.l))).run Try.prog w = .ok (a.l == b.l) w := h
  rw [e]
  rfl
theorem results_cell_tmp2 {fn : Func} {p u v : Tmp} {ty : TypeId} (h : fn.results = #[.cell p ty, .tmp u, .tmp v]) (tmps : Array Value) (P : Program) (w : World) :
    (results fn tmps).run P w = ((asAddr (tmps.getD p undef)).run P w).andThen fun a w₁ => ((loadVar ty a).run P w₁).andThen fun x w₂ => .ok (.tuple #[x, tmps.getD u undef, tmps.getD v undef]) w₂ := by
  simp only [results, h]
  simp [Sem.run_bind, Result.andThen]
theorem ret_rowTT {P : Program} {fn : Func} {R : Ending → World → Prop} {a : Act} {w : World} {p u v : Tmp} {ty : TypeId} (h : fn.results = #[.cell p ty, .tmp u, .tmp v]) {g : Nat} (hp : a.tmps.getD p undef = .pointer (some ⟨g, 0, none⟩)) {x y : Value} (hx : a.tmps.getD u undef = x) (hy : a.tmps.getD v undef = y) {tb : TypeId} {cs : Array Value} (hb : HB w g tb cs) {n : Nat} [hr : RowT P ty n] (hn : cs.size = n) (hd : a.defers = []) (hR : R (.returned (.tuple #[.agg cs, x, y])) w) : bodyPost P fn R .ret a w := by
  obtain ⟨d, hd1, hd2⟩ := hr.row
  refine bodyPost_ret ?_ hd hR
  rw [results_cell_tmp2 h, hp, hx, hy]
  simp [asAddr, run_loadVar_row (P := P) w g tb ty cs (0, 0) d hb.out hd1 (by cases d <;> first | rfl | cases hd2) (by rw [hn]; exact hr.size)]
theorem bestK_len (s : FS) : ∀ k, (bestK s k).2.2.length ≤ 2500
  | 0 => Nat.zero_le _
  | k + 1 => by
    by_cases h1 : (unpS (slotB s k)).ok = true
    · by_cases h2 : (bestK s k).2.1 < (unpS (slotB s k)).n
      · rw [bestK_up h1 h2]
        exact (unp_n _ h1).2.2
      · rw [bestK_low h2]
        exact bestK_len s k
    · rw [bestK_no (by simpa using h1)]
      exact bestK_len s k
theorem bkPages_calls (w : World) : Calls Try.prog 28 #[] w fun e w' => e = .returned (.int .i64 96) ∧ w' = w := by
  go_enter Try.func28, Try.ntmps28
  go_wp2_with fail
  go_ret
  exact ⟨rfl, rfl⟩
/-- what Boot answers -/
def BootQ (B : BSt × List UInt8 × Nat) (w : World) (e : Ending) (w' : World) : Prop :=
  ∃ M m d I n c, e = .returned (.tuple #[.agg (bkL B.1.bank B.1.size B.1.sum B.1.cnt (strL B.1.name) M m d).toArray, .slice I n c, .int .i64 (B.2.2 : Int)]) ∧ B.1.mind.length = m ∧ m ≤ d ∧ HR w' M (bs B.1.mind) ∧ NewA w M ∧ B.2.1.length = n ∧ n ≤ c ∧ HR w' I (bs B.2.1) ∧ NewA w I ∧ Step nowhere w w'
theorem bootQ_none {w w' : World} {e : Ending} {x : Nat} (he : e = .returned (.tuple #[.agg (bkL 0 0 zeroH 0 ⟨#[]⟩ none 0 0).toArray, .slice none 0 0, .int .i64 (x : Int)])) (st : Step nowhere w w') : BootQ (bkZero, [], x) w e w' :=
  ⟨none, 0, 0, none, 0, 0, he, rfl, Nat.le_refl _, ⟨Rd.nil _ _⟩, ⟨fun ad e => by cases e⟩, rfl, Nat.le_refl _, ⟨Rd.nil _ _⟩, ⟨fun ad e => by cases e⟩, st⟩
set_option maxRecDepth 100000 in
set_option maxHeartbeats 3200000 in
theorem bkBoot_calls {g p N : Nat} {s : FS} {w : World} (hF : FlashAt w g p N s) :
    Calls Try.prog 34 #[.pointer (some ⟨g, 0, none⟩)] w (BootQ (bootS N s) w) := by
  have HF := Lib.hid hF
  have hN9 := hF.ok.most
  obtain ⟨B, hB⟩ : ∃ B, B = bootS N s := ⟨_, rfl⟩
  have hB2 := hB
  unfold bootS at hB2
  have HB2 := Lib.hid hB2
  rw [← hB]
  have kb0 : ∀ w, (Instr.build 54 #[]).run Try.prog w = .ok (.agg (bkL 0 0 zeroH 0 ⟨#[]⟩ none 0 0).toArray) w := fun _ => by kernel_rfl
  have hsz0 := bkL_len 0 0 zeroH 0 ⟨#[]⟩ none 0 0
  have hon0 := bkL_one 0 0 zeroH 0 ⟨#[]⟩ none 0 0
  clear hB hB2 hF
  go_enter Try.func34, Try.ntmps34
  go_wp2_with (first | ((with_reducible apply (wpl_alloc (dst := some 2))); intro zo wzo _ _ _) | ((with_reducible apply wpl_alloc); intro z wz _ _ _) | ((with_reducible apply wpl_loadrow); (exact rfl); infer_instance; infer_instance; (first | (with_reducible assumption) | (with_reducible exact H32.size _) | kernel_rfl)) | ((with_reducible apply wpl_loadcellN); (exact rfl); infer_instance; (exact rfl)) | ((with_reducible apply wpl_storerow); (exact rfl); (exact rfl); infer_instance; infer_instance; (first | (with_reducible assumption) | (with_reducible exact H32.size _) | kernel_rfl); (first | (with_reducible assumption) | (with_reducible exact H32.size _) | kernel_rfl); (first | (with_reducible exact u8s_one _) | (with_reducible assumption) | kernel_rfl); intro ws _ _) | ((with_reducible apply wpl_storecell); (exact rfl); (exact rfl); infer_instance; (exact rfl); (first | (with_reducible assumption) | omega | (focus (simp; done)) | (focus (simp; omega; done)) | decide); intro ws _ _))
  refine (Len_calls g p N s _ (HF.out.calm (stepN (w0 := w)).chg)).mono ?_
  rintro e w1 ⟨rfl, hw1⟩
  obtain rfl := hw1.symm
  go_wp2_with (first | ((with_reducible apply wpl_alloc); intro z wz _ _ _) | ((with_reducible apply wpl_loadrow); (exact rfl); infer_instance; infer_instance; (first | (with_reducible assumption) | (with_reducible exact H32.size _) | kernel_rfl)) | ((with_reducible apply wpl_loadcellN); (exact rfl); infer_instance; (exact rfl)) | ((with_reducible apply wpl_storerow); (exact rfl); (exact rfl); infer_instance; infer_instance; (first | (with_reducible assumption) | (with_reducible exact H32.size _) | kernel_rfl); (first | (with_reducible assumption) | (with_reducible exact H32.size _) | kernel_rfl); (first | (with_reducible exact u8s_one _) | (with_reducible assumption) | kernel_rfl); intro ws _ _) | ((with_reducible apply wpl_storecell); (exact rfl); (exact rfl); infer_instance; (exact rfl); (first | (with_reducible assumption) | omega | (focus (simp; done)) | (focus (simp; omega; done)) | decide); intro ws _ _))
  refine (bkPages_calls _).mono ?_
  rintro e w1 ⟨rfl, hw1⟩
  obtain rfl := hw1.symm
  by_cases hN : N < 96
  · have hNI : (N : Int) < 96 := by omega
    have HBE : Hid (B = (bkZero, [], 1)) := Lib.hid (by rw [HB2.out, if_pos hN])
    clear HB2
    go_wp2_with (first | ((with_reducible apply wpl_build); (exact kb0 _)) | ((with_reducible apply wpl_storerow); (exact rfl); (exact rfl); infer_instance; infer_instance; (exact hsz0); (exact hsz0); (exact hon0); intro ws _ hbs) | ((with_reducible apply wpl_alloc); intro z wz _ _ _) | ((with_reducible apply wpl_loadrow); (exact rfl); infer_instance; infer_instance; (first | (with_reducible assumption) | (with_reducible exact H32.size _) | kernel_rfl)) | ((with_reducible apply wpl_loadcellN); (exact rfl); infer_instance; (exact rfl)) | ((with_reducible apply wpl_storerow); (exact rfl); (exact rfl); infer_instance; infer_instance; (first | (with_reducible assumption) | (with_reducible exact H32.size _) | kernel_rfl); (first | (with_reducible assumption) | (with_reducible exact H32.size _) | kernel_rfl); (first | (with_reducible exact u8s_one _) | (with_reducible assumption) | kernel_rfl); intro ws _ _) | ((with_reducible apply wpl_storecell); (exact rfl); (exact rfl); infer_instance; (exact rfl); (first | (with_reducible assumption) | omega | (focus (simp; done)) | (focus (simp; omega; done)) | decide); intro ws _ _))
    refine ret_rowTT rfl rfl rfl rfl hbs (n := 37) hsz0 rfl ?_
    show BootQ B w _ _
    rw [HBE.out]
    exact bootQ_none rfl stepN
  · have hNI : ¬ (N : Int) < 96 := by omega
    have hN80 : ¬ N < 80 := by omega
    have HB3 := Lib.hid (HB2.out.trans (if_neg hN))
    clear HB2
    obtain ⟨rb, hrb⟩ : ∃ rb, rb = (bestS s).2.2 := ⟨_, rfl⟩
    obtain ⟨rn, hrn⟩ : ∃ rn, rn = (bestS s).2.1 := ⟨_, rfl⟩
    have hRl : rb.length ≤ 2500 := by rw [hrb]; exact bestK_len s 2
    have hld : loadN N s = (rb, rn, if rn = 0 then 9 else 0) := by rw [hrb, hrn, loadN, if_neg hN80]
    rw [← hrb, ← hrn] at HB3
    have HLD := Lib.hid hld
    clear hrb hrn hld
    by_cases h0 : rn = 0
    · have HBE : Hid (B = (bkZero, [], 9)) := Lib.hid (by rw [HB3.out]; exact if_pos h0)
      have HLD2 : Hid (loadN N s = (rb, 0, 9)) := Lib.hid (by rw [HLD.out, h0, if_pos rfl])
      clear HLD HB3 h0
      go_wp2_with (first | ((with_reducible apply wpl_alloc); intro z wz _ _ _) | ((with_reducible apply wpl_loadrow); (exact rfl); infer_instance; infer_instance; (first | (with_reducible assumption) | (with_reducible exact H32.size _) | kernel_rfl)) | ((with_reducible apply wpl_loadcellN); (exact rfl); infer_instance; (exact rfl)) | ((with_reducible apply wpl_storerow); (exact rfl); (exact rfl); infer_instance; infer_instance; (first | (with_reducible assumption) | (with_reducible exact H32.size _) | kernel_rfl); (first | (with_reducible assumption) | (with_reducible exact H32.size _) | kernel_rfl); (first | (with_reducible exact u8s_one _) | (with_reducible assumption) | kernel_rfl); intro ws _ _) | ((with_reducible apply wpl_storecell); (exact rfl); (exact rfl); infer_instance; (exact rfl); (first | (with_reducible assumption) | omega | (focus (simp; done)) | (focus (simp; omega; done)) | decide); intro ws _ _))
      refine (pLoad_calls (HF.out.calm (stepN (w0 := w)).chg)).mono ?_
      rw [HLD2.out]
      unfold LoadQ
      rintro e w2 ⟨B2, m2, d2, rfl, hm2, hd2, hB2, hnB2, _⟩
      go_wp2_with (first | ((with_reducible apply wpl_build); (exact kb0 _)) | ((with_reducible apply wpl_storerow); (exact rfl); (exact rfl); infer_instance; infer_instance; (exact hsz0); (exact hsz0); (exact hon0); intro ws _ hbs) | ((with_reducible apply wpl_alloc); intro z wz _ _ _) | ((with_reducible apply wpl_loadrow); (exact rfl); infer_instance; infer_instance; (first | (with_reducible assumption) | (with_reducible exact H32.size _) | kernel_rfl)) | ((with_reducible apply wpl_loadcellN); (exact rfl); infer_instance; (exact rfl)) | ((with_reducible apply wpl_storerow); (exact rfl); (exact rfl); infer_instance; infer_instance; (first | (with_reducible assumption) | (with_reducible exact H32.size _) | kernel_rfl); (first | (with_reducible assumption) | (with_reducible exact H32.size _) | kernel_rfl); (first | (with_reducible exact u8s_one _) | (with_reducible assumption) | kernel_rfl); intro ws _ _) | ((with_reducible apply wpl_storecell); (exact rfl); (exact rfl); infer_instance; (exact rfl); (first | (with_reducible assumption) | omega | (focus (simp; done)) | (focus (simp; omega; done)) | decide); intro ws _ _))
      refine ret_rowTT rfl rfl rfl rfl hbs (n := 37) hsz0 rfl ?_
      show BootQ B w _ _
      rw [HBE.out]
      exact bootQ_none rfl stepN
    · have HB4 := Lib.hid (HB3.out.trans (if_neg h0))
      have HLD2 : Hid (loadN N s = (rb, rn, 0)) := Lib.hid (by rw [HLD.out, if_neg h0])
      obtain ⟨K, hK⟩ : ∃ K, K = dOk rb := ⟨_, rfl⟩
      obtain ⟨D, hD⟩ : ∃ D, D = decS rb := ⟨_, rfl⟩
      have hK2 : K = true → D.bank < 2 ∧ D.size ≤ 512 := fun h => by
        rw [hK, dOk, ← hD] at h
        simp only [Bool.and_eq_true, decide_eq_true_eq] at h
        exact ⟨h.1.2, h.2⟩
      rw [← hK, ← hD] at HB4
      have HK := Lib.hid hK
      have HD := Lib.hid hD
      have HK2 := Lib.hid hK2
      clear HLD HB3 h0 hK hD hK2
      go_wp2_with (first | ((with_reducible apply wpl_alloc); intro z wz _ _ _) | ((with_reducible apply wpl_loadrow); (exact rfl); infer_instance; infer_instance; (first | (with_reducible assumption) | (with_reducible exact H32.size _) | kernel_rfl)) | ((with_reducible apply wpl_loadcellN); (exact rfl); infer_instance; (exact rfl)) | ((with_reducible apply wpl_storerow); (exact rfl); (exact rfl); infer_instance; infer_instance; (first | (with_reducible assumption) | (with_reducible exact H32.size _) | kernel_rfl); (first | (with_reducible assumption) | (with_reducible exact H32.size _) | kernel_rfl); (first | (with_reducible exact u8s_one _) | (with_reducible assumption) | kernel_rfl); intro ws _ _) | ((with_reducible apply wpl_storecell); (exact rfl); (exact rfl); infer_instance; (exact rfl); (first | (with_reducible assumption) | omega | (focus (simp; done)) | (focus (simp; omega; done)) | decide); intro ws _ _))
      refine (pLoad_calls (HF.out.calm (stepN (w0 := w)).chg)).mono ?_
      rw [HLD2.out]
      unfold LoadQ
      rintro e w2 ⟨B2, m2, d2, rfl, hm2, hd2, hB2, hnB2, _⟩
      have hm2' : rb.length = m2 := hm2
      have hr2 : HR w2 B2 (bs rb) := hB2
      have HM2 := Lib.hid hm2'
      have hbo2 : HB w2 zo 54 (bkL 0 0 zeroH 0 ⟨#[]⟩ none 0 0).toArray := inferInstance
      clear hm2 hm2'
      go_wp2_with (first | ((with_reducible apply wpl_alloc); intro z wz _ _ _) | ((with_reducible apply wpl_loadrow); (exact rfl); infer_instance; infer_instance; (first | (with_reducible assumption) | (with_reducible exact H32.size _) | kernel_rfl)) | ((with_reducible apply wpl_loadcellN); (exact rfl); infer_instance; (exact rfl)) | ((with_reducible apply wpl_storerow); (exact rfl); (exact rfl); infer_instance; infer_instance; (first | (with_reducible assumption) | (with_reducible exact H32.size _) | kernel_rfl); (first | (with_reducible assumption) | (with_reducible exact H32.size _) | kernel_rfl); (first | (with_reducible exact u8s_one _) | (with_reducible assumption) | kernel_rfl); intro ws _ _) | ((with_reducible apply wpl_storecell); (exact rfl); (exact rfl); infer_instance; (exact rfl); (first | (with_reducible assumption) | omega | (focus (simp; done)) | (focus (simp; omega; done)) | decide); intro ws _ _))
      refine (bkDecode_calls (b := rb) HM2.out (by have := HM2.out; omega)).mono ?_
      rw [← HK.out, ← HD.out]
      rintro e w3 ⟨M, m, d, rfl, hm3, hmd, hM3, hnM, _⟩
      have HM3 := Lib.hid hm3
      have hsz := bkL_len D.bank D.size D.sum D.cnt (strL D.name) M m d
      have hone := bkL_one D.bank D.size D.sum D.cnt (strL D.name) M m d
      have hbo3 : HB w3 zo 54 (bkL 0 0 zeroH 0 ⟨#[]⟩ none 0 0).toArray := inferInstance
      have hnMw : NewA w M := NewA.monoS hnM
      have n3 : Nw w w3 := inferInstance
      have hzt3 := hbo3.out.lt
      clear hm3
      cases K
      case false =>
        have HBE : Hid (B = (bkZero, [], 2)) := Lib.hid (by rw [HB4.out]; rfl)
        clear HB4 HK2
        go_wp2_with (first | ((with_reducible apply wpl_storerow); (exact rfl); (exact rfl); infer_instance; infer_instance; (exact hsz); (exact hsz0); (exact hone); intro wt _ hbt) | ((with_reducible apply wpl_build); (exact kb0 _)) | ((with_reducible apply wpl_storerow); (exact rfl); (exact rfl); infer_instance; infer_instance; (exact hsz0); (exact hsz0); (exact hon0); intro ws _ hbs) | ((with_reducible apply (wpl_alloc (dst := some 8))); intro zt wzt _ _ _) | ((with_reducible apply wpl_alloc); intro z wz _ _ _) | ((with_reducible apply wpl_loadrow); (exact rfl); infer_instance; infer_instance; (first | (with_reducible assumption) | (with_reducible exact H32.size _) | kernel_rfl)) | ((with_reducible apply wpl_loadcellN); (exact rfl); infer_instance; (exact rfl)) | ((with_reducible apply wpl_storerow); (exact rfl); (exact rfl); infer_instance; infer_instance; (first | (with_reducible assumption) | (with_reducible exact H32.size _) | kernel_rfl); (first | (with_reducible assumption) | (with_reducible exact H32.size _) | kernel_rfl); (first | (with_reducible exact u8s_one _) | (with_reducible assumption) | kernel_rfl); intro ws _ _) | ((with_reducible apply wpl_storecell); (exact rfl); (exact rfl); infer_instance; (exact rfl); (first | (with_reducible assumption) | omega | (focus (simp; done)) | (focus (simp; omega; done)) | decide); intro ws _ _))
        refine ret_rowTT rfl rfl rfl rfl hbs (n := 37) hsz0 rfl ?_
        show BootQ B w _ _
        rw [HBE.out]
        exact bootQ_none rfl stepN
      case true =>
        obtain ⟨hbk, hsl⟩ := HK2.out rfl
        obtain ⟨img, himg⟩ : ∃ img, img = (bankB s D.bank).take D.size := ⟨_, rfl⟩
        obtain ⟨S, hS⟩ : ∃ S : H32, S.l = sha img := ⟨⟨sha img, sha_len _⟩, rfl⟩
        have hB5 : B = if S = D.sum then (D, img, 0) else (bkZero, [], 8) := by
          rw [HB4.out, if_pos rfl, ← himg]
          by_cases h : sha img = D.sum.l
          · rw [if_pos h, if_pos (H32.ext' (hS.trans h))]
          · rw [if_neg h, if_neg (fun e => h (by rw [← hS, e]))]
        have HIM := Lib.hid himg
        have HS := Lib.hid hS
        have HB5 := Lib.hid hB5
        obtain ⟨q, hq⟩ : ∃ q : Bool, q = !decide (S = D.sum) := ⟨_, rfl⟩
        have hneq : ∀ w, (binOp .neq 52 (.agg (u8s S.l)) (.agg (u8s D.sum.l))).run Try.prog w = .ok (.bool q) w := fun w => by rw [neqHB, hq]
        have hB6 : B = if q = false then (D, img, 0) else (bkZero, [], 8) := by
          rw [HB5.out, hq]
          by_cases h : S = D.sum
          · rw [if_pos h, if_pos (by simp [h])]
          · rw [if_neg h, if_neg (by simp [h])]
        have HB6 := Lib.hid hB6
        clear HB4 HK2 himg hS hB5 hq hB6 HB5
        go_wp2_with (first | ((with_reducible apply wpl_storerow); (exact rfl); (exact rfl); infer_instance; infer_instance; (exact hsz); (exact hsz0); (exact hone); intro wt _ hbt) | ((with_reducible apply (wpl_loadcell (k := 0))); (exact rfl); (exact hbt); (exact bk_get0 _ _ _ _ _ _ _ _)) | ((with_reducible apply (wpl_loadcell (k := 1))); (exact rfl); (exact hbt); (exact bk_get1 _ _ _ _ _ _ _ _)) | ((with_reducible apply (wpl_alloc (dst := some 8))); intro zt wzt _ _ _) | ((with_reducible apply wpl_alloc); intro z wz _ _ _) | ((with_reducible apply wpl_loadrow); (exact rfl); infer_instance; infer_instance; (first | (with_reducible assumption) | (with_reducible exact H32.size _) | kernel_rfl)) | ((with_reducible apply wpl_loadcellN); (exact rfl); infer_instance; (exact rfl)) | ((with_reducible apply wpl_storerow); (exact rfl); (exact rfl); infer_instance; infer_instance; (first | (with_reducible assumption) | (with_reducible exact H32.size _) | kernel_rfl); (first | (with_reducible assumption) | (with_reducible exact H32.size _) | kernel_rfl); (first | (with_reducible exact u8s_one _) | (with_reducible assumption) | kernel_rfl); intro ws _ _) | ((with_reducible apply wpl_storecell); (exact rfl); (exact rfl); infer_instance; (exact rfl); (first | (with_reducible assumption) | omega | (focus (simp; done)) | (focus (simp; omega; done)) | decide); intro ws _ _))
        have nt : Nw w wt := inferInstance
        have hbot : HB wt zo 54 (bkL 0 0 zeroH 0 ⟨#[]⟩ none 0 0).toArray := inferInstance
        have hMt : HR wt M (bs D.mind) := inferInstance
        refine (bkRead_calls D.bank D.size (HF.out.calm nt.out) (by omega) hbk hsl).mono ?_
        rw [← HIM.out]
        rintro e w5 ⟨I, ci, rfl, hil, hic, hI, _, hnI⟩
        have HIL := Lib.hid hil
        have htd : HB w5 zt 54 (bkL D.bank D.size D.sum D.cnt (strL D.name) M m d).toArray := inferInstance
        have hbo5 : HB w5 zo 54 (bkL 0 0 zeroH 0 ⟨#[]⟩ none 0 0).toArray := inferInstance
        have n5 : Nw w w5 := inferInstance
        clear hil
        go_wp2_with (first | ((with_reducible apply wpl_alloc); intro z wz _ _ _) | ((with_reducible apply wpl_loadrow); (exact rfl); infer_instance; infer_instance; (first | (with_reducible assumption) | (with_reducible exact H32.size _) | kernel_rfl)) | ((with_reducible apply wpl_loadcellN); (exact rfl); infer_instance; (exact rfl)) | ((with_reducible apply wpl_storerow); (exact rfl); (exact rfl); infer_instance; infer_instance; (first | (with_reducible assumption) | (with_reducible exact H32.size _) | kernel_rfl); (first | (with_reducible assumption) | (with_reducible exact H32.size _) | kernel_rfl); (first | (with_reducible exact u8s_one _) | (with_reducible assumption) | kernel_rfl); intro ws _ _) | ((with_reducible apply wpl_storecell); (exact rfl); (exact rfl); infer_instance; (exact rfl); (first | (with_reducible assumption) | omega | (focus (simp; done)) | (focus (simp; omega; done)) | decide); intro ws _ _))
        refine wp_region_N (nowhere) (by kernel_rfl) (fun wd _ _ => ?_)
        refine' takeH (i := 0) (v := _) rfl (by kernel_rfl) (by kernel_rfl) (by kernel_rfl) (fun _ _ _ h => h) (yields_of (by rfl) (fun w' _ => ?_)) inferInstance ?_
        rotate_left
        · (go_simp; try with_reducible rfl)
        try simp only [Act.put, sA]; try simp only [sB, sC]
        refine' takeH (i := 2) (v := _) rfl (by kernel_rfl) (by kernel_rfl) (by kernel_rfl) (fun _ _ _ h => h) (yields_of (by rfl) (fun w' _ => ?_)) inferInstance ?_
        rotate_left
        · (go_simp; try with_reducible rfl)
        try simp only [Act.put, sA]; try simp only [sB, sC]
        refine' takeH (i := 3) (v := _) rfl (by kernel_rfl) (by kernel_rfl) (by kernel_rfl) (fun _ _ _ h => h) (yields_of (by rfl) (fun w' _ => ?_)) inferInstance ?_
        rotate_left
        · (first | ((with_reducible apply ev_loadpartB); (exact rfl); infer_instance; infer_instance; (exact bk_sum _ _ _ _ _ _ _ _)))
        try simp only [Act.put, sA]; try simp only [sB, sC]
        refine goH (i := 1) (by kernel_rfl) rfl (fun K_ hK_ => ?_)
        go_simp
        refine (dSum_calls I D.size ci img wd (inferInstance : HR wd I (bs img)).out HIL.out hic (by omega)).mono ?_
        rw [← HS.out]
        rintro e w6 ⟨rfl, hc6⟩
        have s6 : Step nowhere wd w6 := ⟨hc6.out⟩
        clear hc6
        refine hK_.out _ _ inferInstance (fun _ => ?_)
        clear hK_ K_
        try simp only [Act.put, sA]; try simp only [sB, sC]
        refine' takeH (i := 4) (v := _) rfl (by kernel_rfl) (by kernel_rfl) (by kernel_rfl) (fun _ _ _ h => h) (yields_of (by rfl) (fun w' _ => ?_)) inferInstance ?_
        rotate_left
        · (go_simp; try with_reducible rfl)
        try simp only [Act.put, sA]; try simp only [sB, sC]
        refine wpAnyH_done (by kernel_rfl) ?_ _
        have htd6 : HB w6 zt 54 (bkL D.bank D.size D.sum D.cnt (strL D.name) M m d).toArray := inferInstance
        have hbo6 : HB w6 zo 54 (bkL 0 0 zeroH 0 ⟨#[]⟩ none 0 0).toArray := inferInstance
        have hI6 : HR w6 I (bs img) := inferInstance
        have hM6 : HR w6 M (bs D.mind) := inferInstance
        have hnIw : NewA w I := NewA.monoS hnI
        have hzo2 := hbo2.out.lt
        have hzot := hbot.out.lt
        have oMo : OffR (only zo) M (bs D.mind) := ⟨fun _ ad e h => by have h' : ad.block = zo := h; have := hnM.out ad e; omega⟩
        have oIo : OffR (only zo) I (bs img) := ⟨fun _ ad e h => by have h' : ad.block = zo := h; have := hnI.out ad e; omega⟩
        cases q
        case true =>
          have HBE : Hid (B = (bkZero, [], 8)) := Lib.hid (by rw [HB6.out]; rfl)
          clear HB6
          go_wp2_with (first | ((with_reducible apply wpl_build); (exact kb0 _)) | ((with_reducible apply wpl_storerow); (exact rfl); (exact rfl); infer_instance; infer_instance; (exact hsz0); (exact hsz0); (exact hon0); intro ws _ hbs) | ((with_reducible apply wpl_alloc); intro z wz _ _ _) | ((with_reducible apply wpl_loadrow); (exact rfl); infer_instance; infer_instance; (first | (with_reducible assumption) | (with_reducible exact H32.size _) | kernel_rfl)) | ((with_reducible apply wpl_loadcellN); (exact rfl); infer_instance; (exact rfl)) | ((with_reducible apply wpl_storerow); (exact rfl); (exact rfl); infer_instance; infer_instance; (first | (with_reducible assumption) | (with_reducible exact H32.size _) | kernel_rfl); (first | (with_reducible assumption) | (with_reducible exact H32.size _) | kernel_rfl); (first | (with_reducible exact u8s_one _) | (with_reducible assumption) | kernel_rfl); intro ws _ _) | ((with_reducible apply wpl_storecell); (exact rfl); (exact rfl); infer_instance; (exact rfl); (first | (with_reducible assumption) | omega | (focus (simp; done)) | (focus (simp; omega; done)) | decide); intro ws _ _))
          refine ret_rowTT rfl rfl rfl rfl hbs (n := 37) hsz0 rfl ?_
          show BootQ B w _ _
          rw [HBE.out]
          exact bootQ_none rfl stepN
        case false =>
          have HBE : Hid (B = (D, img, 0)) := Lib.hid (by rw [HB6.out]; rfl)
          clear HB6
          go_wp2_with (first | ((with_reducible apply wpl_loadrow); (exact rfl); (exact htd6); infer_instance; (exact hsz)) | ((with_reducible apply wpl_storerow); (exact rfl); (exact rfl); infer_instance; infer_instance; (exact hsz); (exact hsz0); (exact hone); intro ws _ hbs) | ((with_reducible apply wpl_alloc); intro z wz _ _ _) | ((with_reducible apply wpl_loadrow); (exact rfl); infer_instance; infer_instance; (first | (with_reducible assumption) | (with_reducible exact H32.size _) | kernel_rfl)) | ((with_reducible apply wpl_loadcellN); (exact rfl); infer_instance; (exact rfl)) | ((with_reducible apply wpl_storerow); (exact rfl); (exact rfl); infer_instance; infer_instance; (first | (with_reducible assumption) | (with_reducible exact H32.size _) | kernel_rfl); (first | (with_reducible assumption) | (with_reducible exact H32.size _) | kernel_rfl); (first | (with_reducible exact u8s_one _) | (with_reducible assumption) | kernel_rfl); intro ws _ _) | ((with_reducible apply wpl_storecell); (exact rfl); (exact rfl); infer_instance; (exact rfl); (first | (with_reducible assumption) | omega | (focus (simp; done)) | (focus (simp; omega; done)) | decide); intro ws _ _))
          refine ret_rowTT rfl rfl rfl rfl hbs (n := 37) hsz rfl ?_
          show BootQ B w _ _
          rw [HBE.out]
          exact ⟨M, m, d, I, D.size, ci, rfl, HM3.out, hmd, inferInstance, hnMw, HIL.out, hic, inferInstance, hnIw, stepN⟩
end Go.Proofs.Ytegdihpnefoolaa
