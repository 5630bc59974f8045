/- ChE, ChF -/
import Derived.Test.YthcleccofccbdaaGreatTbChD
import Derived.Test.YthcleccofccbdaaGreatTbChC
section
open Go Go.RowKit
namespace Go.Proofs.YthcleccofccbdaaGreat
section
variable {P : Program} {fn : Func} {a : Act} {w : World} {R : Ending → World → Prop}
theorem results_cell_tmp2 {p u q : Tmp} {ty : TypeId} (h : fn.results = #[.cell p ty, .tmp u, .tmp q]) (tmps : Array Value) (P : Program) (w : World) :
    (results fn tmps).run P w =
      ((asAddr (tmps.getD p undef)).run P w).andThen fun a w₁ => ((loadVar ty a).run P w₁).andThen fun v w₂ => .ok (.tuple #[v, tmps.getD u undef, tmps.getD q undef]) w₂ := by
  simp only [results, h]
  simp [Sem.run_bind, Result.andThen]
theorem ret_row3 {p u q : Tmp} {ty : TypeId} (h : fn.results = #[.cell p ty, .tmp u, .tmp q]) {g : Nat} (hp : a.tmps.getD p undef = .pointer (some ⟨g, 0, none⟩)) {v v2 : Value} (hv : a.tmps.getD u undef = v) (hv2 : a.tmps.getD q undef = v2) {tb : TypeId} {cs : Array Value} [hb : HB w g tb cs] {n : Nat} [hr : RowT P ty n] (hn : cs.size = n) (hd : a.defers = []) (hR : R (.returned (.tuple #[.agg cs, v, v2])) w) : bodyPost P fn R .ret a w := by
  obtain ⟨d, hd1, hd2⟩ := hr.row
  refine bodyPost_ret ?_ hd hR
  rw [results_cell_tmp2 h, hp, hv, hv2]
  simp [asAddr, run_loadVar_row (P := P) w g tb ty cs (0, 0) d hb.out hd1 (by cases d <;> first | rfl | cases hd2) (by rw [hn]; exact hr.size)]
end
def flwM (r : RootM) : List EnvR → Nat → RootM × Nat × Int
  | [], i => (r, i, 0)
  | E :: L, i => if (nextM r E.m E.l).2.2.2 = 0 then flwM ((nextM r E.m E.l).1, (nextM r E.m E.l).2.1, (nextM r E.m E.l).2.2.1) L (i + 1) else (r, i, (nextM r E.m E.l).2.2.2)
theorem drop_gt {α : Type} [RowC α] (L : List α) (k : Nat) (h : k < L.length) : L.drop k = gt L k :: L.drop (k + 1) := by
  rw [List.drop_eq_getElem_cons h]
  simp [gt, List.getD_eq_getElem?_getD, h]
def FollowQ (r : RootM) (L : List EnvR) (w : World) : Ending → World → Prop := fun e w' => Step nowhere w w' ∧ ∃ v x K, ∃ (i : Nat) (err : Int), e = .returned (.tuple #[.agg (rtL v x K).toArray, .int .i64 (i : Int), .int .i64 err]) ∧ Hid (K.length = 4 ∧ ((v, x, K.map KR.m), i, err) = flwM r L 0) ∧ Hid (KsIn w w' K)
/-- keys at hand, in rows of their own that no block of S holds -/
def KsO (w0 w : World) (S : Nat → Prop) (K : List KR) : Prop := ∀ k ∈ K, KIn w k ∧ NewA w0 k.A ∧ ∀ x, inRow k.A k.l x → ¬ S x
theorem KsO.chg {S T : Nat → Prop} {w0 w w' : World} {K : List KR} (h : KsO w0 w S K) (hc : Chg T w w') (hT : ∀ x, x < w.heap.size → T x → S x) : KsO w0 w' S K := fun k hk => ⟨(h k hk).1.chg hc (fun x hx ht => (h k hk).2.2 x hx (hT x ((h k hk).1.low x hx) ht)), (h k hk).2.1, (h k hk).2.2⟩
set_option maxRecDepth 100000 in
set_option maxHeartbeats 3200000 in
theorem follow_calls (v e0 : Int) (K : List KR) (h4 : K.length = 4) {A : Option Addr} {n c : Nat} {L : List EnvR} {w : World} [hr : HR w A (cellsOf L)] (hK : ∀ k ∈ K, KIn w k) (hL : ∀ E ∈ L, EnvIn w E) (hl : L.length = n) (hmax : n ≤ 9223372036854775807) :
    Calls Tryz.prog 31 #[.agg (rtL v e0 K).toArray, .slice A n c] w (FollowQ (v, e0, K.map KR.m) L w) := by
  have HK := Lib.hid hK
  have H4 := Lib.hid h4
  have HL := Lib.hid hL
  have HLE := Lib.hid hl
  have HRR := Lib.hid hr.out
  have hlen := rtL_len v e0 K h4
  have hone := rtL_one v e0 K
  obtain ⟨r, hr0⟩ : ∃ r : RootM, r = (v, e0, K.map KR.m) := ⟨_, rfl⟩
  have HR0 := Lib.hid hr0
  unfold FollowQ
  rw [← hr0]
  clear hK hL h4 hr0
  go_enter Tryz.func31, Tryz.ntmps31
  go_wp2_with (first | ((with_reducible apply (wpl_box_agg (dst := some 2))); (exact rfl); intro zr wzr _ _ _) | ((with_reducible apply (wpl_alloc (dst := some 4))); intro zo wzo _ _ _) | ((with_reducible apply wpl_loadrow); (exact rfl); infer_instance; infer_instance; (first | (with_reducible assumption) | (with_reducible exact H32.size _) | (with_reducible exact enc_sz _ rfl) | kernel_rfl)))
  have hzol := (inferInstance : HB wzo zo 45 (rtL 0 0 noK).toArray).out.lt
  have hszo : w.heap.size ≤ wzo.heap.size := (inferInstance : SzLe w wzo).out
  refine (clone_calls v e0 K H4.out (fun k hk => KIn.nw (w0 := w) (HK.out k hk))).mono ?_
  rintro e w5 ⟨K0, rfl, _, hK0, hKs0⟩
  have hl0 := rtL_len v e0 K0 hK0.out.1
  have ho0 := rtL_one v e0 K0
  have hzo5 : HB w5 zo 45 (rtL 0 0 noK).toArray := inferInstance
  have hs5 : wzo.heap.size ≤ w5.heap.size := (inferInstance : SzLe wzo w5).out
  go_wp2_with (first | ((with_reducible apply (wpl_alloc (dst := some 7))); intro z7 wz7 _ _ _) | ((with_reducible apply wpl_storerow); (exact rfl); (exact rfl); infer_instance; infer_instance; (first | (with_reducible assumption) | (with_reducible exact H32.size _) | (with_reducible exact enc_sz _ rfl) | kernel_rfl); (first | (with_reducible assumption) | (with_reducible exact H32.size _) | (with_reducible exact enc_sz _ rfl) | kernel_rfl); (first | (with_reducible exact u8s_one _) | (with_reducible assumption) | (with_reducible exact enc_one _) | kernel_rfl); intro ws _ _))
  have hz7 : w5.heap.size ≤ z7 := Nat.le_of_eq (inferInstance : Born w5 z7).eq.symm
  have h7s : HB ws z7 45 (rtL v e0 K0).toArray := inferInstance
  have h7o : HB ws zo 45 (rtL 0 0 noK).toArray := inferInstance
  have h7l := h7s.out.lt
  have a7 : Above w (only z7) := ⟨fun k h => by have h' : k = z7 := h; omega⟩
  have o7 : OffB (only z7) zo := ⟨fun e => by have e' : zo = z7 := e; omega⟩
  have hKO : Hid (KsO w ws (gz2 z7 zo) K0) := Lib.hid (fun k hk => ⟨(hKs0.out k hk).1.chg (inferInstance : Nw w5 ws).out (fun _ _ h => h), ⟨fun ad e => Nat.le_trans hszo ((hKs0.out k hk).2.out ad e)⟩, fun x hx h => by
    have h1 := (hKs0.out k hk).1.low x hx
    obtain ⟨_, ad, e, h2⟩ := hx
    have h3 := (hKs0.out k hk).2.out ad e
    rcases h with h | h <;> omega⟩)
  have hst : Step nowhere w ws := stepN
  go_loopw [16] (fun iv wr => ∃ (k : Nat) (v1 x1 : Int) (K1 : List KR), k ≤ n ∧ iv = .int .i64 (k : Int) ∧ Step nowhere w wr ∧ HB wr z7 45 (rtL v1 x1 K1).toArray ∧ HB wr zo 45 (rtL 0 0 noK).toArray ∧ Hid (K1.length = 4 ∧ flwM r L 0 = flwM (v1, x1, K1.map KR.m) (L.drop k) k) ∧ Hid (KsO w wr (gz2 z7 zo) K1)) (fun iv _ => n - (intOf iv).toNat)
  case atStart => exact ⟨0, v, e0, K0, Nat.zero_le _, rfl, hst, h7s, h7o, Lib.hid ⟨hK0.out.1, by rw [HR0.out, hK0.out.2]; rfl⟩, hKO⟩
  case round =>
    clear h7s h7o hKO hst hzo5
    obtain ⟨k, v1, x1, K1, hk, rfl, st, h7, ho, hK1, hKs⟩ := hrel
    have nr : Nw w wr := ⟨st.chg⟩
    have hl1 := rtL_len v1 x1 K1 hK1.out.1
    have ho1 := rtL_one v1 x1 K1
    have hrA : HR wr A (cellsOf L) := nr.hrR HRR.out
    have h7l2 := h7.out.lt
    have hol2 := ho.out.lt
    by_cases hlt : k < n
    · have hltI : (k : Int) < n := by omega
      have hkl : k < L.length := by rw [HLE.out]; exact hlt
      have HEI : Hid (EnvIn w (gt L k)) := Lib.hid (HL.out _ (gt_mem L k hkl))
      have hse : (RowC.enc (gt L k)).toArray.size = 2 := rfl
      have hoe := enc_one (gt L k)
      have hLL : L.length = n := HLE.out
      go_wp2_with (first | ((with_reducible apply (wpl_alloc (dst := some 9))); intro z9 wz9 _ _ _) | ((with_reducible apply wpl_loadrow); (exact rfl); infer_instance; infer_instance; (first | (with_reducible assumption) | (with_reducible exact H32.size _) | (with_reducible exact enc_sz _ rfl) | kernel_rfl)) | ((with_reducible apply wpl_storerow); (exact rfl); (exact rfl); infer_instance; infer_instance; (first | (with_reducible assumption) | (with_reducible exact H32.size _) | (with_reducible exact enc_sz _ rfl) | kernel_rfl); (first | (with_reducible assumption) | (with_reducible exact H32.size _) | (with_reducible exact enc_sz _ rfl) | kernel_rfl); (first | (with_reducible exact u8s_one _) | (with_reducible assumption) | (with_reducible exact enc_one _) | kernel_rfl); intro ws _ _) | ((with_reducible apply (wpl_indexE (α := EnvR) (t := 75))); (exact rfl); (exact rfl); infer_instance; infer_instance; (first | (with_reducible assumption) | omega | (focus (simp; done)) | (focus (simp; omega; done)) | decide); (exact rfl); (decide); (first | (with_reducible assumption) | omega | (focus (simp; done)) | (focus (simp; omega; done)) | decide)) | ((with_reducible apply (wpl_loadE (α := EnvR) (t := 133))); infer_instance; (exact rfl); infer_instance; (exact rfl); (decide); (first | (with_reducible assumption) | omega | (focus (simp; done)) | (focus (simp; omega; done)) | decide)))
      have n9 : Nw wr ws := inferInstance
      have n9w : Nw w ws := inferInstance
      refine (next_calls v1 x1 K1 hK1.out.1 (gt L k) (fun x hx => (hKs.out x hx).1.chg n9.out (fun _ _ h => h)) (EnvIn.nw (w0 := w) HEI.out)).mono ?_
      rintro e w6 ⟨st6, v2, x2, K2, err, rfl, hK2, hKs2⟩
      have hl2 := rtL_len v2 x2 K2 hK2.out.1
      have ho2 := rtL_one v2 x2 K2
      have h76 : HB w6 z7 45 (rtL v1 x1 K1).toArray := inferInstance
      have ho6 : HB w6 zo 45 (rtL 0 0 noK).toArray := inferInstance
      have n6 : Nw wr w6 := inferInstance
      have hs9 : wr.heap.size ≤ ws.heap.size := n9.out.size
      have HFL : Hid (flwM r L 0 = if err = 0 then flwM (v2, x2, K2.map KR.m) (L.drop (k + 1)) (k + 1) else ((v1, x1, K1.map KR.m), k, err)) := Lib.hid (by
        rw [hK1.out.2, drop_gt L k hkl, flwM, ← hK2.out.2])
      have hKs6 : Hid (KsO w w6 (gz2 z7 zo) K1) := Lib.hid (hKs.out.chg n6.out (fun _ _ h => h.elim))
      by_cases he : err = 0
      · have HF2 : Hid (flwM r L 0 = flwM (v2, x2, K2.map KR.m) (L.drop (k + 1)) (k + 1)) := Lib.hid (by rw [HFL.out, if_pos he])
        have heI : (err != 0) = false := by simp [he]
        have hK2O : Hid (KsO w w6 (gz2 z7 zo) K2) := Lib.hid (fun x hx => ⟨(hKs2.out x hx).1, ⟨fun ad e => Nat.le_trans n9w.out.size ((hKs2.out x hx).2.out ad e)⟩, fun y ⟨_, ad, e, hy⟩ h => by
          have h3 := (hKs2.out x hx).2.out ad e
          rcases h with h | h <;> omega⟩)
        clear he HFL hrA
        go_wp2_with (first | ((with_reducible apply wpl_loadrow); (exact rfl); infer_instance; infer_instance; (exact hl2)) | ((with_reducible apply (wpl_alloc (dst := some 10))); intro zt wzt _ _ _) | ((with_reducible apply wpl_storerow); (exact rfl); (exact rfl); infer_instance; infer_instance; (first | (with_reducible assumption) | (with_reducible exact H32.size _) | (with_reducible exact enc_sz _ rfl) | kernel_rfl); (first | (with_reducible assumption) | (with_reducible exact H32.size _) | (with_reducible exact enc_sz _ rfl) | kernel_rfl); (first | (with_reducible exact u8s_one _) | (with_reducible assumption) | (with_reducible exact enc_one _) | kernel_rfl); intro ws _ _))
        have hch : Chg (only z7) w6 ws := (inferInstance : Ch (only z7) w6 ws).out
        refine ⟨⟨k + 1, v2, x2, K2, by omega, by go_num, stepN, inferInstance, inferInstance, Lib.hid ⟨hK2.out.1, HF2.out⟩, Lib.hid (hK2O.out.chg hch (fun _ _ h => .inl h))⟩, by simp [intOf]; omega⟩
      · have HF2 : Hid (flwM r L 0 = ((v1, x1, K1.map KR.m), k, err)) := Lib.hid (by rw [HFL.out, if_neg he])
        have heI : (err != 0) = true := by simp [he]
        have heJ : err < 0 ∨ 0 < err := by omega
        clear he HFL hrA
        go_wp2_with (first | ((with_reducible apply wpl_loadrow); (exact rfl); infer_instance; infer_instance; (exact hl1)) | ((with_reducible apply (wpl_alloc (dst := some 10))); intro zt wzt _ _ _) | ((with_reducible apply wpl_storerow); (exact rfl); (exact rfl); infer_instance; infer_instance; (first | (with_reducible assumption) | (with_reducible exact H32.size _) | (with_reducible exact enc_sz _ rfl) | kernel_rfl); (first | (with_reducible assumption) | (with_reducible exact H32.size _) | (with_reducible exact enc_sz _ rfl) | kernel_rfl); (first | (with_reducible exact u8s_one _) | (with_reducible assumption) | (with_reducible exact enc_one _) | kernel_rfl); intro ws _ _))
        have hch : Chg (only zo) w6 ws := (inferInstance : Ch (only zo) w6 ws).out
        have hKf := hKs6.out.chg hch (fun _ _ h => .inr h)
        refine ret_row3 rfl rfl rfl rfl (n := 10) hl1 rfl ⟨stepN, v1, x1, K1, k, err, rfl, Lib.hid ⟨hK1.out.1, HF2.out.symm⟩, Lib.hid (fun x hx => ⟨(hKf x hx).1, (hKf x hx).2.1⟩)⟩
    · have hltI : ¬ (k : Int) < n := by omega
      have hkn : k = n := by omega
      have HF2 : Hid (flwM r L 0 = ((v1, x1, K1.map KR.m), n, 0)) := Lib.hid (by
        rw [hK1.out.2, List.drop_of_length_le (by rw [HLE.out]; omega), flwM, hkn])
      clear hkn hrA
      go_wp2_with (first | ((with_reducible apply wpl_loadrow); (exact rfl); (exact h7); infer_instance; (exact hl1)) | ((with_reducible apply wpl_storerow); (exact rfl); (exact rfl); infer_instance; infer_instance; (first | (with_reducible assumption) | (with_reducible exact H32.size _) | (with_reducible exact enc_sz _ rfl) | kernel_rfl); (first | (with_reducible assumption) | (with_reducible exact H32.size _) | (with_reducible exact enc_sz _ rfl) | kernel_rfl); (first | (with_reducible exact u8s_one _) | (with_reducible assumption) | (with_reducible exact enc_one _) | kernel_rfl); intro ws _ _))
      have hch : Chg (only zo) wr ws := (inferInstance : Ch (only zo) wr ws).out
      have hKf := hKs.out.chg hch (fun _ _ h => .inr h)
      refine ret_row3 rfl rfl rfl rfl (n := 10) hl1 rfl ⟨stepN, v1, x1, K1, n, 0, rfl, Lib.hid ⟨hK1.out.1, HF2.out.symm⟩, Lib.hid (fun x hx => ⟨(hKf x hx).1, (hKf x hx).2.1⟩)⟩
end Go.Proofs.YthcleccofccbdaaGreat
end
section
open Go Go.RowKit
namespace Go.Proofs.YthcleccofccbdaaGreat
theorem whoN_none (m : List UInt8) (ks : List H32) : ∀ k, whoN m [] ks k = []
  | 0 => rfl
  | k + 1 => by
    rw [whoN, whoN_none m ks k]
    simp
theorem meets_none (m : List UInt8) (ks : List H32) (need : Int) : meetsB m [] ks need = false := by
  rw [meetsB, whoN_none]
  by_cases h : 1 ≤ need
  · rw [decide_eq_false (show ¬ need ≤ (((([] : List H32).length : Nat)) : Int) by simp; omega), Bool.and_false]
  · rw [isB, decide_eq_false h]
    simp
/-- of an envelope without marks no root follows -/
theorem next_none (r : RootM) (m : List UInt8) : (nextM r m []).2.2.2 = 2 ∨ (nextM r m []).2.2.2 = 6 ∨ (nextM r m []).2.2.2 = 4 := by
  unfold nextM
  split
  · split
    · rw [meets_none, Bool.false_and]
      exact .inr (.inr rfl)
    · exact .inr (.inl rfl)
  · exact .inl rfl
theorem flw_none (r : RootM) (E : EnvR) (h : E.l = []) : ∃ err, flwM r [E] 0 = (r, 0, err) ∧ (err = 2 ∨ err = 6 ∨ err = 4) := by
  have h1 := next_none r E.m
  refine ⟨(nextM r E.m E.l).2.2.2, ?_, by rw [h]; exact h1⟩
  rw [flwM, if_neg]
  rw [h]
  omega
end Go.Proofs.YthcleccofccbdaaGreat
end
