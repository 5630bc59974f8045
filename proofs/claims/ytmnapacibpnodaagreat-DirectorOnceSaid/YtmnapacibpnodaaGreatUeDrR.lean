/- DrR -/
import Derived.Test.YtmnapacibpnodaaGreatUeDrO
open Go Go.RowKit
namespace Go.Proofs.YtmnapacibpnodaaGreat
theorem DrAt.offs {w0 w w' : World} {zd zr : Nat} {s : DS} {S : Nat → Prop} (D : DrAt w0 w zd zr s) (st : Step S w w') (h1 : ¬ S zd) (h2 : ¬ S zr) (h3 : ∀ ad, s.A = some ad → ¬ S ad.block) (h4 : ∀ bd, s.B = some bd → ¬ S bd.block) : DrAt w0 w' zd zr s := by
  obtain ⟨hd, ha, hl, hr, hb, hm, hs, zz, az, bz, ld, lr, la, lb⟩ := D
  have o1 : OffB S zd := ⟨h1⟩
  have o2 : OffB S zr := ⟨h2⟩
  have o3 : OffA S s.A := ⟨h3⟩
  have o4 : OffA S s.B := ⟨h4⟩
  exact ⟨inferInstance, inferInstance, hl, inferInstance, inferInstance, hm, hs, zz, az, bz, ld, lr, la, lb⟩
instance rowCRp : RowC RepR := ⟨36, RepR.l, repl_len, repl_one, ⟨⟨#[]⟩, ⟨#[]⟩, zeroH, 0, 0⟩⟩
instance elemRp : ElemT Tryz.prog 40 43 36 80 (.agg (repL ⟨#[]⟩ ⟨#[]⟩ zeroH 0 0).toArray) := ⟨⟨Tryz.underlying40, by kernel_rfl, rfl, by decide⟩⟩
def zeroRpA : Array Value := (repL ⟨#[]⟩ ⟨#[]⟩ zeroH 0 0).toArray
theorem run_oneRp (p : RepR) (w : World) : (Instr.buildSlice 40 1 #[(0, .agg (RowC.enc p).toArray)]).run Tryz.prog w = .ok (.slice (some ⟨w.heap.size, 0, none⟩) 1 1) (w.alloc (.cells (cellsOf [p]).toArray 43)) := by
  have hs : (RowC.enc p).toArray.size = 36 := RowC.len p
  have hz : ∀ w, (zeroValue 43).run Tryz.prog w = .ok (.agg zeroRpA) w := fun _ => by kernel_rfl
  have hi : ∀ w, (sizeOf 43).run Tryz.prog w = .ok 36 w := fun _ => by kernel_rfl
  have hz1 : zeroRpA.size = 36 := by kernel_rfl
  have he : (cellsOf [p]).toArray = (RowC.enc p).toArray.toList.toArray := by simp [cellsOf]
  rw [he]
  obtain ⟨Z, hZ⟩ : ∃ Z : Array Value, Z = zeroRpA := ⟨_, rfl⟩
  obtain ⟨R, hR⟩ : ∃ R : Array Value, R = (RowC.enc p).toArray := ⟨_, rfl⟩
  rw [← hZ] at hz hz1
  rw [← hR] at hs ⊢
  clear hZ hR he
  unfold Instr.buildSlice
  simp only [Sem.run_bind, run_underlying Tryz.underlying40, Result.andThen_ok, hi]
  obtain ⟨W, hW⟩ : ∃ W : Array Value, W = (Array.range (1 * 36)).map (Z[· % Z.size]!) := ⟨_, rfl⟩
  have hWs : W.size = 36 := by rw [hW]; simp
  have hf : Instr.fill (fun i => some (i * 36, 36)) W [(0, Value.agg R)] = some R.toList.toArray := by
    rw [fill_step _ _ 0 (.agg R) _ (off := 0) (size := 36) rfl hs (by rw [hWs]; decide)]
    have e : lay 0 R W = R.toList.toArray := by
      unfold lay
      congr 1
      simp only [List.take_zero, List.nil_append, Nat.zero_add, hs]
      rw [List.drop_of_length_le (by simp [hWs]), List.append_nil]
    show Instr.fill _ (lay 0 R W) [] = _
    rw [e]
    rfl
  rw [hW] at hf
  simp [hz, Value.cells, hf, newRow]
theorem rpRow {w : World} {z : Nat} {t : TypeId} {r : RepR} (h : HB w z t (cellsOf [r]).toArray) : HR w (some ⟨z, 0, none⟩) (cellsOf [r]) := HR.ofBlkL h
theorem enr_35 {r : EnrR} {q : Bool} {p : RepR} (h : r.tl = tlR q p) : ((RowC.enc r).toArray.toList.drop 35).take 36 = RowC.enc p := by
  show ((RowC.enc r).drop 35).take 36 = p.l
  rw [show 35 = 34 + 1 from rfl, ← List.drop_drop, enr_drop, h, tlR, List.drop_succ_cons, List.drop_zero]
  exact List.take_of_length_le (Nat.le_of_eq (repl_len p))
/-- the reports of the first ECUs -/
def repsN (tq : Nat → Bool) (tp : Nat → RepR) : Nat → List RepR
  | 0 => []
  | k + 1 => if tq k then repsN tq tp k ++ [tp k] else repsN tq tp k
set_option maxRecDepth 100000 in
set_option maxHeartbeats 3200000 in
theorem invN_calls {zd : Nat} {p0 : Value} {A : Option Addr} {n c : Nat} {L : List EnrR} (tq : Nat → Bool) (tp : Nat → RepR) {w : World} [hd : HB w zd 50 #[p0, .slice A n c]] [ha : HO w 59 71 A n c (cellsOf L)] (hl : L.length = n) (hn : n ≤ 1000000) (hT : ∀ i, i < n → (gt L i).tl = tlR (tq i) (tp i)) :
    Calls Tryz.prog 9 #[.pointer (some ⟨zd, 0, none⟩)] w fun e w' => ∃ B m d, e = .returned (.slice B m d) ∧ Step nowhere w w' ∧ HO w' 43 36 B m d (cellsOf (repsN tq tp n)) ∧ NewA w B ∧ Hid ((repsN tq tp n).length = m) := by
  have HT := Lib.hid hT
  have hn9 : n ≤ 9223372036854775807 := by omega
  have hra : HR w A (cellsOf L) := ⟨ha.out.rd⟩
  have HRA := Lib.hid hra.out
  clear hT
  go_enter Tryz.func9, Tryz.ntmps9
  go_wp2_with (first | ((with_reducible apply wpl_loadcellN); (exact rfl); infer_instance; (exact rfl)))
  go_loopw [3, 13] (fun lv iv wr => ∃ (k m d : Nat) (B : Option Addr), k ≤ n ∧ lv = .slice B m d ∧ iv = .int .i64 (k : Int) ∧ Step nowhere w wr ∧ HO wr 43 36 B m d (cellsOf (repsN tq tp k)) ∧ NewA w B ∧ m ≤ k ∧ Hid ((repsN tq tp k).length = m)) (fun _ iv _ => n - (intOf iv).toNat)
  case atStart => exact ⟨0, 0, 0, none, Nat.zero_le _, rfl, rfl, stepN, ⟨Own.nil _ _ _⟩, NewA.of_none _, Nat.le_refl _, Lib.hid rfl⟩
  case round =>
    obtain ⟨k, m, d, B, hk, rfl, rfl, st, _, _, hmk, HLN⟩ := hrel
    have nr : Nw w wr := ⟨st.chg⟩
    have hrw : HR wr A (cellsOf L) := ⟨HRA.out.later st.chg⟩
    by_cases hlt : k < n
    · have hltI : (k : Int) < n := by omega
      have hkl : k < L.length := by omega
      have hszk : (RowC.enc (gt L k)).toArray.size = 71 := enR_len _
      have honk := enc_one (gt L k)
      have hc34 := enr_34 (HT.out k hlt)
      have hc35 := enr_35 (HT.out k hlt)
      have hl36 : (RowC.enc (tp k)).length = 36 := repl_len _
      have hz36 : (RowC.enc (tp k)).toArray.size = 36 := hl36
      have kc := run_oneRp (tp k)
      have hm9 : m + 1 ≤ 1000000000 := by omega
      have HC35 := Lib.hid hc35
      clear hc35
      cases hq : tq k with
      | false =>
        have hrs : repsN tq tp (k + 1) = repsN tq tp k := by rw [repsN, hq]; rfl
        have HRS := Lib.hid hrs
        rw [hq] at hc34
        clear hrs hq
        go_wp2_with (first | ((with_reducible apply (stop_dst (dst := some 18))); (with_reducible apply (wpl_loadcellN (k := 34))); (exact rfl); infer_instance; (exact hc34)) | ((with_reducible apply (wpl_alloc (dst := some 5))); intro z5 wz5 _ _ _) | ((with_reducible apply wpl_storerow); (exact rfl); (exact rfl); infer_instance; infer_instance; (first | (with_reducible assumption) | (with_reducible exact H32.size _) | (with_reducible exact enc_sz _ rfl) | kernel_rfl); (first | (with_reducible assumption) | (with_reducible exact H32.size _) | (with_reducible exact enc_sz _ rfl) | kernel_rfl); (first | (with_reducible exact u8s_one _) | (with_reducible assumption) | (with_reducible exact enc_one _) | kernel_rfl); intro ws _ _) | ((with_reducible apply (wpl_indexE (α := EnrR) (t := 48))); (exact rfl); (exact rfl); infer_instance; infer_instance; (first | (with_reducible assumption) | omega | (focus (simp; done)) | (focus (simp; omega; done)) | decide); (exact rfl); (decide); (first | (with_reducible assumption) | omega | (focus (simp; done)) | (focus (simp; omega; done)) | decide)) | ((with_reducible apply (wpl_loadE (α := EnrR) (t := 59))); infer_instance; (exact rfl); infer_instance; (exact rfl); (decide); (first | (with_reducible assumption) | omega | (focus (simp; done)) | (focus (simp; omega; done)) | decide)))
        exact ⟨⟨k + 1, m, d, B, by omega, rfl, by go_num, stepN, by rw [HRS.out]; infer_instance, inferInstance, by omega, by rw [HRS.out]; exact HLN⟩, by simp [intOf]; omega⟩
      | true =>
        have hrs : repsN tq tp (k + 1) = repsN tq tp k ++ [tp k] := by rw [repsN, hq]; rfl
        have HRS := Lib.hid hrs
        rw [hq] at hc34
        clear hrs hq
        go_wp2_with (first | ((with_reducible apply (stop_dst (dst := some 18))); (with_reducible apply (wpl_loadcellN (k := 34))); (exact rfl); infer_instance; (exact hc34)) | ((with_reducible apply (wpl_loadpart (k := 35) (n := 36))); (exact rfl); infer_instance; infer_instance; (decide); (exact HC35.out); (exact hl36)) | ((with_reducible apply (stop_dst (dst := some 22))); (try simp only [Act.put, sA, sB, sC]); ((with_reducible apply (wpl_bslice (dst := some 22))); (exact kc _); intro zb wb _ _ _)) | ((with_reducible apply (wpl_appendR (α := RepR))); (exact rfl); (exact rfl); infer_instance; infer_instance; (exact rpRow (r := tp k) inferInstance); (exact rfl); (exact rfl); (exact hm9); (decide); (decide); intro B2 d2 wa _ _ _ hcap2) | ((with_reducible apply (wpl_alloc (dst := some 5))); intro z5 wz5 _ _ _) | ((with_reducible apply wpl_storerow); (exact rfl); (exact rfl); infer_instance; infer_instance; (first | (with_reducible assumption) | (with_reducible exact H32.size _) | (with_reducible exact enc_sz _ rfl) | kernel_rfl); (first | (with_reducible assumption) | (with_reducible exact H32.size _) | (with_reducible exact enc_sz _ rfl) | kernel_rfl); (first | (with_reducible exact u8s_one _) | (with_reducible assumption) | (with_reducible exact enc_one _) | kernel_rfl); intro ws _ _) | ((with_reducible apply (wpl_indexE (α := EnrR) (t := 48))); (exact rfl); (exact rfl); infer_instance; infer_instance; (first | (with_reducible assumption) | omega | (focus (simp; done)) | (focus (simp; omega; done)) | decide); (exact rfl); (decide); (first | (with_reducible assumption) | omega | (focus (simp; done)) | (focus (simp; omega; done)) | decide)) | ((with_reducible apply (wpl_loadE (α := EnrR) (t := 59))); infer_instance; (exact rfl); infer_instance; (exact rfl); (decide); (first | (with_reducible assumption) | omega | (focus (simp; done)) | (focus (simp; omega; done)) | decide)))
        refine ⟨⟨k + 1, m + 1, d2, B2, by omega, rfl, by go_num, stepN, by rw [HRS.out]; infer_instance, inferInstance, by omega, ?_⟩, by simp [intOf]; omega⟩
        refine Lib.hid ?_
        rw [HRS.out, List.length_append, HLN.out]
        rfl
    · have hltI : ¬ (k : Int) < n := by omega
      have hkn : k = n := by omega
      subst hkn
      go_wp2_with fail
      go_ret
      exact ⟨B, m, d, rfl, stepN, inferInstance, inferInstance, HLN⟩
end Go.Proofs.YtmnapacibpnodaaGreat
