/- SlE, SlF -/
import Derived.Test.YtegdihpnefoolaaTjSlD
import Derived.RangeFuncBox
import Derived.RangeFuncLeaves
import Derived.Shelf.Abstract
import Derived.WalkKit
import Derived.OwnWalkIn
import Derived.TacticsInMore
import Derived.LoopNIn
import Derived.LoopIn
import Derived.BigRegionIn
import Derived.Maps.AppendAt
section
open Go Go.RowKit
namespace Go.Proofs.Ytegdihpnefoolaa
instance slRowR : RowT Try.prog 81 3 := ⟨by kernel_rfl, _, Try.underlying81, rfl⟩
instance slZeroR : ZeroT Try.prog 81 #[.int .i64 0, .int .i64 0, .slice none 0 0] := ⟨.agg #[.int .i64 0, .int .i64 0, .slice none 0 0], fun _ => by kernel_rfl, rfl⟩
instance slCellB : CellT Try.prog 22 := ⟨fun _ => by kernel_rfl, fun _ => by kernel_rfl⟩
theorem run_rec (i n : Int) (B : Option Addr) (m d : Nat) (w : World) : (Instr.build 81 #[(0, .int .i64 i), (1, .int .i64 n), (2, .slice B m d)]).run Try.prog w = .ok (.agg #[.int .i64 i, .int .i64 n, .slice B m d]) w := by kernel_rfl
theorem run_rec0 (w : World) : (Instr.build 81 #[]).run Try.prog w = .ok (.agg #[.int .i64 0, .int .i64 0, .slice none 0 0]) w := by kernel_rfl
theorem bestK_no {s : FS} {k : Nat} (h : (unpS (slotB s k)).ok = false) : bestK s (k + 1) = bestK s k := by
  rw [bestK, h]
  rfl
theorem bestK_low {s : FS} {k : Nat} (h : ¬ (bestK s k).2.1 < (unpS (slotB s k)).n) : bestK s (k + 1) = bestK s k := by
  rw [bestK, decide_eq_false h, Bool.and_false]
  rfl
theorem bestK_up {s : FS} {k : Nat} (h : (unpS (slotB s k)).ok = true) (h2 : (bestK s k).2.1 < (unpS (slotB s k)).n) : bestK s (k + 1) = (k, (unpS (slotB s k)).n, (unpS (slotB s k)).b) := by
  rw [bestK, h, decide_eq_true h2]
  rfl
theorem bestK_zero {s : FS} : ∀ k, (bestK s k).2.1 = 0 → bestK s k = (0, 0, [])
  | 0, _ => rfl
  | k + 1, h => by
    by_cases h1 : (unpS (slotB s k)).ok = true
    · by_cases h2 : (bestK s k).2.1 < (unpS (slotB s k)).n
      · rw [bestK_up h1 h2] at h
        have h' : (unpS (slotB s k)).n = 0 := h
        omega
      · rw [bestK_low h2] at h ⊢
        exact bestK_zero k h
    · rw [bestK_no (by simpa using h1)] at h ⊢
      exact bestK_zero k h
/-- the newest record is told -/
def NewPost (s : FS) (w : World) (e : Ending) (w' : World) : Prop :=
  ∃ B m d, e = .returned (.tuple #[.agg #[.int .i64 ((bestS s).1 : Int), .int .i64 ((bestS s).2.1 : Int), .slice B m d], .int .i64 (if (bestS s).2.1 = 0 then 9 else 0)]) ∧ (bestS s).2.2.length = m ∧ m ≤ d ∧ HR w' B (bs (bestS s).2.2) ∧ NewA w B ∧ Step nowhere w w'
set_option maxRecDepth 100000 in
set_option maxHeartbeats 1600000 in
theorem newest_calls {g p N : Nat} {s : FS} {w : World} (hF : FlashAt w g p N s) (hN : 80 ≤ N) :
    Calls Try.prog 43 #[.pointer (some ⟨g, 0, none⟩)] w (NewPost s w) := by
  have HF := Lib.hid hF
  have hok := Lib.hid hF.ok
  have hN80 : ¬ (N : Int) < 80 := by omega
  have kbr := run_rec
  have kb0 := run_rec0
  have hN9 := hok.out.most
  clear hF
  go_enter Try.func43, Try.ntmps43
  go_wp2_with (first | go_skip | ((with_reducible apply (wpl_alloc (dst := some 2))); intro zo wzo _ _ _) | ((with_reducible apply wpl_alloc); intro z wz _ _ _) | ((with_reducible apply (wpl_guard (op := .load _ _))); (exact rfl)) | ((with_reducible apply (wpl_guard (op := .fieldAddr _ _ _))); (exact rfl)) | ((with_reducible apply wpl_loadrow); (exact rfl); infer_instance; infer_instance; (first | (with_reducible assumption) | (with_reducible exact H32.size _) | kernel_rfl)) | ((with_reducible apply wpl_loadcellN); (exact rfl); infer_instance; (exact rfl)) | ((with_reducible apply wpl_storerow); (exact rfl); (exact rfl); infer_instance; infer_instance; (first | (with_reducible assumption) | (with_reducible exact H32.size _) | kernel_rfl); (first | (with_reducible assumption) | (with_reducible exact H32.size _) | kernel_rfl); (first | (with_reducible exact u8s_one _) | (with_reducible assumption) | kernel_rfl); intro ws _ _) | ((with_reducible apply wpl_storecell); (exact rfl); (exact rfl); infer_instance; (exact rfl); (first | (with_reducible assumption) | omega | (focus (simp; done)) | (focus (simp; omega; done)) | decide); intro ws _ _))
  refine (Len_calls g p N s _ (HF.out.calm (stepN (w0 := w)).chg)).mono ?_
  rintro e w1 ⟨rfl, rfl⟩
  go_wp2_with (first | go_skip | ((with_reducible apply (wpl_alloc (dst := some 4))); intro zb wzb _ _ _) | ((with_reducible apply wpl_alloc); intro z wz _ _ _) | ((with_reducible apply (wpl_guard (op := .load _ _))); (exact rfl)) | ((with_reducible apply (wpl_guard (op := .fieldAddr _ _ _))); (exact rfl)) | ((with_reducible apply wpl_loadrow); (exact rfl); infer_instance; infer_instance; (first | (with_reducible assumption) | (with_reducible exact H32.size _) | kernel_rfl)) | ((with_reducible apply wpl_loadcellN); (exact rfl); infer_instance; (exact rfl)) | ((with_reducible apply wpl_storerow); (exact rfl); (exact rfl); infer_instance; infer_instance; (first | (with_reducible assumption) | (with_reducible exact H32.size _) | kernel_rfl); (first | (with_reducible assumption) | (with_reducible exact H32.size _) | kernel_rfl); (first | (with_reducible exact u8s_one _) | (with_reducible assumption) | kernel_rfl); intro ws _ _) | ((with_reducible apply wpl_storecell); (exact rfl); (exact rfl); infer_instance; (exact rfl); (first | (with_reducible assumption) | omega | (focus (simp; done)) | (focus (simp; omega; done)) | decide); intro ws _ _))
  go_loopw [13] (fun iv wr => ∃ (k : Nat) (B : Option Addr) (m d : Nat), k ≤ 2 ∧ iv = .int .i64 (k : Int) ∧ Step nowhere w wr ∧ HB wr zo 81 #[.int .i64 0, .int .i64 0, .slice none 0 0] ∧ HB wr zb 81 #[.int .i64 ((bestK s k).1 : Int), .int .i64 ((bestK s k).2.1 : Int), .slice B m d] ∧ HR wr B (bs (bestK s k).2.2) ∧ NewA w B ∧ Hid ((bestK s k).2.2.length = m) ∧ m ≤ d ∧ NewA w (some ⟨zb, 0, none⟩) ∧ OffR (only zb) B (bs (bestK s k).2.2) ∧ OffR (only zo) B (bs (bestK s k).2.2)) (fun iv _ => 2 - (intOf iv).toNat)
  case atStart =>
    have hb : HB wzb zb 81 #[.int .i64 0, .int .i64 0, .slice none 0 0] := inferInstance
    have hnb : NewA w (some ⟨zb, 0, none⟩) := NewA.monoS (NewA.of_born 0)
    exact ⟨0, none, 0, 0, Nat.zero_le _, rfl, stepN, inferInstance, hb, ⟨Rd.nil _ _⟩, ⟨fun ad e => by cases e⟩, Lib.hid rfl, Nat.le_refl _, hnb, ⟨fun _ ad e => by cases e⟩, ⟨fun _ ad e => by cases e⟩⟩
  case round =>
    obtain ⟨k, B, m, d, hk, rfl, _, hzo, hzr, hB, hnB, HM, hmd, hzb, hoB, hoZ⟩ := hrel
    have nr : Nw w wr := inferInstance
    by_cases hlt : k < 2
    · have hltI : (k : Int) < 2 := by omega
      obtain ⟨al, hal⟩ : ∃ al, al = slotB s k := ⟨_, rfl⟩
      have hall : al.length = 2560 := by rw [hal]; exact slotB_len hok.out hN k hlt
      obtain ⟨U, hU⟩ : ∃ U, U = unpS al := ⟨_, rfl⟩
      have HAL := Lib.hid hal
      have HU := Lib.hid hU
      have HUK : Hid (unpS (slotB s k) = U) := Lib.hid (by rw [hU, hal])
      clear hal hU
      go_wp2_with (first | go_skip | ((with_reducible apply wpl_alloc); intro z wz _ _ _) | ((with_reducible apply (wpl_guard (op := .load _ _))); (exact rfl)) | ((with_reducible apply (wpl_guard (op := .fieldAddr _ _ _))); (exact rfl)) | ((with_reducible apply wpl_loadrow); (exact rfl); infer_instance; infer_instance; (first | (with_reducible assumption) | (with_reducible exact H32.size _) | kernel_rfl)) | ((with_reducible apply wpl_loadcellN); (exact rfl); infer_instance; (exact rfl)) | ((with_reducible apply wpl_storerow); (exact rfl); (exact rfl); infer_instance; infer_instance; (first | (with_reducible assumption) | (with_reducible exact H32.size _) | kernel_rfl); (first | (with_reducible assumption) | (with_reducible exact H32.size _) | kernel_rfl); (first | (with_reducible exact u8s_one _) | (with_reducible assumption) | kernel_rfl); intro ws _ _) | ((with_reducible apply wpl_storecell); (exact rfl); (exact rfl); infer_instance; (exact rfl); (first | (with_reducible assumption) | omega | (focus (simp; done)) | (focus (simp; omega; done)) | decide); intro ws _ _))
      refine (slRead_calls k (HF.out.calm nr.out) hN hlt).mono ?_
      rw [← HAL.out]
      rintro e w5 ⟨A5, n5, c5, rfl, hl5, hc5, _, _⟩
      have h5a : n5 ≤ 100000 := by omega
      have h5b : 0 < n5 := by omega
      have HL5 := Lib.hid hl5
      clear hl5 hall
      go_wp2_with (first | go_skip | ((with_reducible apply wpl_alloc); intro z wz _ _ _) | ((with_reducible apply (wpl_guard (op := .load _ _))); (exact rfl)) | ((with_reducible apply (wpl_guard (op := .fieldAddr _ _ _))); (exact rfl)) | ((with_reducible apply wpl_loadrow); (exact rfl); infer_instance; infer_instance; (first | (with_reducible assumption) | (with_reducible exact H32.size _) | kernel_rfl)) | ((with_reducible apply wpl_loadcellN); (exact rfl); infer_instance; (exact rfl)) | ((with_reducible apply wpl_storerow); (exact rfl); (exact rfl); infer_instance; infer_instance; (first | (with_reducible assumption) | (with_reducible exact H32.size _) | kernel_rfl); (first | (with_reducible assumption) | (with_reducible exact H32.size _) | kernel_rfl); (first | (with_reducible exact u8s_one _) | (with_reducible assumption) | kernel_rfl); intro ws _ _) | ((with_reducible apply wpl_storecell); (exact rfl); (exact rfl); infer_instance; (exact rfl); (first | (with_reducible assumption) | omega | (focus (simp; done)) | (focus (simp; omega; done)) | decide); intro ws _ _))
      refine (unpack_calls (all := al) HL5.out hc5 h5a h5b).mono ?_
      rw [← HU.out]
      rintro e w6 ⟨B6, m6, d6, rfl, hm6, hd6, hB6, hn6, _⟩
      have nBw : NewA w B6 := NewA.monoS hn6
      have oB6 : OffR (only zb) B6 (bs U.b) := ⟨fun _ ad e hk => by
        have h1 := hn6.out ad e
        have h2 := (inferInstance : HB w5 zb 81 #[.int .i64 ((bestK s k).1 : Int), .int .i64 ((bestK s k).2.1 : Int), .slice B m d]).out.lt
        have h3 : ad.block = zb := hk
        omega⟩
      have oZ6 : OffR (only zo) B6 (bs U.b) := ⟨fun _ ad e hk => by
        have h1 := hn6.out ad e
        have h2 := (inferInstance : HB w5 zo 81 #[.int .i64 0, .int .i64 0, .slice none 0 0]).out.lt
        have h3 : ad.block = zo := hk
        omega⟩
      have n6 : Nw w w6 := inferInstance
      rcases hokU : U.ok with _ | _
      · have hbk : bestK s (k + 1) = bestK s k := bestK_no (by rw [HUK.out]; exact hokU)
        have HBK := Lib.hid hbk
        clear hbk
        go_wp2_with (first | go_skip | ((with_reducible apply (wpl_guard (op := .call _))); (exact rfl)) | ((with_reducible apply (wpl_guard (op := .load _ _))); (exact rfl)) | ((with_reducible apply (wpl_guard (op := .fieldAddr _ _ _))); (exact rfl)) | ((with_reducible apply wpl_alloc); intro z wz _ _ _) | ((with_reducible apply (wpl_guard (op := .load _ _))); (exact rfl)) | ((with_reducible apply (wpl_guard (op := .fieldAddr _ _ _))); (exact rfl)) | ((with_reducible apply wpl_loadrow); (exact rfl); infer_instance; infer_instance; (first | (with_reducible assumption) | (with_reducible exact H32.size _) | kernel_rfl)) | ((with_reducible apply wpl_loadcellN); (exact rfl); infer_instance; (exact rfl)) | ((with_reducible apply wpl_storerow); (exact rfl); (exact rfl); infer_instance; infer_instance; (first | (with_reducible assumption) | (with_reducible exact H32.size _) | kernel_rfl); (first | (with_reducible assumption) | (with_reducible exact H32.size _) | kernel_rfl); (first | (with_reducible exact u8s_one _) | (with_reducible assumption) | kernel_rfl); intro ws _ _) | ((with_reducible apply wpl_storecell); (exact rfl); (exact rfl); infer_instance; (exact rfl); (first | (with_reducible assumption) | omega | (focus (simp; done)) | (focus (simp; omega; done)) | decide); intro ws _ _))
        refine ⟨⟨k + 1, B, m, d, by omega, by go_num, stepN, inferInstance, ?_, ?_, hnB, ?_, hmd, hzb, ?_, ?_⟩, by simp [intOf]; omega⟩
        · rw [HBK.out]; infer_instance
        · rw [HBK.out]; infer_instance
        · rw [HBK.out]; exact HM
        · rw [HBK.out]; exact hoB
        · rw [HBK.out]; exact hoZ
      · by_cases hup : (bestK s k).2.1 < U.n
        · have hupI : ((bestK s k).2.1 : Int) < (U.n : Int) := by omega
          have hbk : bestK s (k + 1) = (k, U.n, U.b) := by
            have h := bestK_up (s := s) (k := k) (by rw [HUK.out]; exact hokU) (by rw [HUK.out]; exact hup)
            rw [HUK.out] at h
            exact h
          have HBK := Lib.hid hbk
          clear hbk
          go_wp2_with (first | go_skip | ((with_reducible apply (stop_dst (dst := some 34))); (try simp only [Act.put, sA, sB, sC]); ((with_reducible apply (wpl_build (dst := some 34))); (exact kbr _ _ _ _ _ _))) | ((with_reducible apply (wpl_guard (op := .call _))); (exact rfl)) | ((with_reducible apply (wpl_guard (op := .load _ _))); (exact rfl)) | ((with_reducible apply (wpl_guard (op := .fieldAddr _ _ _))); (exact rfl)) | ((with_reducible apply wpl_alloc); intro z wz _ _ _) | ((with_reducible apply (wpl_guard (op := .load _ _))); (exact rfl)) | ((with_reducible apply (wpl_guard (op := .fieldAddr _ _ _))); (exact rfl)) | ((with_reducible apply wpl_loadrow); (exact rfl); infer_instance; infer_instance; (first | (with_reducible assumption) | (with_reducible exact H32.size _) | kernel_rfl)) | ((with_reducible apply wpl_loadcellN); (exact rfl); infer_instance; (exact rfl)) | ((with_reducible apply wpl_storerow); (exact rfl); (exact rfl); infer_instance; infer_instance; (first | (with_reducible assumption) | (with_reducible exact H32.size _) | kernel_rfl); (first | (with_reducible assumption) | (with_reducible exact H32.size _) | kernel_rfl); (first | (with_reducible exact u8s_one _) | (with_reducible assumption) | kernel_rfl); intro ws _ _) | ((with_reducible apply wpl_storecell); (exact rfl); (exact rfl); infer_instance; (exact rfl); (first | (with_reducible assumption) | omega | (focus (simp; done)) | (focus (simp; omega; done)) | decide); intro ws _ _))
          refine ⟨⟨k + 1, B6, m6, d6, by omega, by go_num, stepN, inferInstance, ?_, ?_, nBw, ?_, hd6, hzb, ?_, ?_⟩, by simp [intOf]; omega⟩
          · rw [HBK.out]; infer_instance
          · rw [HBK.out]; infer_instance
          · rw [HBK.out]; exact Lib.hid hm6
          · rw [HBK.out]; exact oB6
          · rw [HBK.out]; exact oZ6
        · have hupI : ¬ ((bestK s k).2.1 : Int) < (U.n : Int) := by omega
          have hbk : bestK s (k + 1) = bestK s k := bestK_low (by rw [HUK.out]; exact hup)
          have HBK := Lib.hid hbk
          clear hbk
          go_wp2_with (first | go_skip | ((with_reducible apply (wpl_guard (op := .call _))); (exact rfl)) | ((with_reducible apply (wpl_guard (op := .load _ _))); (exact rfl)) | ((with_reducible apply (wpl_guard (op := .fieldAddr _ _ _))); (exact rfl)) | ((with_reducible apply wpl_alloc); intro z wz _ _ _) | ((with_reducible apply (wpl_guard (op := .load _ _))); (exact rfl)) | ((with_reducible apply (wpl_guard (op := .fieldAddr _ _ _))); (exact rfl)) | ((with_reducible apply wpl_loadrow); (exact rfl); infer_instance; infer_instance; (first | (with_reducible assumption) | (with_reducible exact H32.size _) | kernel_rfl)) | ((with_reducible apply wpl_loadcellN); (exact rfl); infer_instance; (exact rfl)) | ((with_reducible apply wpl_storerow); (exact rfl); (exact rfl); infer_instance; infer_instance; (first | (with_reducible assumption) | (with_reducible exact H32.size _) | kernel_rfl); (first | (with_reducible assumption) | (with_reducible exact H32.size _) | kernel_rfl); (first | (with_reducible exact u8s_one _) | (with_reducible assumption) | kernel_rfl); intro ws _ _) | ((with_reducible apply wpl_storecell); (exact rfl); (exact rfl); infer_instance; (exact rfl); (first | (with_reducible assumption) | omega | (focus (simp; done)) | (focus (simp; omega; done)) | decide); intro ws _ _))
          refine ⟨⟨k + 1, B, m, d, by omega, by go_num, stepN, inferInstance, ?_, ?_, hnB, ?_, hmd, hzb, ?_, ?_⟩, by simp [intOf]; omega⟩
          · rw [HBK.out]; infer_instance
          · rw [HBK.out]; infer_instance
          · rw [HBK.out]; exact HM
          · rw [HBK.out]; exact hoB
          · rw [HBK.out]; exact hoZ
    · have hltI : ¬ (k : Int) < 2 := by omega
      obtain rfl : k = 2 := by omega
      obtain ⟨R, hR⟩ : ∃ R, R = bestK s 2 := ⟨_, rfl⟩
      have HR1 : Hid (bestS s = R) := Lib.hid hR.symm
      have hz : R.2.1 = 0 → R = (0, 0, []) := fun h => by rw [hR] at h ⊢; exact bestK_zero 2 h
      rw [← hR] at hzr hB HM hoB hoZ
      have HZ := Lib.hid hz
      clear hR hz
      by_cases h0 : R.2.1 = 0
      · have e1 : ((R.2.1 : Int) == 0) = true := by simp [h0]
        have HE : Hid (R = (0, 0, [])) := Lib.hid (HZ.out h0)
        clear h0
        go_wp2_with (first | go_skip | ((with_reducible apply wpl_build); (exact kb0 _)) | ((with_reducible apply wpl_alloc); intro z wz _ _ _) | ((with_reducible apply (wpl_guard (op := .load _ _))); (exact rfl)) | ((with_reducible apply (wpl_guard (op := .fieldAddr _ _ _))); (exact rfl)) | ((with_reducible apply wpl_loadrow); (exact rfl); infer_instance; infer_instance; (first | (with_reducible assumption) | (with_reducible exact H32.size _) | kernel_rfl)) | ((with_reducible apply wpl_loadcellN); (exact rfl); infer_instance; (exact rfl)) | ((with_reducible apply wpl_storerow); (exact rfl); (exact rfl); infer_instance; infer_instance; (first | (with_reducible assumption) | (with_reducible exact H32.size _) | kernel_rfl); (first | (with_reducible assumption) | (with_reducible exact H32.size _) | kernel_rfl); (first | (with_reducible exact u8s_one _) | (with_reducible assumption) | kernel_rfl); intro ws _ _) | ((with_reducible apply wpl_storecell); (exact rfl); (exact rfl); infer_instance; (exact rfl); (first | (with_reducible assumption) | omega | (focus (simp; done)) | (focus (simp; omega; done)) | decide); intro ws _ _))
        refine ret_row_ rfl rfl rfl (n := 3) rfl rfl ?_
        show NewPost s w _ _
        unfold NewPost
        rw [HR1.out, HE.out]
        exact ⟨none, 0, 0, rfl, rfl, Nat.le_refl _, ⟨Rd.nil _ _⟩, ⟨fun ad e => by cases e⟩, stepN⟩
      · have e1 : ((R.2.1 : Int) == 0) = false := by simp [h0]
        have HN0 := Lib.hid h0
        clear h0
        go_wp2_with (first | go_skip | ((with_reducible apply wpl_alloc); intro z wz _ _ _) | ((with_reducible apply (wpl_guard (op := .load _ _))); (exact rfl)) | ((with_reducible apply (wpl_guard (op := .fieldAddr _ _ _))); (exact rfl)) | ((with_reducible apply wpl_loadrow); (exact rfl); infer_instance; infer_instance; (first | (with_reducible assumption) | (with_reducible exact H32.size _) | kernel_rfl)) | ((with_reducible apply wpl_loadcellN); (exact rfl); infer_instance; (exact rfl)) | ((with_reducible apply wpl_storerow); (exact rfl); (exact rfl); infer_instance; infer_instance; (first | (with_reducible assumption) | (with_reducible exact H32.size _) | kernel_rfl); (first | (with_reducible assumption) | (with_reducible exact H32.size _) | kernel_rfl); (first | (with_reducible exact u8s_one _) | (with_reducible assumption) | kernel_rfl); intro ws _ _) | ((with_reducible apply wpl_storecell); (exact rfl); (exact rfl); infer_instance; (exact rfl); (first | (with_reducible assumption) | omega | (focus (simp; done)) | (focus (simp; omega; done)) | decide); intro ws _ _))
        refine ret_row_ rfl rfl rfl (n := 3) rfl rfl ?_
        show NewPost s w _ _
        unfold NewPost
        rw [HR1.out, if_neg HN0.out]
        exact ⟨B, m, d, rfl, HM.out, hmd, inferInstance, hnB, stepN⟩
set_option maxRecDepth 100000 in
theorem newestLow_calls {g p N : Nat} {s : FS} {w : World} (hF : FlashAt w g p N s) (hN : N < 80) :
    Calls Try.prog 43 #[.pointer (some ⟨g, 0, none⟩)] w fun e w' => e = .returned (.tuple #[.agg #[.int .i64 0, .int .i64 0, .slice none 0 0], .int .i64 1]) ∧ Step nowhere w w' := by
  have HF := Lib.hid hF
  have kb0 := run_rec0
  have hN80 : (N : Int) < 80 := by omega
  clear hF
  go_enter Try.func43, Try.ntmps43
  go_wp2_with (first | go_skip | ((with_reducible apply (wpl_alloc (dst := some 2))); intro zo wzo _ _ _) | ((with_reducible apply wpl_alloc); intro z wz _ _ _) | ((with_reducible apply (wpl_guard (op := .load _ _))); (exact rfl)) | ((with_reducible apply (wpl_guard (op := .fieldAddr _ _ _))); (exact rfl)) | ((with_reducible apply wpl_loadrow); (exact rfl); infer_instance; infer_instance; (first | (with_reducible assumption) | (with_reducible exact H32.size _) | kernel_rfl)) | ((with_reducible apply wpl_loadcellN); (exact rfl); infer_instance; (exact rfl)) | ((with_reducible apply wpl_storerow); (exact rfl); (exact rfl); infer_instance; infer_instance; (first | (with_reducible assumption) | (with_reducible exact H32.size _) | kernel_rfl); (first | (with_reducible assumption) | (with_reducible exact H32.size _) | kernel_rfl); (first | (with_reducible exact u8s_one _) | (with_reducible assumption) | kernel_rfl); intro ws _ _) | ((with_reducible apply wpl_storecell); (exact rfl); (exact rfl); infer_instance; (exact rfl); (first | (with_reducible assumption) | omega | (focus (simp; done)) | (focus (simp; omega; done)) | decide); intro ws _ _))
  refine (Len_calls g p N s _ (HF.out.calm (stepN (w0 := w)).chg)).mono ?_
  rintro e w1 ⟨rfl, rfl⟩
  go_wp2_with (first | go_skip | ((with_reducible apply wpl_build); (exact kb0 _)) | ((with_reducible apply wpl_alloc); intro z wz _ _ _) | ((with_reducible apply (wpl_guard (op := .load _ _))); (exact rfl)) | ((with_reducible apply (wpl_guard (op := .fieldAddr _ _ _))); (exact rfl)) | ((with_reducible apply wpl_loadrow); (exact rfl); infer_instance; infer_instance; (first | (with_reducible assumption) | (with_reducible exact H32.size _) | kernel_rfl)) | ((with_reducible apply wpl_loadcellN); (exact rfl); infer_instance; (exact rfl)) | ((with_reducible apply wpl_storerow); (exact rfl); (exact rfl); infer_instance; infer_instance; (first | (with_reducible assumption) | (with_reducible exact H32.size _) | kernel_rfl); (first | (with_reducible assumption) | (with_reducible exact H32.size _) | kernel_rfl); (first | (with_reducible exact u8s_one _) | (with_reducible assumption) | kernel_rfl); intro ws _ _) | ((with_reducible apply wpl_storecell); (exact rfl); (exact rfl); infer_instance; (exact rfl); (first | (with_reducible assumption) | omega | (focus (simp; done)) | (focus (simp; omega; done)) | decide); intro ws _ _))
  exact ret_row_ rfl rfl rfl (n := 3) rfl rfl ⟨rfl, stepN⟩
/-- Load's answer -/
def LoadPost (s : FS) (w : World) (e : Ending) (w' : World) : Prop :=
  ∃ B m d, e = .returned (.tuple #[.slice B m d, .int .i64 ((bestS s).2.1 : Int), .int .i64 (if (bestS s).2.1 = 0 then 9 else 0)]) ∧ (bestS s).2.2.length = m ∧ m ≤ d ∧ HR w' B (bs (bestS s).2.2) ∧ NewA w B ∧ Step nowhere w w'
set_option maxRecDepth 100000 in
theorem load_calls {g p N : Nat} {s : FS} {w : World} (hF : FlashAt w g p N s) (hN : 80 ≤ N) :
    Calls Try.prog 21 #[.pointer (some ⟨g, 0, none⟩)] w (LoadPost s w) := by
  go_enter Try.func21, Try.ntmps21
  go_wp2_with (first | ((with_reducible apply wpl_alloc); intro z wz _ _ _) | ((with_reducible apply wpl_loadrow); (exact rfl); infer_instance; infer_instance; (first | (with_reducible assumption) | (with_reducible exact H32.size _) | kernel_rfl)) | ((with_reducible apply wpl_loadcellN); (exact rfl); infer_instance; (exact rfl)) | ((with_reducible apply wpl_storerow); (exact rfl); (exact rfl); infer_instance; infer_instance; (first | (with_reducible assumption) | (with_reducible exact H32.size _) | kernel_rfl); (first | (with_reducible assumption) | (with_reducible exact H32.size _) | kernel_rfl); (first | (with_reducible exact u8s_one _) | (with_reducible assumption) | kernel_rfl); intro ws _ _) | ((with_reducible apply wpl_storecell); (exact rfl); (exact rfl); infer_instance; (exact rfl); (first | (with_reducible assumption) | omega | (focus (simp; done)) | (focus (simp; omega; done)) | decide); intro ws _ _))
  refine (newest_calls hF hN).mono ?_
  obtain ⟨R, hR⟩ : ∃ R, R = bestS s := ⟨_, rfl⟩
  have HR1 : Hid (bestS s = R) := Lib.hid hR.symm
  obtain ⟨E, hE⟩ : ∃ E : Int, E = if R.2.1 = 0 then 9 else 0 := ⟨_, rfl⟩
  have HE := Lib.hid hE
  unfold NewPost
  rw [← hR, ← hE]
  clear hR hE
  rintro e w1 ⟨B, m, d, rfl, hm, hmd, hB, hnB, _⟩
  go_wp2_with (first | ((with_reducible apply (wpl_alloc (dst := some 5))); intro z5 wz5 _ _ _) | ((with_reducible apply wpl_alloc); intro z wz _ _ _) | ((with_reducible apply wpl_loadrow); (exact rfl); infer_instance; infer_instance; (first | (with_reducible assumption) | (with_reducible exact H32.size _) | kernel_rfl)) | ((with_reducible apply wpl_loadcellN); (exact rfl); infer_instance; (exact rfl)) | ((with_reducible apply wpl_storerow); (exact rfl); (exact rfl); infer_instance; infer_instance; (first | (with_reducible assumption) | (with_reducible exact H32.size _) | kernel_rfl); (first | (with_reducible assumption) | (with_reducible exact H32.size _) | kernel_rfl); (first | (with_reducible exact u8s_one _) | (with_reducible assumption) | kernel_rfl); intro ws _ _) | ((with_reducible apply wpl_storecell); (exact rfl); (exact rfl); infer_instance; (exact rfl); (first | (with_reducible assumption) | omega | (focus (simp; done)) | (focus (simp; omega; done)) | decide); intro ws _ _))
  refine wp_region_N (nowhere) (by kernel_rfl) (fun wd _ _ => ?_)
  refine' takeH (i := 0) (v := _) rfl (by kernel_rfl) (by kernel_rfl) (by kernel_rfl) (fun _ _ _ h => h) (yields_of (by rfl) (fun w' _ => ?_)) inferInstance ?_
  rotate_left
  · (go_simp; try with_reducible rfl)
  try simp only [Act.put, sA]; try simp only [sB, sC]
  refine' takeH (i := 1) (v := _) rfl (by kernel_rfl) (by kernel_rfl) (by kernel_rfl) (fun _ _ _ h => h) (yields_of (by rfl) (fun w' _ => ?_)) inferInstance ?_
  rotate_left
  · (first | ((with_reducible apply ev_loadrow); (exact rfl); infer_instance; infer_instance; (first | (with_reducible assumption) | (with_reducible exact H32.size _) | kernel_rfl)) | ((with_reducible apply (ev_loadhash (t := 52))); (exact rfl); infer_instance; infer_instance; (first | (with_reducible assumption) | omega)) | ((with_reducible apply ev_loadcellN); (exact rfl); infer_instance; infer_instance; (exact rfl)) | ((with_reducible apply (ev_loadint (t := 3))); (exact rfl); infer_instance; infer_instance; (first | (with_reducible assumption) | omega)) | ((with_reducible apply (ev_loadbyte (t := 5))); (exact rfl); infer_instance; infer_instance; (first | (with_reducible assumption) | omega)) | (go_simp; try with_reducible rfl))
  try simp only [Act.put, sA]; try simp only [sB, sC]
  refine' takeH (i := 2) (v := _) rfl (by kernel_rfl) (by kernel_rfl) (by kernel_rfl) (fun _ _ _ h => h) (yields_of (by rfl) (fun w' _ => ?_)) inferInstance ?_
  rotate_left
  · (go_simp; try with_reducible rfl)
  try simp only [Act.put, sA]; try simp only [sB, sC]
  refine' takeH (i := 3) (v := _) rfl (by kernel_rfl) (by kernel_rfl) (by kernel_rfl) (fun _ _ _ h => h) (yields_of (by rfl) (fun w' _ => ?_)) inferInstance ?_
  rotate_left
  · (first | ((with_reducible apply ev_loadrow); (exact rfl); infer_instance; infer_instance; (first | (with_reducible assumption) | (with_reducible exact H32.size _) | kernel_rfl)) | ((with_reducible apply (ev_loadhash (t := 52))); (exact rfl); infer_instance; infer_instance; (first | (with_reducible assumption) | omega)) | ((with_reducible apply ev_loadcellN); (exact rfl); infer_instance; infer_instance; (exact rfl)) | ((with_reducible apply (ev_loadint (t := 3))); (exact rfl); infer_instance; infer_instance; (first | (with_reducible assumption) | omega)) | ((with_reducible apply (ev_loadbyte (t := 5))); (exact rfl); infer_instance; infer_instance; (first | (with_reducible assumption) | omega)) | (go_simp; try with_reducible rfl))
  try simp only [Act.put, sA]; try simp only [sB, sC]
  refine' takeH (i := 4) (v := _) rfl (by kernel_rfl) (by kernel_rfl) (by kernel_rfl) (fun _ _ _ h => h) (yields_of (by rfl) (fun w' _ => ?_)) inferInstance ?_
  rotate_left
  · (go_simp; try with_reducible rfl)
  try simp only [Act.put, sA]; try simp only [sB, sC]
  refine' takeH (i := 5) (v := _) rfl (by kernel_rfl) (by kernel_rfl) (by kernel_rfl) (fun _ _ _ h => h) (yields_of (by rfl) (fun w' _ => ?_)) inferInstance ?_
  rotate_left
  · (go_simp; try with_reducible rfl)
  try simp only [Act.put, sA]; try simp only [sB, sC]
  refine' takeH (i := 6) (v := _) rfl (by kernel_rfl) (by kernel_rfl) (by kernel_rfl) (fun _ _ _ h => h) (yields_of (by rfl) (fun w' _ => ?_)) inferInstance ?_
  rotate_left
  · (go_simp; try with_reducible rfl)
  try simp only [Act.put, sA]; try simp only [sB, sC]
  refine' takeH (i := 7) (v := _) rfl (by kernel_rfl) (by kernel_rfl) (by kernel_rfl) (fun _ _ _ h => h) (yields_of (by rfl) (fun w' _ => ?_)) inferInstance ?_
  rotate_left
  · (go_simp; try with_reducible rfl)
  try simp only [Act.put, sA]; try simp only [sB, sC]
  refine wpAnyH_done (by kernel_rfl) ?_ _
  go_wp2_with (first | ((with_reducible apply wpl_alloc); intro z wz _ _ _) | ((with_reducible apply wpl_loadrow); (exact rfl); infer_instance; infer_instance; (first | (with_reducible assumption) | (with_reducible exact H32.size _) | kernel_rfl)) | ((with_reducible apply wpl_loadcellN); (exact rfl); infer_instance; (exact rfl)) | ((with_reducible apply wpl_storerow); (exact rfl); (exact rfl); infer_instance; infer_instance; (first | (with_reducible assumption) | (with_reducible exact H32.size _) | kernel_rfl); (first | (with_reducible assumption) | (with_reducible exact H32.size _) | kernel_rfl); (first | (with_reducible exact u8s_one _) | (with_reducible assumption) | kernel_rfl); intro ws _ _) | ((with_reducible apply wpl_storecell); (exact rfl); (exact rfl); infer_instance; (exact rfl); (first | (with_reducible assumption) | omega | (focus (simp; done)) | (focus (simp; omega; done)) | decide); intro ws _ _))
  refine bodyPost_ret (results_tmp3 rfl _ _ _) rfl ?_
  show LoadPost s w _ _
  unfold LoadPost
  rw [HR1.out, ← HE.out]
  exact ⟨B, m, d, rfl, hm, hmd, inferInstance, hnB, stepN⟩
end Go.Proofs.Ytegdihpnefoolaa
end
section
open Go Go.RowKit Go.Shelf
namespace Go.Proofs.Ytegdihpnefoolaa
attribute [local go_sem] Oper.semAt_some
def manyC (len : Nat) : Nat := (len + 63) / 64
/-- the piece number x of a row of len bytes at block z -/
def chunkC (len x : Nat) : Nat := (64 * (x : Int) + min 64 ((len - 64 * x : Nat) : Int)).toNat - 64 * x
def chunkV (z len x : Nat) : Value := .slice (some ⟨z, 64 * x, none⟩) (chunkC len x) (chunkC len x)
theorem chunkC_eq (len x : Nat) : chunkC len x = min 64 (len - 64 * x) := by
  unfold chunkC
  omega
theorem range_pre (a b : Nat) (h : a ≤ b) : List.range a <+: List.range b := by
  obtain ⟨c, rfl⟩ : ∃ c, b = a + c := ⟨b - a, by omega⟩
  rw [List.range_add]
  exact List.prefix_append _ _
set_option maxRecDepth 100000 in
set_option maxHeartbeats 2000000 in
theorem chunk1_in (F : Fence) (n : Nat) (h : F.fn 95) (hro : F.round = none) (hn : 1 ≤ n) (l Bs Bn n₀ z len cap B : Nat) (hl : len ≤ 1000000) (hcap : len ≤ cap) (hs : Bs < n₀) (hbn : Bn < n₀) (J Jx : List Nat → World → Prop) (hJ : AbidesFrom B J)
    (hY : ∀ pre x W, J pre W → pre.length < manyC len → YieldAt F (n - 1) Try.prog l #[chunkV z len x] W fun e W' =>
      (e = .returned (.bool true) ∧ J (pre ++ [x]) W' ∧ Below n₀ W W') ∨ (e = .returned (.bool false) ∧ Jx (pre ++ [x]) W'))
    (W : World) (hBs : W.cell? ⟨Bs, 0, none⟩ = some (.slice (some ⟨z, 0, none⟩) len cap)) (hBn : W.cell? ⟨Bn, 0, none⟩ = some (.int .i64 64)) (h0 : J [] W) :
    CallsIn F n Try.prog 95 #[.func (.yield l) #[] #[], .pointer (some ⟨Bs, 0, none⟩), .pointer (some ⟨Bn, 0, none⟩)] W fun e W' => (∃ v, e = .returned v) ∧
      ((∃ ys, ys = List.range (manyC len) ∧ J ys W') ∨ (∃ pre, pre <+: List.range (manyC len) ∧ Jx pre W')) := by
  refine callsIn_of_wp Try.func95 rfl h ?_ hro
  simp only [Try.ntmps95, List.size_toArray, List.length_cons, List.length_nil, Nat.reduceAdd, Nat.reduceSub, Array.replicate_succ, Array.replicate_zero, List.push_toArray, List.append_toArray, List.nil_append, List.cons_append]
  gi_wp2
  gi_loopw [4] (fun i wr => ∃ k : Nat, k ≤ manyC len ∧ i = .int .i64 ((64 * k : Nat) : Int) ∧ J (List.range k) wr ∧ Below n₀ W wr)
    (fun i _ => manyC len + 1 - (intOf i).toNat / 64)
  case atStart => exact ⟨0, Nat.zero_le _, rfl, h0, Below.refl _ _⟩
  case round =>
    obtain ⟨k, hk, rfl, hJs, hnx⟩ := hrel
    have hcs : wr.cell? ⟨Bs, 0, none⟩ = some (.slice (some ⟨z, 0, none⟩) len cap) := (hnx.cell (p := ⟨Bs, 0, none⟩) hs).trans hBs
    have hcn : wr.cell? ⟨Bn, 0, none⟩ = some (.int .i64 64) := (hnx.cell (p := ⟨Bn, 0, none⟩) hbn).trans hBn
    by_cases hlt : 64 * k < len
    · have hltI : ((64 * k : Nat) : Int) < (len : Int) := by omega
      have hkm : k < manyC len := by unfold manyC; omega
      obtain ⟨fn, tmps, assign, body, hy, hR⟩ := hY _ k wr.drew (hJ _ wr wr.drew none hJs ⟨rfl, rfl, rfl, Nat.le_refl _, fun _ _ _ => rfl⟩ (fun r e => by cases e)) (by rw [List.length_range]; exact hkm)
      unfold chunkV chunkC at hy
      gi_wp2
      gi_region
      all_goals gi_wp2
      all_goals
        refine hR.mono ?_
        rintro e W3 (⟨rfl, hJ3, hk3⟩ | ⟨rfl, hJx3⟩)
        · have hcn3 : W3.cell? ⟨Bn, 0, none⟩ = some (.int .i64 64) := (hk3.cell (p := ⟨Bn, 0, none⟩) hbn).trans hcn
          gi_wp2
          go_roundw
          case rel => exact ⟨k + 1, by omega, by go_num, by rw [List.range_succ]; exact hJ3, hnx.drew.trans hk3⟩
          case measure => simp [intOf]; omega
        · gi_wp2
          refine bodyPost_ret (results_none rfl _ _ _) rfl ?_
          exact ⟨⟨_, rfl⟩, .inr ⟨_, (by rw [← List.range_succ]; exact range_pre _ _ (by omega)), hJx3⟩⟩
    · have hltI : ¬ ((64 * k : Nat) : Int) < (len : Int) := by omega
      have hkm : k = manyC len := by unfold manyC at *; omega
      gi_wp2
      go_end0
      exact ⟨⟨_, rfl⟩, .inl (hkm ▸ hJs)⟩
end Go.Proofs.Ytegdihpnefoolaa
end
