/- RoK, FwM -/
import Derived.Test.YthcleccofccbdaaGreatTyRoR
import Derived.Test.YthcleccofccbdaaGreatTyHasW
import Derived.Test.YthcleccofccbdaaGreatTyFwE
import Derived.Test.YthcleccofccbdaaGreatTyWyQ
section
open Go Go.RowKit
namespace Go.Proofs.YthcleccofccbdaaGreat
section
variable {P : Program} {a : Act} {w : World} {dst : Option Tmp} {ty : TypeId} {pos : String} {after : Array Edge} {gd : Option (Nat × Bool)}
theorem ev_loadRQ {t tb : TypeId} {v e : Int} {K : List KR} {x : Operand} {g i : Nat} (hx : a.eval x = .pointer (some ⟨g, 2 + i * 2, none⟩)) (hb : HB w g tb (rtL v e K).toArray) (ht : RowT P t 2) (hk : i < K.length) :
    (execOp a.eval ⟨dst, .load t x, ty, pos, after, gd⟩).run P w = .ok (.value (.agg (RowC.enc (gt K i)).toArray)) w := ev_loadRK hx hb ht hk
end
set_option maxRecDepth 100000 in
set_option maxHeartbeats 1600000 in
theorem sameKeys_calls (a b : KR) {w : World} (ha : KIn w a) (hb : KIn w b) (hm : a.m = b.m) :
    Calls Tryz.prog 51 #[.agg (RowC.enc a).toArray, .agg (RowC.enc b).toArray] w fun e w' => e = .returned (.bool true) ∧ Step nowhere w w' := by
  have HA := Lib.hid ha
  have HB' := Lib.hid hb
  have h1 : a.l = b.l := congrArg Prod.fst hm
  have h2 : a.need = b.need := congrArg Prod.snd hm
  have hd : decide (a.l = b.l) = true := decide_eq_true h1
  have HD := Lib.hid hd
  have hq : (a.need == b.need) = true := by rw [h2]; simp
  have hsa : (RowC.enc a).toArray.size = 2 := rfl
  have hsb : (RowC.enc b).toArray.size = 2 := rfl
  clear ha hb hm h1 h2 hd
  go_enter Tryz.func51, Tryz.ntmps51
  go_wp2_with (first | ((with_reducible apply (wpl_box_agg (dst := some 2))); (exact rfl); intro za wza _ _ _) | ((with_reducible apply (wpl_box_agg (dst := some 3))); (exact rfl); intro zb wzb _ _ _) | ((with_reducible apply (wpl_guard (op := .load _ _))); (exact rfl)) | ((with_reducible apply (wpl_guard (op := .fieldAddr _ _ _))); (exact rfl)) | ((with_reducible apply wpl_loadcellN); (exact rfl); infer_instance; (exact rfl)))
  have hrA : HR wzb a.A (cellsOf a.l) := ⟨HA.out.rd.later (stepN (w0 := w)).chg⟩
  have hrB : HR wzb b.A (cellsOf b.l) := ⟨HB'.out.rd.later (stepN (w0 := w)).chg⟩
  refine (hashes_calls (l := a.l) (m := b.l) HA.out.len HB'.out.len (Nat.le_trans HA.out.le (by decide))).mono ?_
  rw [HD.out]
  rintro e w5 ⟨rfl, _⟩
  go_wp2_with fail
  go_ret
  exact ⟨rfl, stepN⟩
set_option maxRecDepth 100000 in
set_option maxHeartbeats 1600000 in
theorem sameRoot_calls (v e0 : Int) (K L : List KR) (h4 : K.length = 4) (h5 : L.length = 4) {w : World} (hK : ∀ k ∈ K, KIn w k) (hL : ∀ k ∈ L, KIn w k) (hm : K.map KR.m = L.map KR.m) :
    Calls Tryz.prog 18 #[.agg (rtL v e0 K).toArray, .agg (rtL v e0 L).toArray] w fun e w' => e = .returned (.bool true) ∧ Step nowhere w w' := by
  have HK := Lib.hid hK
  have HLL := Lib.hid hL
  have H4 := Lib.hid h4
  have H5 := Lib.hid h5
  have HM := Lib.hid hm
  have hlK := rtL_len v e0 K h4
  have hoK := rtL_one v e0 K
  have hlL := rtL_len v e0 L h5
  have hoL := rtL_one v e0 L
  clear hK hL h4 h5 hm
  go_enter Tryz.func18, Tryz.ntmps18
  go_wp2_with (first | ((with_reducible apply (wpl_box_agg (dst := some 2))); (exact rfl); intro zx wzx _ _ _) | ((with_reducible apply (wpl_box_agg (dst := some 3))); (exact rfl); intro zy wzy _ _ _))
  have hxy : HB wzy zx 45 (rtL v e0 K).toArray := inferInstance
  go_loopw [5] (fun iv wr => ∃ k : Nat, k ≤ 4 ∧ iv = .int .i64 (k : Int) ∧ Step nowhere w wr ∧ HB wr zx 45 (rtL v e0 K).toArray ∧ HB wr zy 45 (rtL v e0 L).toArray) (fun iv _ => 4 - (intOf iv).toNat)
  case atStart => exact ⟨0, Nat.zero_le _, rfl, stepN, hxy, inferInstance⟩
  case round =>
    obtain ⟨k, hk, rfl, st, hx, hy⟩ := hrel
    have nr : Nw w wr := ⟨st.chg⟩
    by_cases hlt : k < 4
    · have hltI : (k : Int) < 4 := by omega
      have hkA : k < K.length := by rw [H4.out]; exact hlt
      have hkB : k < L.length := by rw [H5.out]; exact hlt
      have HKA : Hid (KIn w (gt K k)) := Lib.hid (HK.out _ (gt_mem K k hkA))
      have HKB : Hid (KIn w (gt L k)) := Lib.hid (HLL.out _ (gt_mem L k hkB))
      have HMK : Hid ((gt K k).m = (gt L k).m) := Lib.hid (by
        have h1 := congrArg (fun l => l[k]?) HM.out
        simp only [List.getElem?_map, List.getElem?_eq_getElem hkA, List.getElem?_eq_getElem hkB, Option.map_some, Option.some.injEq] at h1
        simpa [gt, List.getD_eq_getElem?_getD, hkA, hkB] using h1)
      go_wp2_with fail
      refine wp_region_N (nowhere) (by kernel_rfl) (fun wd _ _ => ?_)
      refine' takeH (i := 0) (v := _) rfl (by kernel_rfl) (by kernel_rfl) (by kernel_rfl) (fun _ _ _ h => h) (yields_of (by rfl) (fun w' _ => ?_)) inferInstance ?_
      rotate_left
      · (go_simp; try with_reducible rfl)
      try simp only [Act.put, sA]; try simp only [sB, sC]
      refine' takeH (i := 1) (v := _) rfl (by kernel_rfl) (by kernel_rfl) (by kernel_rfl) (fun _ _ _ h => h) (yields_of (by rfl) (fun w' _ => ?_)) inferInstance ?_
      rotate_left
      · (go_simp; try with_reducible rfl)
      try simp only [Act.put, sA]; try simp only [sB, sC]
      refine' takeH (i := 2) (v := _) rfl (by kernel_rfl) (by kernel_rfl) (by kernel_rfl) (fun _ _ _ h => h) (yields_of (by rfl) (fun w' _ => ?_)) inferInstance ?_
      rotate_left
      · ((with_reducible apply (ev_indexRK (i := k) (m := 4))); (exact rfl); (exact rfl); (exact Tryz.underlying43); (kernel_rfl); (exact hlt))
      try simp only [Act.put, sA]; try simp only [sB, sC]
      refine' takeH (i := 3) (v := _) rfl (by kernel_rfl) (by kernel_rfl) (by kernel_rfl) (fun _ _ _ h => h) (yields_of (by rfl) (fun w' _ => ?_)) inferInstance ?_
      rotate_left
      · ((with_reducible apply (ev_loadRQ (i := k) (v := v) (e := e0) (K := K))); (exact rfl); infer_instance; infer_instance; (exact hkA))
      try simp only [Act.put, sA]; try simp only [sB, sC]
      refine' takeH (i := 4) (v := _) rfl (by kernel_rfl) (by kernel_rfl) (by kernel_rfl) (fun _ _ _ h => h) (yields_of (by rfl) (fun w' _ => ?_)) inferInstance ?_
      rotate_left
      · (go_simp; try with_reducible rfl)
      try simp only [Act.put, sA]; try simp only [sB, sC]
      refine' takeH (i := 5) (v := _) rfl (by kernel_rfl) (by kernel_rfl) (by kernel_rfl) (fun _ _ _ h => h) (yields_of (by rfl) (fun w' _ => ?_)) inferInstance ?_
      rotate_left
      · (go_simp; try with_reducible rfl)
      try simp only [Act.put, sA]; try simp only [sB, sC]
      refine' takeH (i := 6) (v := _) rfl (by kernel_rfl) (by kernel_rfl) (by kernel_rfl) (fun _ _ _ h => h) (yields_of (by rfl) (fun w' _ => ?_)) inferInstance ?_
      rotate_left
      · ((with_reducible apply (ev_indexRK (i := k) (m := 4))); (exact rfl); (exact rfl); (exact Tryz.underlying43); (kernel_rfl); (exact hlt))
      try simp only [Act.put, sA]; try simp only [sB, sC]
      refine' takeH (i := 7) (v := _) rfl (by kernel_rfl) (by kernel_rfl) (by kernel_rfl) (fun _ _ _ h => h) (yields_of (by rfl) (fun w' _ => ?_)) inferInstance ?_
      rotate_left
      · ((with_reducible apply (ev_loadRQ (i := k) (v := v) (e := e0) (K := L))); (exact rfl); infer_instance; infer_instance; (exact hkB))
      try simp only [Act.put, sA]; try simp only [sB, sC]
      refine goH (i := 8) (by kernel_rfl) rfl (fun K_ hK_ => ?_)
      go_simp
      refine (sameKeys_calls (gt K k) (gt L k) (KIn.chg HKA.out (nr.out.trans (stepN (w0 := wr)).chg (fun _ _ h => h)) (fun _ _ h => h)) (KIn.chg HKB.out (nr.out.trans (stepN (w0 := wr)).chg (fun _ _ h => h)) (fun _ _ h => h)) HMK.out).mono ?_
      rintro e w5 ⟨rfl, _⟩
      refine hK_.out _ _ inferInstance (fun _ => ?_)
      clear hK_ K_
      try simp only [Act.put, sA]; try simp only [sB, sC]
      refine' takeH (i := 9) (v := _) rfl (by kernel_rfl) (by kernel_rfl) (by kernel_rfl) (fun _ _ _ h => h) (yields_of (by rfl) (fun w' _ => ?_)) inferInstance ?_
      rotate_left
      · (go_simp; try with_reducible rfl)
      try simp only [Act.put, sA]; try simp only [sB, sC]
      refine wpAnyH_done (by kernel_rfl) ?_ _
      go_wp2_with fail
      exact ⟨⟨k + 1, by omega, by go_num, stepN, inferInstance, inferInstance⟩, by simp [intOf]; omega⟩
    · have hltI : ¬ (k : Int) < 4 := by omega
      have q1 : (v == v) = true := by simp
      have q2 : (e0 == e0) = true := by simp
      go_wp2_with (first | ((with_reducible apply (wpl_guard (op := .load _ _))); (exact rfl)) | ((with_reducible apply (wpl_guard (op := .fieldAddr _ _ _))); (exact rfl)) | ((with_reducible apply wpl_loadcellN); (exact rfl); infer_instance; (exact rfl)))
      go_ret
      exact ⟨rfl, stepN⟩
def sumK (K : List KR) : Nat := (K.map (·.n)).sum
theorem sumK_take (K : List KR) (k : Nat) (h : k < K.length) : sumK (K.take (k + 1)) = sumK (K.take k) + (gt K k).n := by
  unfold sumK
  rw [← List.take_append_getElem h, List.map_append, List.sum_append]
  simp [gt, List.getD_eq_getElem?_getD, h]
theorem sumK_mem (K : List KR) : ∀ k ∈ K, k.n ≤ sumK K := by
  induction K with
  | nil => intro k hk; cases hk
  | cons a K ih =>
    intro k hk
    have e : sumK (a :: K) = a.n + sumK K := by simp [sumK]
    rw [e]
    rcases List.mem_cons.1 hk with rfl | h
    · omega
    · have := ih k h; omega
theorem keyN (k : KR) : nth (RowC.enc k) 0 = some (.slice k.A k.n k.c) := rfl
set_option maxRecDepth 100000 in
set_option maxHeartbeats 1600000 in
theorem many_calls {A : Option Addr} {c : Nat} {K : List KR} {w : World} [hr : HR w A (cellsOf K)] (h4 : K.length = 4) (hK : ∀ k ∈ K, k.n ≤ 4398046511104) :
    Calls Tryz.prog 13 #[.slice A 4 c] w fun e w' => e = .returned (.bool (decide (60 < sumK K))) ∧ Step nowhere w w' := by
  have H4 := Lib.hid h4
  have HK := Lib.hid hK
  obtain ⟨R, hR⟩ : ∃ R, R = decide (60 < sumK K) := ⟨_, rfl⟩
  have HRR := Lib.hid hR
  rw [← hR]
  clear hK hR
  go_enter Tryz.func13, Tryz.ntmps13
  go_wp2_with fail
  go_loopw [3, 4] (fun sv iv wr => ∃ k : Nat, k ≤ 4 ∧ iv = .int .i64 (k : Int) ∧ ∃ m : Nat, sv = .int .i64 (m : Int) ∧ Hid (m = sumK (K.take k)) ∧ m ≤ 4398046511104 * k ∧ Step nowhere w wr) (fun _ iv _ => 4 - (intOf iv).toNat)
  case atStart => exact ⟨0, Nat.zero_le _, rfl, 0, rfl, Lib.hid rfl, Nat.zero_le _, stepN⟩
  case round =>
    obtain ⟨k, hk, rfl, m, rfl, HS, hml, st⟩ := hrel
    by_cases hlt : k < 4
    · have hltI : (k : Int) < 4 := by omega
      have hkl : k < K.length := by omega
      have hkn := HK.out _ (gt_mem K k hkl)
      have HS2 : Hid (m + (gt K k).n = sumK (K.take (k + 1))) := Lib.hid (by rw [sumK_take K k hkl, HS.out])
      go_wp2_with (first | ((with_reducible apply (wpl_loadF (α := KR) (k := k) (j := 0) (s := 2))); infer_instance; (exact rfl); infer_instance; (exact rfl); (exact hkl); (exact keyN _)) | ((with_reducible apply (wpl_indexE (α := KR) (t := 106))); (exact rfl); (exact rfl); infer_instance; infer_instance; (first | (with_reducible assumption) | omega | (focus (simp; done)) | (focus (simp; omega; done)) | decide); (exact rfl); (decide); (first | (with_reducible assumption) | omega | (focus (simp; done)) | (focus (simp; omega; done)) | decide)) | ((with_reducible apply (wpl_fieldE (t := 42))); (exact Tryz.underlying42); (exact rfl); (kernel_rfl); (exact rfl); infer_instance; (exact cells_pos (by decide) (by omega))))
      exact ⟨⟨k + 1, by omega, by go_num, m + (gt K k).n, by go_num, HS2, by omega, stepN⟩, by simp [intOf]; omega⟩
    · have hltI : ¬ (k : Int) < 4 := by omega
      have hk4 : k = 4 := by omega
      have hfin : Hid (R = decide (60 < m)) := Lib.hid (by
        have h1 := HS.out
        rw [List.take_of_length_le (by omega)] at h1
        rw [HRR.out, h1])
      clear hk4
      by_cases hm : 60 < m
      · have hmI : 60 < (m : Int) := by omega
        have HF : Hid (R = true) := Lib.hid (by rw [hfin.out, decide_eq_true hm])
        clear hm
        go_wp2_with fail
        go_ret
        rw [HF.out]
        exact ⟨rfl, stepN⟩
      · have hmI : ¬ 60 < (m : Int) := by omega
        have HF : Hid (R = false) := Lib.hid (by rw [hfin.out, decide_eq_false hm])
        clear hm
        go_wp2_with fail
        go_ret
        rw [HF.out]
        exact ⟨rfl, stepN⟩
end Go.Proofs.YthcleccofccbdaaGreat
end
section
open Go Go.RowKit
namespace Go.Proofs.YthcleccofccbdaaGreat
def tgBe (a b : TargetR) : Bool := ((strL a.l).toList == (strL b.l).toList) && ((a.size == b.size) && (decide (a.sum = b.sum) && (((strL a.hw).toList == (strL b.hw).toList) && ((a.ctr == b.ctr) && ((strL a.ecu).toList == (strL b.ecu).toList)))))
theorem tg_sumT (a : TargetR) : (((RowC.enc a).toArray.toList.drop 2).take 32) = (u8s a.sum.l).toList := by
  show ((RowC.enc a).drop 2).take 32 = _
  rw [tgc_sum]
  simp [u8s]
set_option maxRecDepth 100000 in
set_option maxHeartbeats 1600000 in
theorem neqTarget (a b : TargetR) (w : World) : (binOp .neq 83 (.agg (RowC.enc a).toArray) (.agg (RowC.enc b).toArray)).run Tryz.prog w = .ok (.bool (!tgBe a b)) w := by
  rw [run_neq_struct]
  have key : (Op.equalIn (9999 + 1) 83 (.agg (RowC.enc a).toArray) (.agg (RowC.enc b).toArray)).run Tryz.prog w = .ok (tgBe a b) w := by
    rw [run_equalIn_struct w 9999 83 _ _ (by kernel_rfl) (by kernel_rfl)]
    rw [Program.fieldsOf, Tryz.underlying83]
    unfold tgBe
    refine eqFW_cons (by decide) (partW_cell (t := 9) (tgc_0 _) w) (partW_cell (t := 9) (tgc_0 _) w) (run_equalIn_string w 9998 9 _ _ Tryz.underlying9) ?_
    refine eqFW_cons (by decide) (partW_cell (t := 3) (tgc_1 _) w) (partW_cell (t := 3) (tgc_1 _) w) (run_equalIn_int w 9998 3 _ _ _ _ Tryz.underlying3) ?_
    refine eqFW_cons (by decide) (partW_row (t := 47) (n := 32) (tg_sumT a) w) (partW_row (t := 47) (n := 32) (tg_sumT b) w) ?_ ?_
    · rw [← beq_hashW]
      exact run_equalIn_bytes (P := Tryz.prog) w 9997 47 5 32 Tryz.underlying47 Tryz.underlying5 Tryz.sizeOf5 a.sum.l b.sum.l a.sum.len b.sum.len
    refine eqFW_cons (by decide) (partW_cell (t := 9) (tgc_34 _) w) (partW_cell (t := 9) (tgc_34 _) w) (run_equalIn_string w 9998 9 _ _ Tryz.underlying9) ?_
    refine eqFW_cons (by decide) (partW_cell (t := 3) (tgc_35 _) w) (partW_cell (t := 3) (tgc_35 _) w) (run_equalIn_int w 9998 3 _ _ _ _ Tryz.underlying3) ?_
    rw [← Bool.and_true ((strL a.ecu).toList == (strL b.ecu).toList)]
    refine eqFW_cons (by decide) (partW_cell (t := 9) (tgc_36 _) w) (partW_cell (t := 9) (tgc_36 _) w) (run_equalIn_string w 9998 9 _ _ Tryz.underlying9) ?_
    rfl
  show ((Op.equalIn 10000 83 (.agg (RowC.enc a).toArray) (.agg (RowC.enc b).toArray)).run Tryz.prog w).andThen _ = _
  rw [show (Op.equalIn 10000 83 (.agg (RowC.enc a).toArray) (.agg (RowC.enc b).toArray)).run Tryz.prog w = .ok (tgBe a b) w from key]
  rfl
theorem tgBe_self (a : TargetR) : tgBe a a = true := by simp [tgBe]
set_option maxRecDepth 100000 in
set_option maxHeartbeats 3200000 in
theorem sameList_calls {A B : Option Addr} {n c c2 : Nat} {P : List TargetR} {w : World} [hr : HR w A (cellsOf P)] [hr2 : HR w B (cellsOf P)] (hl : P.length = n) (hm : n ≤ 1000000000) :
    Calls Tryz.prog 50 #[.slice A n c, .slice B n c2] w fun e w' => e = .returned (.bool true) ∧ Step nowhere w w' := by
  have hnq : ∀ (a : TargetR) (w : World), (binOp .neq 83 (.agg (RowC.enc a).toArray) (.agg (RowC.enc a).toArray)).run Tryz.prog w = .ok (.bool false) w := fun a w => by rw [neqTarget, tgBe_self]; rfl
  have q3 : ((n : Int) != (n : Int)) = false := by simp
  go_enter Tryz.func50, Tryz.ntmps50
  go_wp2_with fail
  go_loopw [5] (fun iv wr => ∃ k : Nat, k ≤ n ∧ iv = .int .i64 (k : Int) ∧ Step nowhere w wr) (fun iv _ => n - (intOf iv).toNat)
  case atStart => exact ⟨0, Nat.zero_le _, rfl, stepN⟩
  case round =>
    obtain ⟨k, hk, rfl, st⟩ := hrel
    have nr : Nw w wr := ⟨st.chg⟩
    have hra : HR wr A (cellsOf P) := inferInstance
    have hrb : HR wr B (cellsOf P) := inferInstance
    by_cases hlt : k < n
    · have hltI : (k : Int) < n := by omega
      have hkl : k < P.length := by omega
      go_wp2_with fail
      refine wp_region_N (nowhere) (by kernel_rfl) (fun wd _ _ => ?_)
      refine' takeH (i := 0) (v := _) rfl (by kernel_rfl) (by kernel_rfl) (by kernel_rfl) (fun _ _ _ h => h) (yields_of (by rfl) (fun w' _ => ?_)) inferInstance ?_
      rotate_left
      · (go_simp; try with_reducible rfl)
      try simp only [Act.put, sA]; try simp only [sB, sC]
      refine' takeH (i := 1) (v := _) rfl (by kernel_rfl) (by kernel_rfl) (by kernel_rfl) (fun _ _ _ h => h) (yields_of (by rfl) (fun w' _ => ?_)) inferInstance ?_
      rotate_left
      · (go_simp; try with_reducible rfl)
      try simp only [Act.put, sA]; try simp only [sB, sC]
      refine' takeH (i := 2) (v := _) rfl (by kernel_rfl) (by kernel_rfl) (by kernel_rfl) (fun _ _ _ h => h) (yields_of (by rfl) (fun w' _ => ?_)) inferInstance ?_
      rotate_left
      · ((with_reducible apply (ev_indexE (α := TargetR) (t := 22))); (exact rfl); (exact rfl); infer_instance; infer_instance; (first | (with_reducible assumption) | omega | (focus (simp; done)) | (focus (simp; omega; done)) | decide); (exact rfl); (decide); (first | (with_reducible assumption) | omega | (focus (simp; done)) | (focus (simp; omega; done)) | decide))
      try simp only [Act.put, sA]; try simp only [sB, sC]
      refine' takeH (i := 3) (v := _) rfl (by kernel_rfl) (by kernel_rfl) (by kernel_rfl) (fun _ _ _ h => h) (yields_of (by rfl) (fun w' _ => ?_)) inferInstance ?_
      rotate_left
      · ((with_reducible apply (ev_loadE (α := TargetR) (t := 83))); infer_instance; (exact rfl); infer_instance; (exact rfl); (decide); (first | (with_reducible assumption) | omega | (focus (simp; done)) | (focus (simp; omega; done)) | decide))
      try simp only [Act.put, sA]; try simp only [sB, sC]
      refine' takeH (i := 4) (v := _) rfl (by kernel_rfl) (by kernel_rfl) (by kernel_rfl) (fun _ _ _ h => h) (yields_of (by rfl) (fun w' _ => ?_)) inferInstance ?_
      rotate_left
      · (go_simp; try with_reducible rfl)
      try simp only [Act.put, sA]; try simp only [sB, sC]
      refine' takeH (i := 5) (v := _) rfl (by kernel_rfl) (by kernel_rfl) (by kernel_rfl) (fun _ _ _ h => h) (yields_of (by rfl) (fun w' _ => ?_)) inferInstance ?_
      rotate_left
      · (go_simp; try with_reducible rfl)
      try simp only [Act.put, sA]; try simp only [sB, sC]
      refine' takeH (i := 6) (v := _) rfl (by kernel_rfl) (by kernel_rfl) (by kernel_rfl) (fun _ _ _ h => h) (yields_of (by rfl) (fun w' _ => ?_)) inferInstance ?_
      rotate_left
      · ((with_reducible apply (ev_indexE (α := TargetR) (t := 22))); (exact rfl); (exact rfl); infer_instance; infer_instance; (first | (with_reducible assumption) | omega | (focus (simp; done)) | (focus (simp; omega; done)) | decide); (exact rfl); (decide); (first | (with_reducible assumption) | omega | (focus (simp; done)) | (focus (simp; omega; done)) | decide))
      try simp only [Act.put, sA]; try simp only [sB, sC]
      refine' takeH (i := 7) (v := _) rfl (by kernel_rfl) (by kernel_rfl) (by kernel_rfl) (fun _ _ _ h => h) (yields_of (by rfl) (fun w' _ => ?_)) inferInstance ?_
      rotate_left
      · ((with_reducible apply (ev_loadE (α := TargetR) (t := 83))); infer_instance; (exact rfl); infer_instance; (exact rfl); (decide); (first | (with_reducible assumption) | omega | (focus (simp; done)) | (focus (simp; omega; done)) | decide))
      try simp only [Act.put, sA]; try simp only [sB, sC]
      refine' takeH (i := 8) (v := _) rfl (by kernel_rfl) (by kernel_rfl) (by kernel_rfl) (fun _ _ _ h => h) (yields_of (by rfl) (fun w' _ => ?_)) inferInstance ?_
      rotate_left
      · (go_simp; try with_reducible rfl)
      try simp only [Act.put, sA]; try simp only [sB, sC]
      refine wpAnyH_done (by kernel_rfl) ?_ _
      go_wp2_with fail
      exact ⟨⟨k + 1, by omega, by go_num, stepN⟩, by simp [intOf]; omega⟩
    · have hltI : ¬ (k : Int) < n := by omega
      go_wp2_with fail
      go_ret
      exact ⟨rfl, stepN⟩
end Go.Proofs.YthcleccofccbdaaGreat
end
