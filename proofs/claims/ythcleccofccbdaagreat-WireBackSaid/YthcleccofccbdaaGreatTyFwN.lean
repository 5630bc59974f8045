/- FwN -/
import Derived.Test.YthcleccofccbdaaGreatTyFwM
import Derived.Test.YthcleccofccbdaaGreatTyFwA
import Derived.Test.YthcleccofccbdaaGreatTyTgM
open Go Go.RowKit
namespace Go.Proofs.YthcleccofccbdaaGreat
set_option maxRecDepth 100000 in
set_option maxHeartbeats 3200000 in
theorem sameTargets_calls (nm : List UInt8) (v e0 : Int) {A B C E : Option Addr} {n c c2 m d d2 : Nat} {P : List TargetR} {D F : List DeleR} {w : World} [hr : HR w A (cellsOf P)] [hr2 : HR w B (cellsOf P)] [hq : HR w C (cellsOf D)] [hq2 : HR w E (cellsOf F)] (hl : P.length = n) (hm : n ≤ 1000000000) (hd : D.length = m) (hf : F.length = m) (hm2 : m ≤ 1000000000) (hD : ∀ x ∈ D, DIn w x) (hF : ∀ x ∈ F, DIn w x) (hDF : D.map DeleR.m = F.map DeleR.m) :
    Calls Tryz.prog 11 #[.agg #[.string (strL nm), .int .i64 v, .int .i64 e0, .slice A n c, .slice C m d], .agg #[.string (strL nm), .int .i64 v, .int .i64 e0, .slice B n c2, .slice E m d2]] w fun e w' => e = .returned (.bool true) ∧ Step nowhere w w' := by
  have HQ := Lib.hid hq.out
  have HQ2 := Lib.hid hq2.out
  have HD := Lib.hid hd
  have HF' := Lib.hid hf
  have HDI := Lib.hid hD
  have HFI := Lib.hid hF
  have HDF := Lib.hid hDF
  have q0 : ((strL nm).toList == (strL nm).toList) = true := by simp
  have q1 : (v != v) = false := by simp
  have q2 : (e0 != e0) = false := by simp
  have q3 : ((m : Int) != (m : Int)) = false := by simp
  clear hd hf hD hF hDF
  go_enter Tryz.func11, Tryz.ntmps11
  go_wp2_with (first | ((with_reducible apply (wpl_guard (op := .load _ _))); (exact rfl)) | ((with_reducible apply (wpl_box_agg (dst := some 2))); (exact rfl); intro za wza _ _ _) | ((with_reducible apply (wpl_box_agg (dst := some 3))); (exact rfl); intro zb wzb _ _ _) | ((with_reducible apply (wpl_guard (op := .fieldAddr _ _ _))); (exact rfl)) | ((with_reducible apply wpl_loadcellN); (exact rfl); infer_instance; (exact rfl)))
  refine (sameList_calls (P := P) hl hm).mono ?_
  rintro e w5 ⟨rfl, _⟩
  have hza5 : HB w5 za 25 #[.string (strL nm), .int .i64 v, .int .i64 e0, .slice A n c, .slice C m d] := inferInstance
  have hzb5 : HB w5 zb 25 #[.string (strL nm), .int .i64 v, .int .i64 e0, .slice B n c2, .slice E m d2] := inferInstance
  have st5 : Step nowhere w w5 := stepN
  go_wp2_with (first | ((with_reducible apply (wpl_guard (op := .load _ _))); (exact rfl)) | ((with_reducible apply (wpl_guard (op := .call _))); (exact rfl)) | ((with_reducible apply (wpl_guard (op := .fieldAddr _ _ _))); (exact rfl)) | ((with_reducible apply wpl_loadcellN); (exact rfl); infer_instance; (exact rfl)))
  go_loopw [5] (fun iv wr => ∃ k : Nat, k ≤ m ∧ iv = .int .i64 (k : Int) ∧ Step nowhere w wr ∧ HB wr za 25 #[.string (strL nm), .int .i64 v, .int .i64 e0, .slice A n c, .slice C m d] ∧ HB wr zb 25 #[.string (strL nm), .int .i64 v, .int .i64 e0, .slice B n c2, .slice E m d2]) (fun iv _ => m - (intOf iv).toNat)
  case atStart => exact ⟨0, Nat.zero_le _, rfl, st5, hza5, hzb5⟩
  case round =>
    clear st5 hza5 hzb5
    obtain ⟨k, hk, rfl, st, hx, hy⟩ := hrel
    have nr : Nw w wr := ⟨st.chg⟩
    have hqa : HR wr C (cellsOf D) := ⟨HQ.out.later st.chg⟩
    have hqb : HR wr E (cellsOf F) := ⟨HQ2.out.later st.chg⟩
    have hd : D.length = m := HD.out
    have hf : F.length = m := HF'.out
    by_cases hlt : k < m
    · have hltI : (k : Int) < m := by omega
      have hkl : k < D.length := by omega
      have hkf : k < F.length := by omega
      have HDK := Lib.hid (HDI.out _ (gt_mem D k hkl))
      have HFK := Lib.hid (HFI.out _ (gt_mem F k hkf))
      have hmk : (gt D k).m = (gt F k).m := by
        have h1 := congrArg (fun l => l[k]?) HDF.out
        simp only [List.getElem?_map, List.getElem?_eq_getElem hkl, List.getElem?_eq_getElem hkf, Option.map_some, Option.some.injEq] at h1
        simpa [gt, List.getD_eq_getElem?_getD, hkl, hkf] using h1
      have HMK := Lib.hid hmk
      have e1 : (gt F k).l = (gt D k).l := (congrArg (fun x : DlM => x.1) hmk).symm
      have e2 : (gt D k).k.m = (gt F k).k.m := congrArg (fun x : DlM => x.2.1) hmk
      have e3 : (gt F k).pre = (gt D k).pre := (congrArg (fun x : DlM => x.2.2.1) hmk).symm
      have e4 : (gt F k).last = (gt D k).last := (congrArg (fun x : DlM => x.2.2.2) hmk).symm
      have p1 : ((strL (gt D k).l).toList == (strL (gt F k).l).toList) = true := by rw [e1]; simp
      have p3 : ((strL (gt D k).pre).toList == (strL (gt F k).pre).toList) = true := by rw [e3]; simp
      have p4 : ((gt D k).last == (gt F k).last) = true := by rw [e4]; simp
      have HE2 := Lib.hid e2
      have hsa : (RowC.enc (gt D k)).toArray.size = 5 := rfl
      have hoa := enc_one (gt D k)
      have hsb : (RowC.enc (gt F k)).toArray.size = 5 := rfl
      have hob := enc_one (gt F k)
      clear e1 e2 e3 e4 hmk
      go_wp2_with (first | ((with_reducible apply wpl_loadcellN); (exact rfl); infer_instance; (exact rfl)))
      refine wp_region_N (nowhere) (by kernel_rfl) (fun wd _ _ => ?_)
      refine' takeH (i := 0) (v := _) rfl (by kernel_rfl) (by kernel_rfl) (by kernel_rfl) (fun _ _ _ h => h) (yields_of (by rfl) (fun w' _ => ?_)) inferInstance ?_
      rotate_left
      · (go_simp; try with_reducible rfl)
      try simp only [Act.put, sA]; try simp only [sB, sC]
      refine' takeH (i := 1) (v := _) rfl (by kernel_rfl) (by kernel_rfl) (by kernel_rfl) (fun _ _ _ h => h) (yields_of (by rfl) (fun w' _ => ?_)) inferInstance ?_
      rotate_left
      · ((with_reducible apply ev_loadcellN); (exact rfl); infer_instance; infer_instance; (exact rfl))
      try simp only [Act.put, sA]; try simp only [sB, sC]
      refine' takeH (i := 2) (v := _) rfl (by kernel_rfl) (by kernel_rfl) (by kernel_rfl) (fun _ _ _ h => h) (yields_of (by rfl) (fun w' _ => ?_)) inferInstance ?_
      rotate_left
      · (go_simp; try with_reducible rfl)
      try simp only [Act.put, sA]; try simp only [sB, sC]
      refine' takeH (i := 3) (v := _) rfl (by kernel_rfl) (by kernel_rfl) (by kernel_rfl) (fun _ _ _ h => h) (yields_of (by rfl) (fun w' _ => ?_)) inferInstance ?_
      rotate_left
      · ((with_reducible apply (ev_indexE (α := DeleR) (t := 23))); (exact rfl); (exact rfl); infer_instance; infer_instance; (first | (with_reducible assumption) | omega | (focus (simp; done)) | (focus (simp; omega; done)) | decide); (exact rfl); (decide); (first | (with_reducible assumption) | omega | (focus (simp; done)) | (focus (simp; omega; done)) | decide))
      try simp only [Act.put, sA]; try simp only [sB, sC]
      refine' takeH (i := 4) (v := _) rfl (by kernel_rfl) (by kernel_rfl) (by kernel_rfl) (fun _ _ _ h => h) (yields_of (by rfl) (fun w' _ => ?_)) inferInstance ?_
      rotate_left
      · ((with_reducible apply (ev_loadE (α := DeleR) (t := 85))); infer_instance; (exact rfl); infer_instance; (exact rfl); (decide); (first | (with_reducible assumption) | omega | (focus (simp; done)) | (focus (simp; omega; done)) | decide))
      try simp only [Act.put, sA]; try simp only [sB, sC]
      refine' takeH (i := 5) (v := _) rfl (by kernel_rfl) (by kernel_rfl) (by kernel_rfl) (fun _ _ _ h => h) (yields_of (by rfl) (fun w' _ => ?_)) inferInstance ?_
      rotate_left
      · (go_simp; try with_reducible rfl)
      try simp only [Act.put, sA]; try simp only [sB, sC]
      refine' takeH (i := 6) (v := _) rfl (by kernel_rfl) (by kernel_rfl) (by kernel_rfl) (fun _ _ _ h => h) (yields_of (by rfl) (fun w' _ => ?_)) inferInstance ?_
      rotate_left
      · ((with_reducible apply ev_loadcellN); (exact rfl); infer_instance; infer_instance; (exact rfl))
      try simp only [Act.put, sA]; try simp only [sB, sC]
      refine' takeH (i := 7) (v := _) rfl (by kernel_rfl) (by kernel_rfl) (by kernel_rfl) (fun _ _ _ h => h) (yields_of (by rfl) (fun w' _ => ?_)) inferInstance ?_
      rotate_left
      · (go_simp; try with_reducible rfl)
      try simp only [Act.put, sA]; try simp only [sB, sC]
      refine' takeH (i := 8) (v := _) rfl (by kernel_rfl) (by kernel_rfl) (by kernel_rfl) (fun _ _ _ h => h) (yields_of (by rfl) (fun w' _ => ?_)) inferInstance ?_
      rotate_left
      · ((with_reducible apply (ev_indexE (α := DeleR) (t := 23))); (exact rfl); (exact rfl); infer_instance; infer_instance; (first | (with_reducible assumption) | omega | (focus (simp; done)) | (focus (simp; omega; done)) | decide); (exact rfl); (decide); (first | (with_reducible assumption) | omega | (focus (simp; done)) | (focus (simp; omega; done)) | decide))
      try simp only [Act.put, sA]; try simp only [sB, sC]
      refine' takeH (i := 9) (v := _) rfl (by kernel_rfl) (by kernel_rfl) (by kernel_rfl) (fun _ _ _ h => h) (yields_of (by rfl) (fun w' _ => ?_)) inferInstance ?_
      rotate_left
      · ((with_reducible apply (ev_loadE (α := DeleR) (t := 85))); infer_instance; (exact rfl); infer_instance; (exact rfl); (decide); (first | (with_reducible assumption) | omega | (focus (simp; done)) | (focus (simp; omega; done)) | decide))
      try simp only [Act.put, sA]; try simp only [sB, sC]
      refine wpAnyH_ready (rs := [10, 11]) (by kernel_rfl) (by simp) (AllReadyH.cons rfl (fun K_ hK_ => ?_) (AllReadyH.cons rfl (fun K_ hK_ => ?_) AllReadyH.nil))
      focus
        rw [if_pos (by kernel_rfl)]
        refine wpr_of_list ?_
        (first | ((with_reducible apply (wpl_alloc (dst := some 6))); intro z6 wz6 _ _ _) | ((with_reducible apply (wpl_alloc (dst := some 7))); intro z7 wz7 _ _ _) | ((with_reducible apply wpl_alloc); intro z wz _ _ _))
        refine wpList_nil ?_
        unfold onlyN
        refine hK_.out _ _ inferInstance (fun _ => ?_)
        clear hK_ K_
        try simp only [Act.put, sA]; try simp only [sB, sC]
        refine goH (i := 11) (by kernel_rfl) rfl (fun K_ hK_ => ?_)
        rw [if_pos (by kernel_rfl)]
        refine wpr_of_list ?_
        (first | ((with_reducible apply (wpl_alloc (dst := some 6))); intro z6 wz6 _ _ _) | ((with_reducible apply (wpl_alloc (dst := some 7))); intro z7 wz7 _ _ _) | ((with_reducible apply wpl_alloc); intro z wz _ _ _))
        refine wpList_nil ?_
        unfold onlyN
        refine hK_.out _ _ inferInstance (fun _ => ?_)
        clear hK_ K_
        try simp only [Act.put, sA]; try simp only [sB, sC]
        refine goH (i := 12) (by kernel_rfl) rfl (fun K_ hK_ => ?_)
        rw [if_pos (by kernel_rfl)]
        refine wpr_of_list ?_
        (first | ((with_reducible apply wpl_storerow); (exact rfl); (exact rfl); infer_instance; infer_instance; (first | (with_reducible assumption) | (with_reducible exact H32.size _) | (with_reducible exact enc_sz _ rfl) | kernel_rfl); (first | (with_reducible assumption) | (with_reducible exact H32.size _) | (with_reducible exact enc_sz _ rfl) | kernel_rfl); (first | (with_reducible exact u8s_one _) | (with_reducible assumption) | (with_reducible exact enc_one _) | kernel_rfl); intro ws _ _) | ((with_reducible apply wpl_storecell); (exact rfl); (exact rfl); infer_instance; (exact rfl); (first | (with_reducible assumption) | omega | (focus (simp; done)) | (focus (simp; omega; done)) | decide); intro ws _ _) | ((with_reducible apply (wpl_storehash (t := 47))); (exact rfl); (exact rfl); infer_instance; infer_instance; (first | (with_reducible assumption) | omega | (focus (simp; done)) | (focus (simp; omega; done)) | decide); intro ws _ _) | ((with_reducible apply (wpl_storebyteH (t := 5))); (exact rfl); (exact rfl); infer_instance; (first | (with_reducible assumption) | omega); (first | (with_reducible assumption) | omega); (first | (constructor <;> omega) | exact xor_u8_in _ _); intro ws _ _) | ((with_reducible apply (wpl_storeint (t := 3))); (exact rfl); (exact rfl); infer_instance; (first | (with_reducible assumption) | omega); intro ws _ _) | ((with_reducible apply (wpl_storebyte (t := 5))); (exact rfl); (exact rfl); infer_instance; (first | (with_reducible assumption) | omega | (focus (simp; done)) | (focus (simp; omega; done)) | decide); (constructor <;> omega); intro ws _ _))
        refine wpList_nil ?_
        unfold onlyN
        refine hK_.out _ _ inferInstance (fun _ => ?_)
        clear hK_ K_
        try simp only [Act.put]
        refine goH (i := 13) (by kernel_rfl) rfl (fun K_ hK_ => ?_)
        rw [if_pos (by kernel_rfl)]
        refine wpr_of_list ?_
        (first | ((with_reducible apply wpl_storerow); (exact rfl); (exact rfl); infer_instance; infer_instance; (first | (with_reducible assumption) | (with_reducible exact H32.size _) | (with_reducible exact enc_sz _ rfl) | kernel_rfl); (first | (with_reducible assumption) | (with_reducible exact H32.size _) | (with_reducible exact enc_sz _ rfl) | kernel_rfl); (first | (with_reducible exact u8s_one _) | (with_reducible assumption) | (with_reducible exact enc_one _) | kernel_rfl); intro ws _ _) | ((with_reducible apply wpl_storecell); (exact rfl); (exact rfl); infer_instance; (exact rfl); (first | (with_reducible assumption) | omega | (focus (simp; done)) | (focus (simp; omega; done)) | decide); intro ws _ _) | ((with_reducible apply (wpl_storehash (t := 47))); (exact rfl); (exact rfl); infer_instance; infer_instance; (first | (with_reducible assumption) | omega | (focus (simp; done)) | (focus (simp; omega; done)) | decide); intro ws _ _) | ((with_reducible apply (wpl_storebyteH (t := 5))); (exact rfl); (exact rfl); infer_instance; (first | (with_reducible assumption) | omega); (first | (with_reducible assumption) | omega); (first | (constructor <;> omega) | exact xor_u8_in _ _); intro ws _ _) | ((with_reducible apply (wpl_storeint (t := 3))); (exact rfl); (exact rfl); infer_instance; (first | (with_reducible assumption) | omega); intro ws _ _) | ((with_reducible apply (wpl_storebyte (t := 5))); (exact rfl); (exact rfl); infer_instance; (first | (with_reducible assumption) | omega | (focus (simp; done)) | (focus (simp; omega; done)) | decide); (constructor <;> omega); intro ws _ _))
        refine wpList_nil ?_
        unfold onlyN
        refine hK_.out _ _ inferInstance (fun _ => ?_)
        clear hK_ K_
        try simp only [Act.put]
        refine wpAnyH_done (by kernel_rfl) ?_ _
      rotate_left 1
      focus
        rw [if_pos (by kernel_rfl)]
        refine wpr_of_list ?_
        (first | ((with_reducible apply (wpl_alloc (dst := some 6))); intro z6 wz6 _ _ _) | ((with_reducible apply (wpl_alloc (dst := some 7))); intro z7 wz7 _ _ _) | ((with_reducible apply wpl_alloc); intro z wz _ _ _))
        refine wpList_nil ?_
        unfold onlyN
        refine hK_.out _ _ inferInstance (fun _ => ?_)
        clear hK_ K_
        try simp only [Act.put, sA]; try simp only [sB, sC]
        refine goH (i := 10) (by kernel_rfl) rfl (fun K_ hK_ => ?_)
        rw [if_pos (by kernel_rfl)]
        refine wpr_of_list ?_
        (first | ((with_reducible apply (wpl_alloc (dst := some 6))); intro z6 wz6 _ _ _) | ((with_reducible apply (wpl_alloc (dst := some 7))); intro z7 wz7 _ _ _) | ((with_reducible apply wpl_alloc); intro z wz _ _ _))
        refine wpList_nil ?_
        unfold onlyN
        refine hK_.out _ _ inferInstance (fun _ => ?_)
        clear hK_ K_
        try simp only [Act.put, sA]; try simp only [sB, sC]
        refine goH (i := 12) (by kernel_rfl) rfl (fun K_ hK_ => ?_)
        rw [if_pos (by kernel_rfl)]
        refine wpr_of_list ?_
        (first | ((with_reducible apply wpl_storerow); (exact rfl); (exact rfl); infer_instance; infer_instance; (first | (with_reducible assumption) | (with_reducible exact H32.size _) | (with_reducible exact enc_sz _ rfl) | kernel_rfl); (first | (with_reducible assumption) | (with_reducible exact H32.size _) | (with_reducible exact enc_sz _ rfl) | kernel_rfl); (first | (with_reducible exact u8s_one _) | (with_reducible assumption) | (with_reducible exact enc_one _) | kernel_rfl); intro ws _ _) | ((with_reducible apply wpl_storecell); (exact rfl); (exact rfl); infer_instance; (exact rfl); (first | (with_reducible assumption) | omega | (focus (simp; done)) | (focus (simp; omega; done)) | decide); intro ws _ _) | ((with_reducible apply (wpl_storehash (t := 47))); (exact rfl); (exact rfl); infer_instance; infer_instance; (first | (with_reducible assumption) | omega | (focus (simp; done)) | (focus (simp; omega; done)) | decide); intro ws _ _) | ((with_reducible apply (wpl_storebyteH (t := 5))); (exact rfl); (exact rfl); infer_instance; (first | (with_reducible assumption) | omega); (first | (with_reducible assumption) | omega); (first | (constructor <;> omega) | exact xor_u8_in _ _); intro ws _ _) | ((with_reducible apply (wpl_storeint (t := 3))); (exact rfl); (exact rfl); infer_instance; (first | (with_reducible assumption) | omega); intro ws _ _) | ((with_reducible apply (wpl_storebyte (t := 5))); (exact rfl); (exact rfl); infer_instance; (first | (with_reducible assumption) | omega | (focus (simp; done)) | (focus (simp; omega; done)) | decide); (constructor <;> omega); intro ws _ _))
        refine wpList_nil ?_
        unfold onlyN
        refine hK_.out _ _ inferInstance (fun _ => ?_)
        clear hK_ K_
        try simp only [Act.put]
        refine goH (i := 13) (by kernel_rfl) rfl (fun K_ hK_ => ?_)
        rw [if_pos (by kernel_rfl)]
        refine wpr_of_list ?_
        (first | ((with_reducible apply wpl_storerow); (exact rfl); (exact rfl); infer_instance; infer_instance; (first | (with_reducible assumption) | (with_reducible exact H32.size _) | (with_reducible exact enc_sz _ rfl) | kernel_rfl); (first | (with_reducible assumption) | (with_reducible exact H32.size _) | (with_reducible exact enc_sz _ rfl) | kernel_rfl); (first | (with_reducible exact u8s_one _) | (with_reducible assumption) | (with_reducible exact enc_one _) | kernel_rfl); intro ws _ _) | ((with_reducible apply wpl_storecell); (exact rfl); (exact rfl); infer_instance; (exact rfl); (first | (with_reducible assumption) | omega | (focus (simp; done)) | (focus (simp; omega; done)) | decide); intro ws _ _) | ((with_reducible apply (wpl_storehash (t := 47))); (exact rfl); (exact rfl); infer_instance; infer_instance; (first | (with_reducible assumption) | omega | (focus (simp; done)) | (focus (simp; omega; done)) | decide); intro ws _ _) | ((with_reducible apply (wpl_storebyteH (t := 5))); (exact rfl); (exact rfl); infer_instance; (first | (with_reducible assumption) | omega); (first | (with_reducible assumption) | omega); (first | (constructor <;> omega) | exact xor_u8_in _ _); intro ws _ _) | ((with_reducible apply (wpl_storeint (t := 3))); (exact rfl); (exact rfl); infer_instance; (first | (with_reducible assumption) | omega); intro ws _ _) | ((with_reducible apply (wpl_storebyte (t := 5))); (exact rfl); (exact rfl); infer_instance; (first | (with_reducible assumption) | omega | (focus (simp; done)) | (focus (simp; omega; done)) | decide); (constructor <;> omega); intro ws _ _))
        refine wpList_nil ?_
        unfold onlyN
        refine hK_.out _ _ inferInstance (fun _ => ?_)
        clear hK_ K_
        try simp only [Act.put]
        refine wpAnyH_done (by kernel_rfl) ?_ _
      rotate_left 1
      all_goals
        have st8 : Step nowhere w ws := stepN
        have h6 : HB ws z6 85 (RowC.enc (gt D k)).toArray := inferInstance
        have h7 : HB ws z7 85 (RowC.enc (gt F k)).toArray := inferInstance
        have hx8 : HB ws za 25 #[.string (strL nm), .int .i64 v, .int .i64 e0, .slice A n c, .slice C m d] := inferInstance
        have hy8 : HB ws zb 25 #[.string (strL nm), .int .i64 v, .int .i64 e0, .slice B n c2, .slice E m d2] := inferInstance
        generalize ws = w8 at *
        go_wp2_with (first | ((with_reducible apply (wpl_loadpart (g := z6) (k := 1) (n := 2) (tb := 85) (cs := (RowC.enc (gt D k)).toArray) (vs := [.slice (gt D k).k.A (gt D k).k.n (gt D k).k.c, .int .i64 (gt D k).k.need]))); (exact rfl); infer_instance; infer_instance; (exact (by decide)); (exact rfl); (exact rfl)) | ((with_reducible apply (wpl_loadpart (g := z7) (k := 1) (n := 2) (tb := 85) (cs := (RowC.enc (gt F k)).toArray) (vs := [.slice (gt F k).k.A (gt F k).k.n (gt F k).k.c, .int .i64 (gt F k).k.need]))); (exact rfl); infer_instance; infer_instance; (exact (by decide)); (exact rfl); (exact rfl)) | ((with_reducible apply (wpl_guard (op := .load _ _))); (exact rfl)) | ((with_reducible apply (wpl_guard (op := .call _))); (exact rfl)) | ((with_reducible apply (wpl_guard (op := .fieldAddr _ _ _))); (exact rfl)) | ((with_reducible apply wpl_loadcellN); (exact rfl); infer_instance; (exact rfl)))
        refine (sameKeys_calls (gt D k).k (gt F k).k (KIn.chg HDK.out st8.chg (fun _ _ h => h)) (KIn.chg HFK.out st8.chg (fun _ _ h => h)) HE2.out).mono ?_
        rintro e w9 ⟨rfl, _⟩
        go_wp2_with (first | ((with_reducible apply (wpl_guard (op := .load _ _))); (exact rfl)) | ((with_reducible apply (wpl_guard (op := .fieldAddr _ _ _))); (exact rfl)) | ((with_reducible apply wpl_loadcellN); (exact rfl); infer_instance; (exact rfl)))
        exact ⟨⟨k + 1, by omega, by go_num, stepN, inferInstance, inferInstance⟩, by simp [intOf]; omega⟩
    · have hltI : ¬ (k : Int) < m := by omega
      go_wp2_with (first | ((with_reducible apply wpl_loadcellN); (exact rfl); infer_instance; (exact rfl)))
      go_ret
      exact ⟨rfl, stepN⟩
end Go.Proofs.YthcleccofccbdaaGreat
