/- KyE, RpK, RpC, RpN -/
import Derived.Test.YtmnapacibpnodaaGreatUeQmR
import Derived.Test.YtmnapacibpnodaaGreatUeKyP
import Derived.Test.YtmnapacibpnodaaGreatUeRpB
import Derived.Test.YtmnapacibpnodaaGreatUeFwD
import Derived.Test.YtmnapacibpnodaaGreatUeRrB
section
open Go Go.RowKit
namespace Go.Proofs.YtmnapacibpnodaaGreat
set_option maxRecDepth 100000 in
set_option maxHeartbeats 1600000 in
theorem leaves_calls {zk : Nat} {seed : H32} {used : Int} {w : World} [hk : KeyAt w zk seed used] :
    Calls Tryz.prog 55 #[.pointer (some ⟨zk, 0, none⟩)] w fun e w' => e = .returned (.slice (some ⟨zk, 34, none⟩) 16 16) ∧ Step (only zk) w w' ∧ KeyAt w' zk seed used ∧ HR w' (some ⟨zk, 34, none⟩) (cellsOf (leavesS seed)) := by
  obtain ⟨gr, tree, hl, hg, hb⟩ := hk.out
  cases gr with
  | true =>
    obtain rfl := hg rfl
    have HG := Lib.hid hg
    have HL := Lib.hid hl
    clear hk hg hl
    go_enter Tryz.func55, Tryz.ntmps55
    go_wp2_with (first | ((with_reducible apply (wpl_kGrown (t := 4))); (exact rfl); infer_instance; infer_instance) | ((with_reducible apply (wpl_sliceAr (t := 148) (s := 32))); (exact rfl); (exact Tryz.underlying148); (kernel_rfl)))
    go_ret
    exact ⟨rfl, stepC, ⟨true, leavesS seed, HL.out, fun _ => rfl, hb⟩, HR.keyTree hb⟩
  | false =>
    have HL := Lib.hid hl
    clear hk hg hl
    go_enter Tryz.func55, Tryz.ntmps55
    go_wp2_with (first | ((with_reducible apply (wpl_kGrown (t := 4))); (exact rfl); infer_instance; infer_instance))
    go_loopw [9] (fun kv wr => ∃ (k : Nat) (tr : List H32), k ≤ 16 ∧ kv = .int .i64 (k : Int) ∧ Hid (tr.length = 16) ∧ Hid (∀ j, j < k → hget tr j = publicS seed (j : Int)) ∧ Step (only zk) w wr ∧ HB wr zk 150 (keyL seed used false tr).toArray) (fun kv _ => 16 - (intOf kv).toNat)
    case atStart => exact ⟨0, tree, by decide, rfl, HL, Lib.hid (fun j hj => by omega), stepC, inferInstance⟩
    case round =>
      obtain ⟨k, tr, hk, rfl, HT, HJ, _, hbk⟩ := hrel
      have hka : KeyAt wr zk seed used := ⟨false, tr, HT.out, (fun h => by cases h), hbk⟩
      by_cases hlt : k < 16
      · have hltI : (k : Int) < 16 := by omega
        go_wp2_with fail
        refine wp_region_N ((only zk)) (by kernel_rfl) (fun wd _ _ => ?_)
        refine' takeH (i := 0) (v := _) rfl (by kernel_rfl) (by kernel_rfl) (by kernel_rfl) (fun _ _ _ h => h) (yields_of (by rfl) (fun w' _ => ?_)) inferInstance ?_
        rotate_left
        · (go_simp; try with_reducible rfl)
        try simp only [Act.put, sA]; try simp only [sB, sC]
        refine' takeH (i := 1) (v := _) rfl (by kernel_rfl) (by kernel_rfl) (by kernel_rfl) (fun _ _ _ h => h) (yields_of (by rfl) (fun w' _ => ?_)) inferInstance ?_
        rotate_left
        · (go_simp; try with_reducible rfl)
        try simp only [Act.put, sA]; try simp only [sB, sC]
        refine' takeH (i := 2) (v := _) rfl (by kernel_rfl) (by kernel_rfl) (by kernel_rfl) (fun _ _ _ h => h) (yields_of (by rfl) (fun w' _ => ?_)) inferInstance ?_
        rotate_left
        · (go_simp; try with_reducible rfl)
        try simp only [Act.put, sA]; try simp only [sB, sC]
        refine' takeH (i := 3) (v := _) rfl (by kernel_rfl) (by kernel_rfl) (by kernel_rfl) (fun _ _ _ h => h) (yields_of (by rfl) (fun w' _ => ?_)) inferInstance ?_
        rotate_left
        · (go_simp; try with_reducible rfl)
        try simp only [Act.put, sA]; try simp only [sB, sC]
        refine' takeH (i := 4) (v := _) rfl (by kernel_rfl) (by kernel_rfl) (by kernel_rfl) (fun _ _ _ h => h) (yields_of (by rfl) (fun w' _ => ?_)) inferInstance ?_
        rotate_left
        · (go_simp; try with_reducible rfl)
        try simp only [Act.put, sA]; try simp only [sB, sC]
        refine' takeH (i := 6) (v := _) rfl (by kernel_rfl) (by kernel_rfl) (by kernel_rfl) (fun _ _ _ h => h) (yields_of (by rfl) (fun w' _ => ?_)) inferInstance ?_
        rotate_left
        · (go_simp; try with_reducible rfl)
        try simp only [Act.put, sA]; try simp only [sB, sC]
        refine' takeH (i := 8) (v := _) rfl (by kernel_rfl) (by kernel_rfl) (by kernel_rfl) (fun _ _ _ h => h) (yields_of (by rfl) (fun w' _ => ?_)) inferInstance ?_
        rotate_left
        · (go_simp; try with_reducible rfl)
        try simp only [Act.put, sA]; try simp only [sB, sC]
        refine' takeH (i := 9) (v := _) rfl (by kernel_rfl) (by kernel_rfl) (by kernel_rfl) (fun _ _ _ h => h) (yields_of (by rfl) (fun w' _ => ?_)) inferInstance ?_
        rotate_left
        · (go_simp; try with_reducible rfl)
        try simp only [Act.put, sA]; try simp only [sB, sC]
        refine goH (i := 5) (by kernel_rfl) rfl (fun K_ hK_ => ?_)
        rw [if_pos (by kernel_rfl)]
        refine wpr_of_list ?_
        (first | ((with_reducible apply (wpl_kSeed (t := 26))); (exact rfl); infer_instance; infer_instance) | ((with_reducible apply (wpl_indexAr (t := 148) (s := 32))); (exact rfl); (exact rfl); (exact Tryz.underlying148); (kernel_rfl); (first | (with_reducible assumption) | omega)) | ((with_reducible apply (wpl_kPutT (t := 26))); (exact rfl); (exact rfl); infer_instance; infer_instance; (exact HT.out); (first | (with_reducible assumption) | omega); intro ws _ _) | ((with_reducible apply wpl_loadrow); (exact rfl); infer_instance; infer_instance; (first | (with_reducible assumption) | (with_reducible exact H32.size _) | kernel_rfl)) | ((with_reducible apply wpl_loadcellN); (exact rfl); infer_instance; (exact rfl)) | ((with_reducible apply (wpl_loadhash (t := 26))); (exact rfl); infer_instance; infer_instance; (first | (with_reducible assumption) | omega)) | ((with_reducible apply (wpl_loadint (t := 3))); (exact rfl); infer_instance; infer_instance; (first | (with_reducible assumption) | omega)) | ((with_reducible apply (wpl_loadbyte (t := 5))); (exact rfl); infer_instance; infer_instance; (first | (with_reducible assumption) | omega)))
        refine wpList_nil ?_
        unfold onlyN
        refine hK_.out _ _ inferInstance (fun _ => ?_)
        clear hK_ K_
        try simp only [Act.put, sA]; try simp only [sB, sC]
        refine goH (i := 7) (by kernel_rfl) rfl (fun K_ hK_ => ?_)
        go_simp
        refine (public_calls seed (k : Int) _).mono ?_
        rintro e w5 ⟨rfl, _⟩
        refine hK_.out _ _ inferInstance (fun _ => ?_)
        clear hK_ K_
        try simp only [Act.put, sA]; try simp only [sB, sC]
        refine goH (i := 10) (by kernel_rfl) rfl (fun K_ hK_ => ?_)
        rw [if_pos (by kernel_rfl)]
        refine wpr_of_list ?_
        (first | ((with_reducible apply (wpl_kSeed (t := 26))); (exact rfl); infer_instance; infer_instance) | ((with_reducible apply (wpl_indexAr (t := 148) (s := 32))); (exact rfl); (exact rfl); (exact Tryz.underlying148); (kernel_rfl); (first | (with_reducible assumption) | omega)) | ((with_reducible apply (wpl_kPutT (t := 26))); (exact rfl); (exact rfl); infer_instance; infer_instance; (exact HT.out); (first | (with_reducible assumption) | omega); intro ws _ _) | ((with_reducible apply wpl_indexH); (exact rfl); (exact rfl); infer_instance; infer_instance; (first | (with_reducible assumption) | omega); (first | (with_reducible assumption) | omega); (first | (with_reducible assumption) | omega)) | ((with_reducible apply wpl_indexH'); (exact rfl); (exact rfl); infer_instance; infer_instance; (first | (with_reducible assumption) | omega); (first | (with_reducible assumption) | omega); (first | (with_reducible assumption) | omega)))
        refine wpList_nil ?_
        unfold onlyN
        refine hK_.out _ _ inferInstance (fun _ => ?_)
        clear hK_ K_
        try simp only [Act.put, sA]; try simp only [sB, sC]
        refine goH (i := 11) (by kernel_rfl) rfl (fun K_ hK_ => ?_)
        rw [if_pos (by kernel_rfl)]
        refine wpr_of_list ?_
        (first | ((with_reducible apply (wpl_kSeed (t := 26))); (exact rfl); infer_instance; infer_instance) | ((with_reducible apply (wpl_indexAr (t := 148) (s := 32))); (exact rfl); (exact rfl); (exact Tryz.underlying148); (kernel_rfl); (first | (with_reducible assumption) | omega)) | ((with_reducible apply (wpl_kPutT (t := 26))); (exact rfl); (exact rfl); infer_instance; infer_instance; (exact HT.out); (first | (with_reducible assumption) | omega); intro ws _ _) | ((with_reducible apply wpl_storerow); (exact rfl); (exact rfl); infer_instance; infer_instance; (first | (with_reducible assumption) | (with_reducible exact H32.size _) | kernel_rfl); (first | (with_reducible assumption) | (with_reducible exact H32.size _) | kernel_rfl); (first | (with_reducible exact u8s_one _) | (with_reducible assumption) | kernel_rfl); intro ws _ _) | ((with_reducible apply wpl_storecell); (exact rfl); (exact rfl); infer_instance; (exact rfl); (first | (with_reducible assumption) | omega | (focus (simp; done)) | (focus (simp; omega; done)) | decide); intro ws _ _) | ((with_reducible apply (wpl_storehash (t := 26))); (exact rfl); (exact rfl); infer_instance; infer_instance; (first | (with_reducible assumption) | omega | (focus (simp; done)) | (focus (simp; omega; done)) | decide); intro ws _ _) | ((with_reducible apply (wpl_storeint (t := 3))); (exact rfl); (exact rfl); infer_instance; (first | (with_reducible assumption) | omega); intro ws _ _) | ((with_reducible apply (wpl_storebyte (t := 5))); (exact rfl); (exact rfl); infer_instance; (first | (with_reducible assumption) | omega | (focus (simp; done)) | (focus (simp; omega; done)) | decide); (constructor <;> omega); intro ws _ _))
        refine wpList_nil ?_
        unfold onlyN
        refine hK_.out _ _ inferInstance (fun _ => ?_)
        clear hK_ K_
        try simp only [Act.put]
        refine wpAnyH_done (by kernel_rfl) ?_ _
        go_wp2_with fail
        refine ⟨⟨k + 1, tr.set k (publicS seed (k : Int)), by omega, by go_num, Lib.hid (by rw [List.length_set]; exact HT.out), Lib.hid (fun j hj => ?_), stepC, inferInstance⟩, by simp [intOf]; omega⟩
        by_cases hjk : j = k
        · subst hjk
          have h16 := HT.out
          simp [hget, List.getD_eq_getElem?_getD, h16, hlt]
        · have := HJ.out j (by omega)
          rw [← this]
          simp [hget, List.getD_eq_getElem?_getD, Ne.symm hjk]
      · have hltI : ¬ (k : Int) < 16 := by omega
        have htr : tr = leavesS seed := by
          refine hget_ext (by rw [HT.out, leavesS_len]) (fun i hi => ?_)
          rw [HJ.out i (by have := HT.out; omega)]
          have : i < 16 := by have := HT.out; omega
          simp [hget, leavesS, List.getD_eq_getElem?_getD, this]
        subst htr
        go_wp2_with (first | ((with_reducible apply (wpl_kPutG (t := 4))); (exact rfl); (exact rfl); infer_instance; infer_instance; (exact HT.out); intro ws _ _) | ((with_reducible apply (wpl_sliceAr (t := 148) (s := 32))); (exact rfl); (exact Tryz.underlying148); (kernel_rfl)))
        go_ret
        have hb9 : HB ws zk 150 (keyL seed used true (leavesS seed)).toArray := inferInstance
        exact ⟨rfl, stepC, ⟨true, leavesS seed, HT.out, fun _ => rfl, hb9⟩, HR.keyTree hb9⟩
def pubS (seed : H32) : H32 := nameS (rootL (leavesS seed))
set_option maxRecDepth 100000 in
theorem kpublic_calls {zk : Nat} {seed : H32} {used : Int} {w : World} [hk : KeyAt w zk seed used] :
    Calls Tryz.prog 24 #[.pointer (some ⟨zk, 0, none⟩)] w fun e w' => e = .returned (.agg (u8s (pubS seed).l)) ∧ Step (only zk) w w' ∧ KeyAt w' zk seed used := by
  obtain ⟨U, hU⟩ : ∃ U, U = rootL (leavesS seed) := ⟨_, rfl⟩
  obtain ⟨N, hN⟩ : ∃ N, N = pubS seed := ⟨_, rfl⟩
  have hNU : N = nameS U := by rw [hN, hU]; rfl
  have HU := Lib.hid hU
  have HN := Lib.hid hNU
  rw [← hN]
  clear hU hN hNU
  go_enter Tryz.func24, Tryz.ntmps24
  go_wp2_with (first | ((with_reducible apply (wpl_alloc (dst := some 2))); intro zo wzo _ _ _))
  refine (leaves_calls).mono ?_
  rintro e w1 ⟨rfl, _, _, _⟩
  go_wp2_with fail
  refine (rootC (leavesS_len seed) (by decide)).mono ?_
  rw [← HU.out]
  rintro e w2 ⟨rfl, _⟩
  go_wp2_with fail
  refine (name_calls U _).mono ?_
  rw [← HN.out]
  rintro e w3 ⟨rfl, _⟩
  go_wp2_with (first | ((with_reducible apply wpl_storerow); (exact rfl); (exact rfl); infer_instance; infer_instance; (first | (with_reducible assumption) | (with_reducible exact H32.size _) | kernel_rfl); (first | (with_reducible assumption) | (with_reducible exact H32.size _) | kernel_rfl); (first | (with_reducible exact u8s_one _) | (with_reducible assumption) | kernel_rfl); intro ws _ _))
  exact ret_row rfl rfl (n := 32) (H32.size _) rfl ⟨rfl, stepC, inferInstance⟩
end Go.Proofs.YtmnapacibpnodaaGreat
end
section
open Go Go.RowKit
namespace Go.Proofs.YtmnapacibpnodaaGreat
/-- a repo's cells: seed, keys, the key told first, generation, version; then targets, what is handed out, the ledger -/
def rpL (sd : H32) (p0 p1 : Value) (f : H32) (g v : Int) (tl : List Value) : List Value := bs sd.l ++ (p0 :: p1 :: (bs f.l ++ (.int .i64 g :: .int .i64 v :: tl)))
def rpSuf : List Value := [.slice none 0 0, .slice none 0 0, .slice none 0 0, .slice none 0 0, .slice none 0 0, .slice none 0 0, .slice none 0 0]
def rpTl : List Value := .slice none 0 0 :: rpSuf
theorem rpL_len (sd : H32) (p0 p1 : Value) (f : H32) (g v : Int) (tl : List Value) (h : tl.length = 8) : (rpL sd p0 p1 f g v tl).length = 76 := by simp [rpL, bs_length, h]
theorem rp_get32 (sd : H32) (p0 p1 : Value) (f : H32) (g v : Int) (tl : List Value) (i : Nat) : (rpL sd p0 p1 f g v tl)[32 + i]? = (p0 :: p1 :: (bs f.l ++ (.int .i64 g :: .int .i64 v :: tl)))[i]? := by
  rw [rpL, List.getElem?_append_right (by rw [bs_length, sd.len]; omega), bs_length, sd.len, Nat.add_sub_cancel_left]
theorem rp_get68 (sd : H32) (p0 p1 : Value) (f : H32) (g v : Int) (tl : List Value) (i : Nat) : (rpL sd p0 p1 f g v tl)[68 + i]? = tl[i]? := by
  rw [show 68 + i = 32 + (((32 + (i + 2)) + 1) + 1) by omega, rp_get32, List.getElem?_cons_succ, List.getElem?_cons_succ, List.getElem?_append_right (by rw [bs_length, f.len]; omega), bs_length, f.len, Nat.add_sub_cancel_left, List.getElem?_cons_succ, List.getElem?_cons_succ]
theorem lay_app (off : Nat) (cs : Array Value) (a o b : List Value) (h : a.length = off) (h2 : o.length = cs.size) : lay off cs (a ++ (o ++ b)).toArray = (a ++ (cs.toList ++ b)).toArray := by
  apply Array.ext'
  show (a ++ (o ++ b)).take off ++ cs.toList ++ (a ++ (o ++ b)).drop (off + cs.size) = a ++ (cs.toList ++ b)
  rw [List.take_left' h, ← List.drop_drop, List.drop_left' h, List.drop_left' h2, List.append_assoc]
theorem lay_rp0 (s0 sd : H32) (p0 p1 : Value) (f : H32) (g v : Int) (tl : List Value) : lay 0 (u8s sd.l) (rpL s0 p0 p1 f g v tl).toArray = (rpL sd p0 p1 f g v tl).toArray :=
  lay_app 0 (u8s sd.l) [] (bs s0.l) _ rfl (by rw [bs_length, s0.len]; exact sd.size.symm)
theorem lay_rp32 (sd : H32) (p0 p0' p1 : Value) (f : H32) (g v : Int) (tl : List Value) : lay 32 #[p0'] (rpL sd p0 p1 f g v tl).toArray = (rpL sd p0' p1 f g v tl).toArray :=
  lay_app 32 #[p0'] (bs sd.l) [p0] _ (bsl sd) rfl
theorem lay_rp33 (sd : H32) (p0 p1 p1' : Value) (f : H32) (g v : Int) (tl : List Value) : lay 33 #[p1'] (rpL sd p0 p1 f g v tl).toArray = (rpL sd p0 p1' f g v tl).toArray := by
  have h := lay_app 33 #[p1'] (bs sd.l ++ [p0]) [p1] (bs f.l ++ (.int .i64 g :: .int .i64 v :: tl)) (by rw [List.length_append, bsl]; rfl) rfl
  rw [List.append_assoc, List.append_assoc] at h
  exact h
theorem rp_pre (sd : H32) (p0 p1 : Value) : (bs sd.l ++ [p0, p1]).length = 34 := by simp [bs_length]
theorem rp_cut (sd : H32) (p0 p1 : Value) (f : H32) (g v : Int) (tl : List Value) : rpL sd p0 p1 f g v tl = (bs sd.l ++ [p0, p1] ++ bs f.l) ++ ([.int .i64 g] ++ (.int .i64 v :: tl)) := by simp [rpL]
theorem lay_rp66 (sd : H32) (p0 p1 : Value) (f : H32) (g g' v : Int) (tl : List Value) : lay 66 #[.int .i64 g'] (rpL sd p0 p1 f g v tl).toArray = (rpL sd p0 p1 f g' v tl).toArray := by
  rw [rp_cut, rp_cut]
  exact lay_app 66 #[.int .i64 g'] (bs sd.l ++ [p0, p1] ++ bs f.l) [.int .i64 g] _ (by simp [bs_length]) rfl
theorem rp_cut34 (sd : H32) (p0 p1 : Value) (f : H32) (g v : Int) (tl : List Value) : rpL sd p0 p1 f g v tl = (bs sd.l ++ [p0, p1]) ++ (bs f.l ++ (.int .i64 g :: .int .i64 v :: tl)) := by simp [rpL]
theorem lay_rp34 (sd : H32) (p0 p1 : Value) (f f' : H32) (g v : Int) (tl : List Value) : lay 34 (u8s f'.l) (rpL sd p0 p1 f g v tl).toArray = (rpL sd p0 p1 f' g v tl).toArray := by
  rw [rp_cut34, rp_cut34]
  exact lay_app 34 (u8s f'.l) (bs sd.l ++ [p0, p1]) (bs f.l) _ (rp_pre sd p0 p1) (by rw [bs_length, f.len]; exact f'.size.symm)
theorem run_newRp (sd : H32) (a0 a1 : Option Addr) (w : World) : (Instr.build 84 #[(0, .agg (u8s sd.l)), (1, .pointer a0), (2, .pointer a1), (4, .int .i64 1)]).run Tryz.prog w = .ok (.agg (rpL sd (.pointer a0) (.pointer a1) zeroH 1 0 rpTl).toArray) w := by
  refine run_build_struct Tryz.underlying84 (zv := .agg (rpL zeroH (.pointer none) (.pointer none) zeroH 0 0 rpTl).toArray) (fun _ => by kernel_rfl) (places := #[(0, 32), (32, 1), (33, 1), (34, 32), (66, 1), (67, 1), (68, 1), (69, 6), (75, 1)]) (fun _ => by kernel_rfl) ?_ w
  have hl : ∀ s p0 p1 f g v, (rpL s p0 p1 f g v rpTl).toArray.size = 76 := fun s p0 p1 f g v => rpL_len s p0 p1 f g v rpTl rfl
  show Instr.fill _ (rpL zeroH (.pointer none) (.pointer none) zeroH 0 0 rpTl).toArray [(0, .agg (u8s sd.l)), (1, .pointer a0), (2, .pointer a1), (4, .int .i64 1)] = _
  rw [fill_step _ _ 0 _ _ (off := 0) (size := 32) rfl (by show (u8s sd.l).size = 32; exact sd.size) (by rw [hl]; decide)]
  rw [show lay 0 (Value.agg (u8s sd.l)).cells (rpL zeroH (.pointer none) (.pointer none) zeroH 0 0 rpTl).toArray = (rpL sd (.pointer none) (.pointer none) zeroH 0 0 rpTl).toArray from lay_rp0 zeroH sd _ _ _ _ _ _]
  rw [fill_step _ _ 1 _ _ (off := 32) (size := 1) rfl rfl (by rw [hl]; decide)]
  rw [show lay 32 (Value.pointer a0).cells (rpL sd (.pointer none) (.pointer none) zeroH 0 0 rpTl).toArray = (rpL sd (.pointer a0) (.pointer none) zeroH 0 0 rpTl).toArray from lay_rp32 _ _ _ _ _ _ _ _]
  rw [fill_step _ _ 2 _ _ (off := 33) (size := 1) rfl rfl (by rw [hl]; decide)]
  rw [show lay 33 (Value.pointer a1).cells (rpL sd (.pointer a0) (.pointer none) zeroH 0 0 rpTl).toArray = (rpL sd (.pointer a0) (.pointer a1) zeroH 0 0 rpTl).toArray from lay_rp33 _ _ _ _ _ _ _ _]
  rw [fill_step _ _ 4 _ _ (off := 66) (size := 1) rfl rfl (by rw [hl]; decide)]
  rw [show lay 66 (Value.int .i64 1).cells (rpL sd (.pointer a0) (.pointer a1) zeroH 0 0 rpTl).toArray = (rpL sd (.pointer a0) (.pointer a1) zeroH 1 0 rpTl).toArray from lay_rp66 _ _ _ _ _ _ _ _]
  rfl
/-- the seed of the key of this generation -/
def kSeed (sd : H32) (g : Int) : H32 := shaH (sd.l ++ [b8 g])
theorem run_gen (g : Int) (w : World) : (Instr.buildSlice 34 1 #[(0, .int .u8 (g % 256))]).run Tryz.prog w = .ok (.slice (some ⟨w.heap.size, 0, none⟩) 1 1) (w.alloc (.cells (u8s [b8 g]) 5)) := by rw [mod_b8]; kernel_rfl
set_option maxRecDepth 100000 in
set_option maxHeartbeats 1600000 in
theorem keyOf_calls (sd : H32) (g : Int) (w : World) :
    Calls Tryz.prog 23 #[.agg (u8s sd.l), .int .i64 g] w fun e w' => ∃ zk, e = .returned (.pointer (some ⟨zk, 0, none⟩)) ∧ Step nowhere w w' ∧ NewB w zk ∧ KeyAt w' zk (kSeed sd g) 0 := by
  have kb := run_gen g
  go_enter Tryz.func23, Tryz.ntmps23
  go_wp2_with (first | ((with_reducible apply wpl_bslice); (exact kb _); intro zb wb _ _ _) | ((with_reducible apply (wpl_box_agg (dst := some 2))); (exact rfl); intro zs wzs _ _ _) | ((with_reducible apply wpl_loadrow); (exact rfl); infer_instance; infer_instance; (first | (with_reducible assumption) | (with_reducible exact H32.size _) | kernel_rfl)))
  refine (link_calls sd.l (some ⟨zb, 0, none⟩) 1 1 [b8 g] _ sd.len (by have h := (inferInstance : HR wb (some (⟨zb, 0, none⟩ : Addr)) (bs [b8 g])).out; exact h) rfl (by decide)).mono ?_
  rintro e w5 ⟨rfl, hc5⟩
  have st5 : Step nowhere wb w5 := ⟨hc5.out⟩
  clear hc5
  go_wp2_with fail
  refine (new_calls (kSeed sd g) 0 _).mono ?_
  rintro e w6 ⟨zk, rfl, st6, hz, hk⟩
  go_wp2_with fail
  go_ret
  refine ⟨zk, rfl, stepN, ⟨?_⟩, hk⟩
  exact Nat.le_trans (stepN (w0 := w) (w := w5)).chg.size hz.out
end Go.Proofs.YtmnapacibpnodaaGreat
end
section
open Go Go.RowKit
namespace Go.Proofs.YtmnapacibpnodaaGreat
theorem run_emptyTg (w : World) : (Instr.buildSlice 79 0 #[]).run Tryz.prog w = .ok (.slice (some ⟨w.heap.size, 0, none⟩) 0 0) (w.alloc (.cells #[] 76)) := by kernel_rfl
theorem own_none {w : World} {e : TypeId} {s n c : Nat} {xs : List Value} (h : Own w e s none n c xs) : n = 0 := by
  rcases h.form with ⟨_, h1, _⟩ | ⟨g, _, h, _⟩
  · exact h1
  · cases h
theorem nilTgs (A : Option Addr) (n c : Nat) (w : World) : (binOp .eql 79 (.slice A n c) (.slice none 0 0)).run Tryz.prog w = .ok (.bool A.isNone) w :=
  Lib.run_eql_slice_nil w 79 76 A n c 0 0 Tryz.underlying79
attribute [local go_sem] nilTgs
theorem HO.ofEmptyTg (w : World) (z : Nat) [h : HB w z 76 #[]] : HO w 76 37 (some ⟨z, 0, none⟩) 0 0 (cellsOf ([] : List TargetR)) := ⟨Own.of_blk h.out (Nat.le_refl _) (Nat.zero_le _) (by simp) (by simp [cellsOf])⟩
set_option maxRecDepth 100000 in
set_option maxHeartbeats 1600000 in
theorem cloneR_calls {A : Option Addr} {n c : Nat} {L : List TargetR} {w : World} [ho : HO w 76 37 A n c (cellsOf L)] (hl : L.length = n) (hn : n ≤ 1000000) :
    Calls Tryz.prog 100 #[.slice A n c] w fun e w' => ∃ A' c', e = .returned (.slice A' n c') ∧ Step nowhere w w' ∧ HR w' A' (cellsOf L) ∧ NewA w A' := by
  have hrl : HR w A (cellsOf L) := ⟨ho.out.rd⟩
  cases A with
  | none =>
    have h0 := own_none ho.out
    subst h0
    obtain rfl : L = [] := List.length_eq_zero_iff.1 hl
    go_enter Tryz.func100, Tryz.ntmps100
    go_wp2_with fail
    go_ret
    exact ⟨none, 0, rfl, stepN, hrl, newA_none _⟩
  | some ad =>
    go_enter Tryz.func100, Tryz.ntmps100
    go_wp2_with (first | ((with_reducible apply (stop_dst (dst := some 5))); (try simp only [Act.put, sA, sB, sC]); ((with_reducible apply (wpl_bslice (dst := some 5))); (exact run_emptyTg _); intro zb wb _ _ _)) | ((with_reducible apply (wpl_appendR (α := TargetR))); (exact rfl); (exact rfl); infer_instance; (exact HO.ofEmptyTg _ _); infer_instance; (exact rfl); (exact hl); omega; (decide); (decide); intro A' c' wa _ ho _ hcap))
    go_ret
    refine ⟨A', c', by simp, stepN, ⟨?_⟩, inferInstance⟩
    have h5 := ho.out.rd
    simpa using h5
/-- a list of it alone may be -/
def mayL : List UInt8 := [116, 111, 112]
def mayR (t : TargetR) : Bool := tgsOk mayL 1 0 [t] []
theorem run_may (A : Option Addr) (n c : Nat) (w : World) : (Instr.build 142 #[(0, .string ⟨#[116, 111, 112]⟩), (1, .int .i64 1), (3, .slice A n c)]).run Tryz.prog w = .ok (.agg #[.string (strL mayL), .int .i64 1, .int .i64 0, .slice A n c, .slice none 0 0]) w := by kernel_rfl
theorem EncPost.uniR {ok : Bool} {bytes : List UInt8} {w w' : World} {e : Ending} (h : EncPost ok bytes w e w') :
    Step nowhere w w' ∧ ∃ A n c, e = .returned (.tuple #[.slice A n c, .int .i64 (if ok then 0 else 1)]) := by
  obtain ⟨hs, h⟩ := h
  refine ⟨hs, ?_⟩
  cases ok with
  | false =>
    obtain rfl : e = _ := h
    exact ⟨none, 0, 0, rfl⟩
  | true =>
    obtain ⟨A, n, c, rfl, _⟩ := h
    exact ⟨A, n, c, rfl⟩
set_option maxRecDepth 100000 in
set_option maxHeartbeats 1600000 in
theorem rmayBe_calls (t : TargetR) (w : World) : Calls Tryz.prog 80 #[.agg (RowC.enc t).toArray] w fun e w' => e = .returned (.bool (mayR t)) ∧ Step nowhere w w' := by
  have hsz : (RowC.enc t).toArray.size = 37 := tgR_len t
  have hon := enc_one t
  obtain ⟨R, hR⟩ : ∃ R, R = mayR t := ⟨_, rfl⟩
  have HM : Hid (mayR t = R) := Lib.hid hR.symm
  rw [← hR]
  clear hR
  go_enter Tryz.func80, Tryz.ntmps80
  go_wp2_with (first | ((with_reducible apply (stop_dst (dst := some 7))); (try simp only [Act.put, sA, sB, sC]); ((with_reducible apply (wpl_bslice (dst := some 7))); (exact run_bsR _ _); intro zb wb _ _ _)) | ((with_reducible apply wpl_build); (exact run_may _ _ _ _)) | ((with_reducible apply (wpl_box_agg (dst := some 1))); (exact rfl); intro zt wzt _ _ _) | ((with_reducible apply wpl_loadrow); (exact rfl); infer_instance; infer_instance; (first | (with_reducible assumption) | (with_reducible exact H32.size _) | (with_reducible exact enc_sz _ rfl) | kernel_rfl)))
  have hP : HR wb (some ⟨zb, 0, none⟩) (cellsOf [t]) := HB.cells inferInstance
  have hD : HR wb none (cellsOf ([] : List DeleR)) := ⟨Rd.nil _ _⟩
  refine (EncodeTargets_calls mayL 1 0 (P := [t]) (D := []) rfl rfl (fun k hk => by cases hk) (by show 1 ≤ 9223372036854775807; decide) (by decide)).mono ?_
  rintro e w5 hp
  obtain ⟨st5, A5, n5, c5, rfl⟩ := hp.uniR
  clear hp
  rw [show tgsOk mayL 1 0 [t] [] = R from HM.out]
  cases R
  case false =>
    go_wp2_with fail
    go_ret
    exact ⟨rfl, stepN⟩
  case true =>
    go_wp2_with fail
    go_ret
    exact ⟨rfl, stepN⟩
set_option maxRecDepth 100000 in
set_option maxHeartbeats 1600000 in
theorem dmayBe_calls (t : TargetR) (w : World) : Calls Tryz.prog 47 #[.agg (RowC.enc t).toArray] w fun e w' => e = .returned (.bool (mayR t)) ∧ Step nowhere w w' := by
  have hsz : (RowC.enc t).toArray.size = 37 := tgR_len t
  have hon := enc_one t
  obtain ⟨R, hR⟩ : ∃ R, R = mayR t := ⟨_, rfl⟩
  have HM : Hid (mayR t = R) := Lib.hid hR.symm
  rw [← hR]
  clear hR
  go_enter Tryz.func47, Tryz.ntmps47
  go_wp2_with (first | ((with_reducible apply (stop_dst (dst := some 7))); (try simp only [Act.put, sA, sB, sC]); ((with_reducible apply (wpl_bslice (dst := some 7))); (exact run_bsR _ _); intro zb wb _ _ _)) | ((with_reducible apply wpl_build); (exact run_may _ _ _ _)) | ((with_reducible apply (wpl_box_agg (dst := some 1))); (exact rfl); intro zt wzt _ _ _) | ((with_reducible apply wpl_loadrow); (exact rfl); infer_instance; infer_instance; (first | (with_reducible assumption) | (with_reducible exact H32.size _) | (with_reducible exact enc_sz _ rfl) | kernel_rfl)))
  have hP : HR wb (some ⟨zb, 0, none⟩) (cellsOf [t]) := HB.cells inferInstance
  have hD : HR wb none (cellsOf ([] : List DeleR)) := ⟨Rd.nil _ _⟩
  refine (EncodeTargets_calls mayL 1 0 (P := [t]) (D := []) rfl rfl (fun k hk => by cases hk) (by show 1 ≤ 9223372036854775807; decide) (by decide)).mono ?_
  rintro e w5 hp
  obtain ⟨st5, A5, n5, c5, rfl⟩ := hp.uniR
  clear hp
  rw [show tgsOk mayL 1 0 [t] [] = R from HM.out]
  cases R
  case false =>
    go_wp2_with fail
    go_ret
    exact ⟨rfl, stepN⟩
  case true =>
    go_wp2_with fail
    go_ret
    exact ⟨rfl, stepN⟩
end Go.Proofs.YtmnapacibpnodaaGreat
end
section
open Go Go.RowKit
namespace Go.Proofs.YtmnapacibpnodaaGreat
instance cellKp : CellT Tryz.prog 77 := ⟨fun _ => by kernel_rfl, fun _ => by kernel_rfl⟩
instance rowTRp : RowT Tryz.prog 84 76 := ⟨by kernel_rfl, _, Tryz.underlying84, rfl⟩
theorem rp_33 (sd : H32) (p0 p1 : Value) (f : H32) (g v : Int) (tl : List Value) : nth (rpL sd p0 p1 f g v tl) 33 = some p1 := by
  rw [← nth_get]
  exact rp_get32 sd p0 p1 f g v tl 1
theorem rp_put34 (sd : H32) (p0 p1 : Value) (f f' : H32) (g v : Int) (tl : List Value) : (rpL sd p0 p1 f g v tl).toArray.toList.take 34 ++ (u8s f'.l).toList ++ (rpL sd p0 p1 f g v tl).toArray.toList.drop (34 + 32) = (rpL sd p0 p1 f' g v tl).toArray.toList := by
  have h := congrArg Array.toList (lay_rp34 sd p0 p1 f f' g v tl)
  rw [lay, f'.size] at h
  exact h
theorem rp_k34 (sd : H32) (p0 p1 : Value) (f : H32) (g v : Int) (tl : List Value) (h : tl.length = 8) : 34 + 32 ≤ (rpL sd p0 p1 f g v tl).toArray.size := by
  rw [List.size_toArray, rpL_len _ _ _ _ _ _ _ h]
  decide
set_option maxRecDepth 100000 in
set_option maxHeartbeats 1600000 in
theorem repoNew_calls (sd : H32) (w : World) :
    Calls Tryz.prog 11 #[.agg (u8s sd.l)] w fun e w' => ∃ zr z0 z1, e = .returned (.pointer (some ⟨zr, 0, none⟩)) ∧ Step nowhere w w' ∧ Hid (w.heap.size ≤ zr ∧ w.heap.size ≤ z0 ∧ w.heap.size ≤ z1 ∧ z0 ≠ zr ∧ z1 ≠ zr ∧ z0 ≠ z1) ∧ HB w' zr 84 (rpL sd (.pointer (some ⟨z0, 0, none⟩)) (.pointer (some ⟨z1, 0, none⟩)) (pubS (kSeed sd 1)) 1 0 rpTl).toArray ∧ KeyAt w' z0 (kSeed sd 0) 0 ∧ KeyAt w' z1 (kSeed sd 1) 0 := by
  go_enter Tryz.func11, Tryz.ntmps11
  go_wp2_with (first | ((with_reducible apply (wpl_box_agg (dst := some 1))); (exact rfl); intro zs wzs _ _ _))
  have hS : HB wzs zs 26 (u8s sd.l) := inferInstance
  have hsl := hS.out.lt
  have hnw : Nw w wzs := ⟨(stepN (w0 := w) (w := wzs)).chg⟩
  refine wp_region_N (nowhere) (by kernel_rfl) (fun wd _ _ => ?_)
  refine' takeH (i := 0) (v := _) rfl (by kernel_rfl) (by kernel_rfl) (by kernel_rfl) (fun _ _ _ h => h) (yields_of (by rfl) (fun w' _ => ?_)) inferInstance ?_
  rotate_left
  · ((with_reducible apply ev_loadrow); (exact rfl); infer_instance; infer_instance; (first | (with_reducible assumption) | (with_reducible exact H32.size _) | kernel_rfl))
  try simp only [Act.put, sA]; try simp only [sB, sC]
  refine' takeH (i := 1) (v := _) rfl (by kernel_rfl) (by kernel_rfl) (by kernel_rfl) (fun _ _ _ h => h) (yields_of (by rfl) (fun w' _ => ?_)) inferInstance ?_
  rotate_left
  · ((with_reducible apply ev_loadrow); (exact rfl); infer_instance; infer_instance; (first | (with_reducible assumption) | (with_reducible exact H32.size _) | kernel_rfl))
  try simp only [Act.put, sA]; try simp only [sB, sC]
  refine' takeH (i := 3) (v := _) rfl (by kernel_rfl) (by kernel_rfl) (by kernel_rfl) (fun _ _ _ h => h) (yields_of (by rfl) (fun w' _ => ?_)) inferInstance ?_
  rotate_left
  · ((with_reducible apply ev_loadrow); (exact rfl); infer_instance; infer_instance; (first | (with_reducible assumption) | (with_reducible exact H32.size _) | kernel_rfl))
  try simp only [Act.put, sA]; try simp only [sB, sC]
  refine goH (i := 2) (by kernel_rfl) rfl (fun K_ hK_ => ?_)
  go_simp
  refine (keyOf_calls sd 0 _).mono ?_
  rintro e w5 ⟨z0, rfl, st5, hz0, hk0⟩
  refine hK_.out _ _ inferInstance (fun _ => ?_)
  clear hK_ K_
  try simp only [Act.put, sA]; try simp only [sB, sC]
  refine goH (i := 4) (by kernel_rfl) rfl (fun K_ hK_ => ?_)
  go_simp
  refine (keyOf_calls sd 1 _).mono ?_
  rintro e w6 ⟨z1, rfl, st6, hz1, hk1⟩
  refine hK_.out _ _ inferInstance (fun _ => ?_)
  clear hK_ K_
  try simp only [Act.put, sA]; try simp only [sB, sC]
  refine' takeH (i := 5) (v := _) rfl (by kernel_rfl) (by kernel_rfl) (by kernel_rfl) (fun _ _ _ h => h) (yields_of (by rfl) (fun w' _ => ?_)) inferInstance ?_
  rotate_left
  · ((with_reducible apply ev_build); exact run_newRp _ _ _ _)
  try simp only [Act.put, sA]; try simp only [sB, sC]
  refine goH (i := 6) (by kernel_rfl) rfl (fun K_ hK_ => ?_)
  rw [if_pos (by kernel_rfl)]
  refine wpr_of_list ?_
  (first | ((with_reducible apply wpl_build); (exact run_newRp _ _ _ _)) | ((with_reducible apply (wpl_box_agg (dst := some 10))); (exact rfl); intro zr wzr _ _ _) | ((with_reducible apply (wpl_box_int (dst := some 10))); (exact rfl); intro zr wzr _ _ _) | ((with_reducible apply (wpl_box_slice (dst := some 10))); (exact rfl); intro zr wzr _ _ _) | ((with_reducible apply (wpl_box_str (dst := some 10))); (exact rfl); intro zr wzr _ _ _) | ((with_reducible apply (wpl_box_bool (dst := some 10))); (exact rfl); intro zr wzr _ _ _) | ((with_reducible apply (wpl_box_ptr (dst := some 10))); (exact rfl); intro zr wzr _ _ _) | ((with_reducible apply wpl_box_agg); (exact rfl); intro z wz _ _ _) | ((with_reducible apply wpl_box_int); (exact rfl); intro z wz _ _ _) | ((with_reducible apply wpl_box_slice); (exact rfl); intro z wz _ _ _) | ((with_reducible apply wpl_box_str); (exact rfl); intro z wz _ _ _) | ((with_reducible apply wpl_box_bool); (exact rfl); intro z wz _ _ _) | ((with_reducible apply wpl_box_ptr); (exact rfl); intro z wz _ _ _))
  refine wpList_nil ?_
  unfold onlyN
  refine hK_.out _ _ inferInstance (fun _ => ?_)
  clear hK_ K_
  try simp only [Act.put, sA]; try simp only [sB, sC]
  refine' takeH (i := 7) (v := _) rfl (by kernel_rfl) (by kernel_rfl) (by kernel_rfl) (fun _ _ _ h => h) (yields_of (by rfl) (fun w' _ => ?_)) inferInstance ?_
  rotate_left
  · (go_simp; try with_reducible rfl)
  try simp only [Act.put, sA]; try simp only [sB, sC]
  refine wpAnyH_done (by kernel_rfl) ?_ _
  have hR6 : HB wzr zr 84 (rpL sd (.pointer (some ⟨z0, 0, none⟩)) (.pointer (some ⟨z1, 0, none⟩)) zeroH 1 0 rpTl).toArray := inferInstance
  have s0 : w.heap.size ≤ wzs.heap.size := hnw.out.size
  have s1 : wzs.heap.size ≤ wd.heap.size := (inferInstance : SzLe wzs wd).out
  have s5 : wd.heap.size ≤ w5.heap.size := st5.chg.size
  have s6 : w5.heap.size ≤ w6.heap.size := st6.chg.size
  have b0 := hz0.out
  have b1 := hz1.out
  have l0 := hk0.lt
  have l1 := hk1.lt
  have br : w6.heap.size ≤ zr := Nat.le_of_eq (inferInstance : Born w6 zr).eq.symm
  have o1 : OffB (only z1) zr := ⟨fun e => by have e' : zr = z1 := e; omega⟩
  have o2 : OffB (only zr) z0 := ⟨fun e => by have e' : z0 = zr := e; omega⟩
  have o3 : OffB (only zr) z1 := ⟨fun e => by have e' : z1 = zr := e; omega⟩
  have o4 : OffB (only z1) z0 := ⟨fun e => by have e' : z0 = z1 := e; omega⟩
  have ab1 : Above w (only z1) := ⟨fun k h => by have h' : k = z1 := h; omega⟩
  have abr : Above w (only zr) := ⟨fun k h => by have h' : k = zr := h; omega⟩
  have hk0r : KeyAt wzr z0 (kSeed sd 0) 0 := inferInstance
  have hk1r : KeyAt wzr z1 (kSeed sd 1) 0 := inferInstance
  have nwr : Nw w wzr := inferInstance
  have HPUT := Lib.hid (rp_put34 sd (.pointer (some ⟨z0, 0, none⟩)) (.pointer (some ⟨z1, 0, none⟩)) zeroH (pubS (kSeed sd 1)) 1 0 rpTl)
  have HK34 := Lib.hid (rp_k34 sd (.pointer (some ⟨z0, 0, none⟩)) (.pointer (some ⟨z1, 0, none⟩)) zeroH 1 0 rpTl rfl)
  have HN : Hid (w.heap.size ≤ zr ∧ w.heap.size ≤ z0 ∧ w.heap.size ≤ z1 ∧ z0 ≠ zr ∧ z1 ≠ zr ∧ z0 ≠ z1) := Lib.hid ⟨by omega, by omega, by omega, by omega, by omega, by omega⟩
  clear hk0 hk1 st5 st6 hz0 hz1 s0 s1 s5 s6 b0 b1 l0 l1 br hS hsl
  go_wp2_with (first | ((with_reducible apply (wpl_loadcellN (k := 33))); (exact rfl); (exact hR6); (exact rp_33 _ _ _ _ _ _ _)))
  refine (kpublic_calls (zk := z1) (seed := kSeed sd 1) (used := 0)).mono ?_
  rintro e w7 ⟨rfl, st7, hk7⟩
  have hR7 : HB w7 zr 84 (rpL sd (.pointer (some ⟨z0, 0, none⟩)) (.pointer (some ⟨z1, 0, none⟩)) zeroH 1 0 rpTl).toArray := inferInstance
  have hk07 : KeyAt w7 z0 (kSeed sd 0) 0 := inferInstance
  have nw7 : Nw w w7 := inferInstance
  clear hR6 hk0r hk1r
  go_wp2_with (first | ((with_reducible apply wpl_storepart); (exact rfl); (exact rfl); (exact hR7); infer_instance; (exact H32.size _); (decide); (exact HK34.out); (exact (u8s_one _)); (exact HPUT.out); intro wp stp htp))
  have k0 : KeyAt wp z0 (kSeed sd 0) 0 := inferInstance
  have k1 : KeyAt wp z1 (kSeed sd 1) 0 := inferInstance
  go_ret
  exact ⟨zr, z0, z1, rfl, stepN, HN, htp, k0, k1⟩
end Go.Proofs.YtmnapacibpnodaaGreat
end
