/- RlG -/
import Derived.Test.YtgjnjhhhbkidbaaGreatUdRlE
import Derived.Test.YtgjnjhhhbkidbaaGreatUdRlF
open Go Go.RowKit
namespace Go.Proofs.YtgjnjhhhbkidbaaGreat
def thr (a b c : Nat) : Nat → Prop := fun x => x = a ∨ x = b ∨ x = c
instance Sub.thrA (w : World) (a b c : Nat) : Sub w (two a b) (thr a b c) := ⟨fun _ _ h => by
  rcases h with h | h
  · exact .inl h
  · exact .inr (.inl h)⟩
instance Sub.thrB (w : World) (a b c : Nat) : Sub w (only c) (thr a b c) := ⟨fun _ _ h => .inr (.inr h)⟩
theorem rp_66 (sd : H32) (p0 p1 : Value) (f : H32) (g v : Int) (tl : List Value) : nth (rpL sd p0 p1 f g v tl).toArray.toList 66 = some (.int .i64 g) := by
  rw [← nth_get]
  show (rpL sd p0 p1 f g v tl)[66]? = _
  have e : rpL sd p0 p1 f g v tl = (bs sd.l ++ [p0, p1] ++ bs f.l) ++ (Value.int .i64 g :: .int .i64 v :: tl) := by simp [rpL]
  have hl : (bs sd.l ++ [p0, p1] ++ bs f.l).length = 66 := by simp [bs_length]
  rw [e, List.getElem?_append_right (by rw [hl]; exact Nat.le_refl _), hl]
  rfl
theorem rp_sd (sd : H32) (p0 p1 : Value) (f : H32) (g v : Int) (tl : List Value) : ((rpL sd p0 p1 f g v tl).toArray.toList.drop 0).take 32 = bs sd.l := by
  show (rpL sd p0 p1 f g v tl).take 32 = _
  rw [rpL, List.take_left' (bsl sd)]
theorem rp_set33 (sd : H32) (p0 p1 q1 : Value) (f : H32) (g v : Int) (tl : List Value) : (rpL sd p0 p1 f g v tl).toArray.setIfInBounds 33 q1 = (rpL sd p0 q1 f g v tl).toArray := by
  rw [sA]
  congr 1
  have e : ∀ x, rpL sd p0 x f g v tl = (bs sd.l ++ [p0]) ++ (x :: (bs f.l ++ (.int .i64 g :: .int .i64 v :: tl))) := fun x => by simp [rpL]
  have hl : (bs sd.l ++ [p0]).length = 33 := by simp [bs_length]
  rw [e, e, List.set_append_right _ _ (by rw [hl]; exact Nat.le_refl _), hl]
  rfl
theorem rp_set66 (sd : H32) (p0 p1 : Value) (f : H32) (g g2 v : Int) (tl : List Value) : (rpL sd p0 p1 f g v tl).toArray.setIfInBounds 66 (.int .i64 g2) = (rpL sd p0 p1 f g2 v tl).toArray := by
  rw [sA]
  congr 1
  have e : ∀ x, rpL sd p0 p1 f x v tl = (bs sd.l ++ [p0, p1] ++ bs f.l) ++ (Value.int .i64 x :: .int .i64 v :: tl) := fun x => by simp [rpL]
  have hl : (bs sd.l ++ [p0, p1] ++ bs f.l).length = 66 := by simp [bs_length]
  rw [e, e, List.set_append_right _ _ (by rw [hl]; exact Nat.le_refl _), hl]
  rfl
theorem EvS.offT {W w7 : World} {A : Option Addr} {LO z6 : Nat} {m : List UInt8} {P : List MkV} {v0 v1 : Value} (h : EvS (slO A W w7) w7 m P v0 v1) (hAz : ∀ ad, A = some ad → ad.block ≠ z6) (hAlo : ∀ ad, A = some ad → LO ≤ ad.block ∧ ad.block < w7.heap.size) (hlo : LO ≤ W.heap.size) (hz : z6 < W.heap.size ∨ w7.heap.size ≤ z6) : EvS (fun y => LO ≤ y ∧ y < w7.heap.size ∧ y ≠ z6) w7 m P v0 v1 :=
  h.mono (fun y hy => by
    rcases hy with ⟨ad, e, rfl⟩ | hy
    · exact ⟨(hAlo ad e).1, (hAlo ad e).2, hAz ad e⟩
    · exact ⟨by omega, hy.2, by omega⟩)
/-- the root that a rotation signs -/
def rtB (sd : H32) (g : Int) : List UInt8 := rootE g 1073741824 (roK (pubS (kSeed sd 0)) (pubS (kSeed sd g)))
def RtQ (sd f : H32) (g v : Int) (bt : Value) (X : Option Addr) (xn : Nat) (t0 t1 s0 s1 xg lg : Value) (xl : List EvC) (zr z0 : Nat) (used : Int) (w w' : World) : Prop :=
  ∃ (zk : Nat) (X' : Option Addr) (xc' : Nat) (ev : EvC) (lo hi : Nat), Step (tri z0 zr X) w w' ∧ KeyAt w' z0 (kSeed sd 0) (used + 1) ∧ KeyAt w' zk (kSeed sd (g + 1)) 0 ∧
      HB w' zr 73 (rpL sd (.pointer (some ⟨z0, 0, none⟩)) (.pointer (some ⟨zk, 0, none⟩)) f (g + 1) v [bt, .slice X' (xn + 1) xc', t0, t1, s0, s1, xg, lg]).toArray ∧ HO w' 32 2 X' (xn + 1) xc' (cellsOf (xl ++ [ev])) ∧
      Hid ((∀ ad, X' = some ad → X' = X ∨ hi ≤ ad.block) ∧ w.heap.size ≤ zk ∧ zk < lo ∧ lo ≤ hi ∧ hi ≤ w'.heap.size) ∧ Hid (EvX w' lo hi (rtB sd (g + 1)) (mkP (pubS (kSeed sd 0)) (kSeed sd 0) used (rtB sd (g + 1))) ev.v0 ev.v1)
theorem rtB_len (sd : H32) (g : Int) : (rtB sd g).length ≤ 100000 := by
  have a1 := encAll_len [1]
  have a2 := encAll_len [g, 1073741824]
  have a3 : (keysB (roK (pubS (kSeed sd 0)) (pubS (kSeed sd g)))).length ≤ 1000 := by
    have k0 := keyB_len [pubS (kSeed sd 0)] 1
    have k1 := keyB_len [pubS (kSeed sd g)] 1
    have e : keysB (roK (pubS (kSeed sd 0)) (pubS (kSeed sd g))) = keyB [pubS (kSeed sd 0)] 1 ++ (keyB [pubS (kSeed sd g)] 1 ++ (keyB [pubS (kSeed sd g)] 1 ++ (keyB [pubS (kSeed sd g)] 1 ++ []))) := rfl
    rw [e]
    simp only [List.length_append, List.length_cons, List.length_nil] at *
    omega
  unfold rtB rootE
  simp only [List.length_append, List.length_cons, List.length_nil] at *
  omega
set_option maxRecDepth 100000 in
set_option maxHeartbeats 6400000 in
theorem rotate_calls {sd f : H32} {p1 : Value} {g v : Int} {bt t0 t1 s0 s1 xg lg : Value} {zr z0 : Nat} {used : Int} {X : Option Addr} {xn xc : Nat} {xl : List EvC} {w : World}
    [hb : HB w zr 73 (rpL sd (.pointer (some ⟨z0, 0, none⟩)) p1 f g v [bt, .slice X xn xc, t0, t1, s0, s1, xg, lg]).toArray] [hk : KeyAt w z0 (kSeed sd 0) used] [hx : HO w 32 2 X xn xc (cellsOf xl)]
    (hxl : xl.length = xn) (hxn : xn ≤ 1000000) (hne : z0 ≠ zr) (hX : ∀ ad, X = some ad → ad.block ≠ z0 ∧ ad.block ≠ zr) (h0 : 0 ≤ used) (h16 : used < 16) (hg0 : 1 ≤ g) (hg : g < 200) :
    Calls Tryz.prog 11 #[.pointer (some ⟨zr, 0, none⟩)] w fun e w' => e = .returned (.int .i64 0) ∧ RtQ sd f g v bt X xn t0 t1 s0 s1 xg lg xl zr z0 used w w' := by
  have HX0 := Lib.hid hx.out
  have HXL := Lib.hid hxl
  have hI1 : ¬ 16 ≤ used := by omega
  have hI2 : ¬ 200 ≤ g := by omega
  have hver : Hid (verB (g + 1) = true) := Lib.hid (by unfold verB; rw [decide_eq_true (by omega), decide_eq_true (by omega)]; rfl)
  have HLEN := Lib.hid (rtB_len sd (g + 1))
  clear hx hxl
  go_enter Tryz.func11, Tryz.ntmps11
  go_wp2_with (first | ((with_reducible apply (wpl_loadcellN (k := 32))); (exact rfl); (exact hb); (exact rp_32 _ _ _ _ _ _ _)) | ((with_reducible apply wpl_alloc); intro z wz _ _ _) | ((with_reducible apply wpl_loadrow); (exact rfl); infer_instance; infer_instance; (first | (with_reducible assumption) | (with_reducible exact H32.size _) | (with_reducible exact enc_sz _ rfl) | kernel_rfl)) | ((with_reducible apply wpl_loadcellN); (exact rfl); infer_instance; (exact rfl)) | ((with_reducible apply wpl_storerow); (exact rfl); (exact rfl); infer_instance; infer_instance; (first | (with_reducible assumption) | (with_reducible exact H32.size _) | (with_reducible exact enc_sz _ rfl) | kernel_rfl); (first | (with_reducible assumption) | (with_reducible exact H32.size _) | (with_reducible exact enc_sz _ rfl) | kernel_rfl); (first | (with_reducible exact u8s_one _) | (with_reducible assumption) | (with_reducible exact enc_one _) | kernel_rfl); intro ws _ _) | ((with_reducible apply wpl_storecell); (exact rfl); (exact rfl); infer_instance; (exact rfl); (first | (with_reducible assumption) | omega | (focus (simp; done)) | (focus (simp; omega; done)) | decide); intro ws _ _))
  refine used_calls.mono ?_
  rintro e w1 ⟨rfl, st1⟩
  have hb1 : HB w1 zr 73 (rpL sd (.pointer (some ⟨z0, 0, none⟩)) p1 f g v [bt, .slice X xn xc, t0, t1, s0, s1, xg, lg]).toArray := inferInstance
  have hk1 : KeyAt w1 z0 (kSeed sd 0) used := inferInstance
  go_wp2_with (first | ((with_reducible apply (wpl_loadcellN (k := 66))); (exact rfl); (exact hb1); (exact rp_66 _ _ _ _ _ _ _)) | ((with_reducible apply (wpl_loadpartH (k := 0))); (exact rfl); (exact hb1); infer_instance; (exact rp_sd _ _ _ _ _ _ _)) | ((with_reducible apply wpl_alloc); intro z wz _ _ _) | ((with_reducible apply wpl_loadrow); (exact rfl); infer_instance; infer_instance; (first | (with_reducible assumption) | (with_reducible exact H32.size _) | (with_reducible exact enc_sz _ rfl) | kernel_rfl)) | ((with_reducible apply wpl_loadcellN); (exact rfl); infer_instance; (exact rfl)) | ((with_reducible apply wpl_storerow); (exact rfl); (exact rfl); infer_instance; infer_instance; (first | (with_reducible assumption) | (with_reducible exact H32.size _) | (with_reducible exact enc_sz _ rfl) | kernel_rfl); (first | (with_reducible assumption) | (with_reducible exact H32.size _) | (with_reducible exact enc_sz _ rfl) | kernel_rfl); (first | (with_reducible exact u8s_one _) | (with_reducible assumption) | (with_reducible exact enc_one _) | kernel_rfl); intro ws _ _) | ((with_reducible apply wpl_storecell); (exact rfl); (exact rfl); infer_instance; (exact rfl); (first | (with_reducible assumption) | omega | (focus (simp; done)) | (focus (simp; omega; done)) | decide); intro ws _ _))
  refine (keyOf_calls sd (g + 1) _).mono ?_
  rintro e w2 ⟨zk, rfl, st2, hzk, hk2⟩
  have hb2 : HB w2 zr 73 (rpL sd (.pointer (some ⟨z0, 0, none⟩)) p1 f g v [bt, .slice X xn xc, t0, t1, s0, s1, xg, lg]).toArray := inferInstance
  have hk02 : KeyAt w2 z0 (kSeed sd 0) used := inferInstance
  have hCw2 : Hid (Chg nowhere w w2) := Lib.hid (st1.chg.trans st2.chg (fun _ _ h => h.elim))
  have hzkw := hzk.out
  have hzrl := hb.out.lt
  have hz0l := hk.lt
  have hs1 := st1.chg.size
  have hs2 := st2.chg.size
  have hzkl := hk2.lt
  have hslz := slL_len (pubS (kSeed sd 0)) (.func (.func 26) #[.pointer (some ⟨z0, 0, none⟩)] #[]) 0
  have o0r : OffB (only z0) zr := ⟨fun e => hne (show zr = z0 from e).symm⟩
  have o0k : OffB (only z0) zk := ⟨fun e => by have e' : zk = z0 := e; omega⟩
  clear hb hk hb1 hk1 hzk
  go_wp2_with (first | ((with_reducible apply wpl_alloc); intro z wz _ _ _) | ((with_reducible apply wpl_loadrow); (exact rfl); infer_instance; infer_instance; (first | (with_reducible assumption) | (with_reducible exact H32.size _) | (with_reducible exact enc_sz _ rfl) | kernel_rfl)) | ((with_reducible apply wpl_loadcellN); (exact rfl); infer_instance; (exact rfl)) | ((with_reducible apply wpl_storerow); (exact rfl); (exact rfl); infer_instance; infer_instance; (first | (with_reducible assumption) | (with_reducible exact H32.size _) | (with_reducible exact enc_sz _ rfl) | kernel_rfl); (first | (with_reducible assumption) | (with_reducible exact H32.size _) | (with_reducible exact enc_sz _ rfl) | kernel_rfl); (first | (with_reducible exact u8s_one _) | (with_reducible assumption) | (with_reducible exact enc_one _) | kernel_rfl); intro ws _ _) | ((with_reducible apply wpl_storecell); (exact rfl); (exact rfl); infer_instance; (exact rfl); (first | (with_reducible assumption) | omega | (focus (simp; done)) | (focus (simp; omega; done)) | decide); intro ws _ _))
  refine wp_region_N ((only z0)) (by kernel_rfl) (fun wd _ _ => ?_)
  refine' takeH (i := 0) (v := _) rfl (by kernel_rfl) (by kernel_rfl) (by kernel_rfl) (fun _ _ _ h => h) (yields_of (by rfl) (fun w' _ => ?_)) inferInstance ?_
  rotate_left
  · (go_simp; try with_reducible rfl)
  try simp only [Act.put, sA]; try simp only [sB, sC]
  refine' takeH (i := 1) (v := _) rfl (by kernel_rfl) (by kernel_rfl) (by kernel_rfl) (fun _ _ _ h => h) (yields_of (by rfl) (fun w' _ => ?_)) inferInstance ?_
  rotate_left
  · (go_simp; try with_reducible rfl)
  try simp only [Act.put, sA]; try simp only [sB, sC]
  refine' takeH (i := 2) (v := _) rfl (by kernel_rfl) (by kernel_rfl) (by kernel_rfl) (fun _ _ _ h => h) (yields_of (by rfl) (fun w' _ => ?_)) inferInstance ?_
  rotate_left
  · (first | ((with_reducible apply (ev_fieldE (t := 32))); (exact Tryz.underlying32); (exact rfl); (kernel_rfl); (exact rfl); infer_instance; (exact cells_pos (by decide) (by omega))) | (go_simp; try with_reducible rfl))
  try simp only [Act.put, sA]; try simp only [sB, sC]
  refine' takeH (i := 3) (v := _) rfl (by kernel_rfl) (by kernel_rfl) (by kernel_rfl) (fun _ _ _ h => h) (yields_of (by rfl) (fun w' _ => ?_)) inferInstance ?_
  rotate_left
  · (first | ((with_reducible apply (ev_loadcellN (k := 32))); (exact rfl); infer_instance; infer_instance; (exact rp_32 _ _ _ _ _ _ _)))
  try simp only [Act.put, sA]; try simp only [sB, sC]
  refine' takeH (i := 5) (v := _) rfl (by kernel_rfl) (by kernel_rfl) (by kernel_rfl) (fun _ _ _ h => h) (yields_of (by rfl) (fun w' _ => ?_)) inferInstance ?_
  rotate_left
  · (go_simp; try with_reducible rfl)
  try simp only [Act.put, sA]; try simp only [sB, sC]
  refine' takeH (i := 6) (v := _) rfl (by kernel_rfl) (by kernel_rfl) (by kernel_rfl) (fun _ _ _ h => h) (yields_of (by rfl) (fun w' _ => ?_)) inferInstance ?_
  rotate_left
  · (go_simp; try with_reducible rfl)
  try simp only [Act.put, sA]; try simp only [sB, sC]
  refine' takeH (i := 7) (v := _) rfl (by kernel_rfl) (by kernel_rfl) (by kernel_rfl) (fun _ _ _ h => h) (yields_of (by rfl) (fun w' _ => ?_)) inferInstance ?_
  rotate_left
  · (first | ((with_reducible apply (ev_fieldE (t := 32))); (exact Tryz.underlying32); (exact rfl); (kernel_rfl); (exact rfl); infer_instance; (exact cells_pos (by decide) (by omega))) | (go_simp; try with_reducible rfl))
  try simp only [Act.put, sA]; try simp only [sB, sC]
  refine' takeH (i := 8) (v := _) rfl (by kernel_rfl) (by kernel_rfl) (by kernel_rfl) (fun _ _ _ h => h) (yields_of (by rfl) (fun w' _ => ?_)) inferInstance ?_
  rotate_left
  · (first | ((with_reducible apply (ev_loadcellN (k := 32))); (exact rfl); infer_instance; infer_instance; (exact rp_32 _ _ _ _ _ _ _)))
  try simp only [Act.put, sA]; try simp only [sB, sC]
  refine' takeH (i := 9) (v := _) rfl (by kernel_rfl) (by kernel_rfl) (by kernel_rfl) (fun _ _ _ h => h) (yields_of (by rfl) (fun w' _ => ?_)) inferInstance ?_
  rotate_left
  · (go_simp; try with_reducible rfl)
  try simp only [Act.put, sA]; try simp only [sB, sC]
  refine wpAnyH_ready (rs := [4, 11]) (by kernel_rfl) (by simp) (AllReadyH.cons rfl (fun K_ hK_ => ?_) (AllReadyH.cons rfl (fun K_ hK_ => ?_) AllReadyH.nil))
  focus
    go_simp
    refine (kpublic_calls (zk := z0) (seed := kSeed sd 0) (used := used)).mono ?_
    rintro e w3 ⟨rfl, st3, hk3⟩
    refine hK_.out _ _ inferInstance (fun _ => ?_)
    clear hK_ K_
    try simp only [Act.put, sA]; try simp only [sB, sC]
    refine' takeH (i := 10) (v := _) rfl (by kernel_rfl) (by kernel_rfl) (by kernel_rfl) (fun _ _ _ h => h) (yields_of (by rfl) (fun w' _ => ?_)) inferInstance ?_
    rotate_left
    · (first | ((with_reducible apply ev_build); exact run_seal0 _ _ _) | (go_simp; try with_reducible rfl))
    try simp only [Act.put, sA]; try simp only [sB, sC]
    refine goH (i := 11) (by kernel_rfl) rfl (fun K_ hK_ => ?_)
    rw [if_pos (by kernel_rfl)]
    refine wpr_of_list ?_
    ((with_reducible apply (wpl_alloc (dst := some 5))); intro z5 wz5 _ _ _)
    refine wpList_nil ?_
    unfold onlyN
    refine hK_.out _ _ inferInstance (fun _ => ?_)
    clear hK_ K_
    try simp only [Act.put, sA]; try simp only [sB, sC]
    refine goH (i := 12) (by kernel_rfl) rfl (fun K_ hK_ => ?_)
    rw [if_pos (by kernel_rfl)]
    refine wpr_of_list ?_
    ((with_reducible apply wpl_storerow); (exact rfl); (exact rfl); infer_instance; infer_instance; (exact hslz); (exact (slL_len _ _ _)); (exact sl_one _ _ _); intro wx stx hsx)
    refine wpList_nil ?_
    unfold onlyN
    refine hK_.out _ _ inferInstance (fun _ => ?_)
    clear hK_ K_
    try simp only [Act.put]
    refine wpAnyH_done (by kernel_rfl) ?_ _
  rotate_left 1
  focus
    rw [if_pos (by kernel_rfl)]
    refine wpr_of_list ?_
    ((with_reducible apply (wpl_alloc (dst := some 5))); intro z5 wz5 _ _ _)
    refine wpList_nil ?_
    unfold onlyN
    refine hK_.out _ _ inferInstance (fun _ => ?_)
    clear hK_ K_
    try simp only [Act.put, sA]; try simp only [sB, sC]
    refine goH (i := 4) (by kernel_rfl) rfl (fun K_ hK_ => ?_)
    go_simp
    refine (kpublic_calls (zk := z0) (seed := kSeed sd 0) (used := used)).mono ?_
    rintro e w3 ⟨rfl, st3, hk3⟩
    refine hK_.out _ _ inferInstance (fun _ => ?_)
    clear hK_ K_
    try simp only [Act.put, sA]; try simp only [sB, sC]
    refine' takeH (i := 10) (v := _) rfl (by kernel_rfl) (by kernel_rfl) (by kernel_rfl) (fun _ _ _ h => h) (yields_of (by rfl) (fun w' _ => ?_)) inferInstance ?_
    rotate_left
    · (first | ((with_reducible apply ev_build); exact run_seal0 _ _ _) | (go_simp; try with_reducible rfl))
    try simp only [Act.put, sA]; try simp only [sB, sC]
    refine goH (i := 12) (by kernel_rfl) rfl (fun K_ hK_ => ?_)
    rw [if_pos (by kernel_rfl)]
    refine wpr_of_list ?_
    ((with_reducible apply wpl_storerow); (exact rfl); (exact rfl); infer_instance; infer_instance; (exact hslz); (exact (slL_len _ _ _)); (exact sl_one _ _ _); intro wx stx hsx)
    refine wpList_nil ?_
    unfold onlyN
    refine hK_.out _ _ inferInstance (fun _ => ?_)
    clear hK_ K_
    try simp only [Act.put]
    refine wpAnyH_done (by kernel_rfl) ?_ _
  rotate_left 1
  all_goals
    have hz5 : w2.heap.size ≤ z5 := by
      first
        | exact Nat.le_trans (inferInstance : SzLe w2 w3).out (Nat.le_of_eq (inferInstance : Born w3 z5).eq.symm)
        | exact Nat.le_trans (inferInstance : SzLe w2 wd).out (Nat.le_of_eq (inferInstance : Born wd z5).eq.symm)
    have h05 : z0 ≠ z5 := by omega
    have hr5 : zr ≠ z5 := by omega
    have hk5 : zk ≠ z5 := by omega
    have o50 : OffB (only z5) z0 := ⟨h05⟩
    have o05 : OffB (only z0) z5 := ⟨fun e => h05 (show z5 = z0 from e).symm⟩
    have o5r : OffB (only z5) zr := ⟨hr5⟩
    have o5k : OffB (only z5) zk := ⟨hk5⟩
    have ok0 : OffB (only zk) z0 := ⟨fun e => by have e' : z0 = zk := e; omega⟩
    have ok5 : OffB (only zk) z5 := ⟨fun e => hk5 (show z5 = zk from e).symm⟩
    have okr : OffB (only zk) zr := ⟨fun e => by have e' : zr = zk := e; omega⟩
    have ot5k : OffB (two z0 z5) zk := ⟨fun h => by rcases h with h | h; exact o0k.out h; exact hk5 h⟩
    have ot5r : OffB (two z0 z5) zr := ⟨fun h => by rcases h with h | h; exact hne h.symm; exact hr5 h⟩
    have hkx : KeyAt wx z0 (kSeed sd 0) used := inferInstance
    have hkkx : KeyAt wx zk (kSeed sd (g + 1)) 0 := inferInstance
    have hbx : HB wx zr 73 (rpL sd (.pointer (some ⟨z0, 0, none⟩)) p1 f g v [bt, .slice X xn xc, t0, t1, s0, s1, xg, lg]).toArray := inferInstance
    have hcx1 : Chg (only z0) w2 wx := (inferInstance : Ch (only z0) w2 wx).out
    have hCwx : Hid (Chg (two z0 zr) w wx) := Lib.hid ((hCw2.out.mono (T := two z0 zr) (fun _ _ h => h.elim)).trans hcx1 (fun _ _ h => .inl h))
    obtain ⟨LO, hLO⟩ : ∃ n, n = wx.heap.size := ⟨_, rfl⟩
    have hz5l := hsx.out.lt
    have hkl9 : zk < LO := by have := hkkx.lt; omega
    have hwLO : w.heap.size ≤ LO := by rw [hLO]; exact hCwx.out.size
    have hz0L : z0 < LO := by omega
    have hz5L : z5 < LO := by omega
    have hzrL : zr < LO := by omega
    have HWZ : Hid (w.heap.size ≤ zk) := Lib.hid (by omega)
    clear hb2 hk2 hk02 st2 stx hk3 st3 hcx1 st1
    go_wp2_with (first | ((with_reducible apply wpl_alloc); intro z wz _ _ _) | ((with_reducible apply wpl_loadrow); (exact rfl); infer_instance; infer_instance; (first | (with_reducible assumption) | (with_reducible exact H32.size _) | (with_reducible exact enc_sz _ rfl) | kernel_rfl)) | ((with_reducible apply wpl_loadcellN); (exact rfl); infer_instance; (exact rfl)) | ((with_reducible apply wpl_storerow); (exact rfl); (exact rfl); infer_instance; infer_instance; (first | (with_reducible assumption) | (with_reducible exact H32.size _) | (with_reducible exact enc_sz _ rfl) | kernel_rfl); (first | (with_reducible assumption) | (with_reducible exact H32.size _) | (with_reducible exact enc_sz _ rfl) | kernel_rfl); (first | (with_reducible exact u8s_one _) | (with_reducible assumption) | (with_reducible exact enc_one _) | kernel_rfl); intro ws _ _) | ((with_reducible apply wpl_storecell); (exact rfl); (exact rfl); infer_instance; (exact rfl); (first | (with_reducible assumption) | omega | (focus (simp; done)) | (focus (simp; omega; done)) | decide); intro ws _ _))
    refine wp_region_N ((thr z0 z5 zk)) (by kernel_rfl) (fun wd _ _ => ?_)
    refine' takeH (i := 0) (v := _) rfl (by kernel_rfl) (by kernel_rfl) (by kernel_rfl) (fun _ _ _ h => h) (yields_of (by rfl) (fun w' _ => ?_)) inferInstance ?_
    rotate_left
    · (go_simp; try with_reducible rfl)
    try simp only [Act.put, sA]; try simp only [sB, sC]
    refine' takeH (i := 1) (v := _) rfl (by kernel_rfl) (by kernel_rfl) (by kernel_rfl) (fun _ _ _ h => h) (yields_of (by rfl) (fun w' _ => ?_)) inferInstance ?_
    rotate_left
    · (first | ((with_reducible apply (ev_fieldE (t := 32))); (exact Tryz.underlying32); (exact rfl); (kernel_rfl); (exact rfl); infer_instance; (exact cells_pos (by decide) (by omega))) | (go_simp; try with_reducible rfl))
    try simp only [Act.put, sA]; try simp only [sB, sC]
    refine' takeH (i := 3) (v := _) rfl (by kernel_rfl) (by kernel_rfl) (by kernel_rfl) (fun _ _ _ h => h) (yields_of (by rfl) (fun w' _ => ?_)) inferInstance ?_
    rotate_left
    · (go_simp; try with_reducible rfl)
    try simp only [Act.put, sA]; try simp only [sB, sC]
    refine wpAnyH_ready (rs := [2, 4, 10]) (by kernel_rfl) (by simp) (AllReadyH.cons rfl (fun K_ hK_ => ?_) (AllReadyH.cons rfl (fun K_ hK_ => ?_) (AllReadyH.cons rfl (fun K_ hK_ => ?_) AllReadyH.nil)))
    focus
      rw [if_pos (by kernel_rfl)]
      refine wpr_of_list ?_
      ((with_reducible apply (wpl_loadpartH (k := 0))); (exact rfl); infer_instance; infer_instance; (exact sl_pub _ _ _))
      refine wpList_nil ?_
      unfold onlyN
      refine hK_.out _ _ inferInstance (fun _ => ?_)
      clear hK_ K_
      try simp only [Act.put, sA]; try simp only [sB, sC]
      refine wpAnyH_ready (rs := [4, 10]) (by kernel_rfl) (by simp) (AllReadyH.cons rfl (fun K_ hK_ => ?_) (AllReadyH.cons rfl (fun K_ hK_ => ?_) AllReadyH.nil))
      focus
        go_simp
        refine (kpublic_calls (zk := zk) (seed := kSeed sd (g + 1)) (used := 0)).mono ?_
        rintro e w4 ⟨rfl, st4, hk4⟩
        refine hK_.out _ _ inferInstance (fun _ => ?_)
        clear hK_ K_
        try simp only [Act.put, sA]; try simp only [sB, sC]
        refine wpAnyH_ready (rs := [5, 10]) (by kernel_rfl) (by simp) (AllReadyH.cons rfl (fun K_ hK_ => ?_) (AllReadyH.cons rfl (fun K_ hK_ => ?_) AllReadyH.nil))
        focus
          go_simp
          refine (rootOfM_calls (g + 1) (pubS (kSeed sd 0)) (pubS (kSeed sd (g + 1))) _).mono ?_
          rintro e w5 ⟨K, rfl, hK, st5, hKM⟩
          have HOK : Hid (rootOk (g + 1) 1073741824 K = true) := Lib.hid (by rw [← rootOk_eq, hKM.out.2]; exact rootB_ok _ _ _ hver.out)
          have HKE : Hid (encAll [1] ++ (encAll [g + 1, 1073741824] ++ keysE K) = rtB sd (g + 1)) := Lib.hid (by rw [← keysE_eq, hKM.out.2]; rfl)
          refine hK_.out _ _ inferInstance (fun _ => ?_)
          clear hK_ K_
          try simp only [Act.put, sA]; try simp only [sB, sC]
          refine wpAnyH_ready (rs := [6, 10]) (by kernel_rfl) (by simp) (AllReadyH.cons rfl (fun K_ hK_ => ?_) (AllReadyH.cons rfl (fun K_ hK_ => ?_) AllReadyH.nil))
          focus
            go_simp
            refine (EncodeRoot_calls (g + 1) 1073741824 K hK (fun k hk => KIn.chg (hKM.out.1 k hk) (stepN (w0 := w5)).chg (fun _ _ h => h))).mono ?_
            unfold EncPost
            rw [HOK.out, HKE.out]
            rintro e w6 ⟨st6, A, n, c, rfl, hn, hO, hN⟩
            have HN := Lib.hid hn
            clear hn
            have hA6 : ∀ ad, A = some ad → LO ≤ ad.block := fun ad e => Nat.le_trans (by rw [hLO]; exact (inferInstance : SzLe wx _).out) (hN.out ad e)
            (try have hzA : ∀ ad, A = some ad → ad.block ≠ z6 := (fun ad e => Nat.ne_of_gt (Nat.lt_of_lt_of_le (Nat.lt_of_lt_of_le h6.out.lt (SzLe.out (w0 := wz6))) (hN.out ad e))))
            have hrA : HR w6 A (bs (rtB sd (g + 1))) := ⟨hO.out.rd⟩
            refine hK_.out _ _ inferInstance (fun _ => ?_)
            clear hK_ K_
            try simp only [Act.put, sA]; try simp only [sB, sC]
            refine' takeH (i := 7) (v := _) rfl (by kernel_rfl) (by kernel_rfl) (by kernel_rfl) (fun _ _ _ h => h) (yields_of (by rfl) (fun w' _ => ?_)) inferInstance ?_
            rotate_left
            · (go_simp; try with_reducible rfl)
            try simp only [Act.put, sA]; try simp only [sB, sC]
            refine' takeH (i := 8) (v := _) rfl (by kernel_rfl) (by kernel_rfl) (by kernel_rfl) (fun _ _ _ h => h) (yields_of (by rfl) (fun w' _ => ?_)) inferInstance ?_
            rotate_left
            · (go_simp; try with_reducible rfl)
            try simp only [Act.put, sA]; try simp only [sB, sC]
            refine wpAnyH_ready (rs := [9, 10]) (by kernel_rfl) (by simp) (AllReadyH.cons rfl (fun K_ hK_ => ?_) (AllReadyH.cons rfl (fun K_ hK_ => ?_) AllReadyH.nil))
            focus
              go_simp
              refine Calls.mono (sealS_calls (zs := z5) (zk := z0) (pub := pubS (kSeed sd 0)) (seed := kSeed sd 0) (used := used) (m := rtB sd (g + 1)) HN.out.symm (own_capL hO.out) (by rw [HN.out]; exact HLEN.out) h0 h16 h05 (fun ad e => by have := hA6 ad e; constructor <;> omega)) ?_
              rintro e w7 ⟨v7, rfl, st7, hk7, hs7, hE7⟩
              have hone7 : (#[.slice A n c, v7] : Array Value).all (·.oneCell') = true := two_one _ _ rfl hE7.out.v.one.2
              have hA7 : ∀ ad, A = some ad → ad.block < w7.heap.size := fun ad e => Nat.lt_of_lt_of_le (hO.out.lt e) (inferInstance : SzLe w6 w7).out
              (try have hE8 := Lib.hid (hE7.out.offT (LO := LO) hzA (fun ad e => ⟨hA6 ad e, hA7 ad e⟩) (by rw [hLO]; exact (inferInstance : SzLe wx _).out) (.inl (Nat.lt_of_lt_of_le h6.out.lt (SzLe.out (w0 := wz6))))))
              refine hK_.out _ _ inferInstance (fun _ => ?_)
              clear hK_ K_
              try simp only [Act.put, sA]; try simp only [sB, sC]
              refine goH (i := 10) (by kernel_rfl) rfl (fun K_ hK_ => ?_)
              rw [if_pos (by kernel_rfl)]
              refine wpr_of_list ?_
              ((with_reducible apply (wpl_alloc (dst := some 6))); intro z6 wz6 b6 s6 h6; have hz6 : LO ≤ z6 := (by rw [hLO, b6.eq]; exact (inferInstance : SzLe wx _).out); have o6a : OffB (two z0 z5) z6 := ⟨fun h => (by rcases h with h | h <;> omega)⟩; have o6b : OffB (only zk) z6 := ⟨fun h => (by have h' : z6 = zk := h; omega)⟩; (try have hzA : ∀ ad, A = some ad → ad.block ≠ z6 := (fun ad e => Nat.ne_of_lt (Nat.lt_of_lt_of_le (hO.out.lt e) (by rw [b6.eq]; exact (inferInstance : SzLe w6 _).out)))); (try have hE8 := Lib.hid (hE7.out.offT (LO := LO) hzA (fun ad e => ⟨hA6 ad e, hA7 ad e⟩) (by rw [hLO]; exact (inferInstance : SzLe wx _).out) (.inr (by rw [b6.eq]; exact (inferInstance : SzLe w7 _).out)))))
              refine wpList_nil ?_
              unfold onlyN
              refine hK_.out _ _ inferInstance (fun _ => ?_)
              clear hK_ K_
              try simp only [Act.put, sA]; try simp only [sB, sC]
              refine goH (i := 11) (by kernel_rfl) rfl (fun K_ hK_ => ?_)
              rw [if_pos (by kernel_rfl)]
              refine wpr_of_list ?_
              ((with_reducible apply wpl_storerow); (exact rfl); (exact rfl); infer_instance; infer_instance; (exact rfl); (exact rfl); (exact hone7); intro wz stz hz6b)
              refine wpList_nil ?_
              unfold onlyN
              refine hK_.out _ _ inferInstance (fun _ => ?_)
              clear hK_ K_
              try simp only [Act.put]
              refine wpAnyH_done (by kernel_rfl) ?_ _
            rotate_left 1
            focus
              rw [if_pos (by kernel_rfl)]
              refine wpr_of_list ?_
              ((with_reducible apply (wpl_alloc (dst := some 6))); intro z6 wz6 b6 s6 h6; have hz6 : LO ≤ z6 := (by rw [hLO, b6.eq]; exact (inferInstance : SzLe wx _).out); have o6a : OffB (two z0 z5) z6 := ⟨fun h => (by rcases h with h | h <;> omega)⟩; have o6b : OffB (only zk) z6 := ⟨fun h => (by have h' : z6 = zk := h; omega)⟩; (try have hzA : ∀ ad, A = some ad → ad.block ≠ z6 := (fun ad e => Nat.ne_of_lt (Nat.lt_of_lt_of_le (hO.out.lt e) (by rw [b6.eq]; exact (inferInstance : SzLe w6 _).out)))); (try have hE8 := Lib.hid (hE7.out.offT (LO := LO) hzA (fun ad e => ⟨hA6 ad e, hA7 ad e⟩) (by rw [hLO]; exact (inferInstance : SzLe wx _).out) (.inr (by rw [b6.eq]; exact (inferInstance : SzLe w7 _).out)))))
              refine wpList_nil ?_
              unfold onlyN
              refine hK_.out _ _ inferInstance (fun _ => ?_)
              clear hK_ K_
              try simp only [Act.put, sA]; try simp only [sB, sC]
              refine goH (i := 9) (by kernel_rfl) rfl (fun K_ hK_ => ?_)
              go_simp
              refine Calls.mono (sealS_calls (zs := z5) (zk := z0) (pub := pubS (kSeed sd 0)) (seed := kSeed sd 0) (used := used) (m := rtB sd (g + 1)) HN.out.symm (own_capL hO.out) (by rw [HN.out]; exact HLEN.out) h0 h16 h05 (fun ad e => by have := hA6 ad e; constructor <;> omega)) ?_
              rintro e w7 ⟨v7, rfl, st7, hk7, hs7, hE7⟩
              have hone7 : (#[.slice A n c, v7] : Array Value).all (·.oneCell') = true := two_one _ _ rfl hE7.out.v.one.2
              have hA7 : ∀ ad, A = some ad → ad.block < w7.heap.size := fun ad e => Nat.lt_of_lt_of_le (hO.out.lt e) (inferInstance : SzLe w6 w7).out
              (try have hE8 := Lib.hid (hE7.out.offT (LO := LO) hzA (fun ad e => ⟨hA6 ad e, hA7 ad e⟩) (by rw [hLO]; exact (inferInstance : SzLe wx _).out) (.inl (Nat.lt_of_lt_of_le h6.out.lt (SzLe.out (w0 := wz6))))))
              refine hK_.out _ _ inferInstance (fun _ => ?_)
              clear hK_ K_
              try simp only [Act.put, sA]; try simp only [sB, sC]
              refine goH (i := 11) (by kernel_rfl) rfl (fun K_ hK_ => ?_)
              rw [if_pos (by kernel_rfl)]
              refine wpr_of_list ?_
              ((with_reducible apply wpl_storerow); (exact rfl); (exact rfl); infer_instance; infer_instance; (exact rfl); (exact rfl); (exact hone7); intro wz stz hz6b)
              refine wpList_nil ?_
              unfold onlyN
              refine hK_.out _ _ inferInstance (fun _ => ?_)
              clear hK_ K_
              try simp only [Act.put]
              refine wpAnyH_done (by kernel_rfl) ?_ _
            rotate_left 1
          rotate_left 2
          focus
            rw [if_pos (by kernel_rfl)]
            refine wpr_of_list ?_
            ((with_reducible apply (wpl_alloc (dst := some 6))); intro z6 wz6 b6 s6 h6; have hz6 : LO ≤ z6 := (by rw [hLO, b6.eq]; exact (inferInstance : SzLe wx _).out); have o6a : OffB (two z0 z5) z6 := ⟨fun h => (by rcases h with h | h <;> omega)⟩; have o6b : OffB (only zk) z6 := ⟨fun h => (by have h' : z6 = zk := h; omega)⟩; (try have hzA : ∀ ad, A = some ad → ad.block ≠ z6 := (fun ad e => Nat.ne_of_lt (Nat.lt_of_lt_of_le (hO.out.lt e) (by rw [b6.eq]; exact (inferInstance : SzLe w6 _).out)))); (try have hE8 := Lib.hid (hE7.out.offT (LO := LO) hzA (fun ad e => ⟨hA6 ad e, hA7 ad e⟩) (by rw [hLO]; exact (inferInstance : SzLe wx _).out) (.inr (by rw [b6.eq]; exact (inferInstance : SzLe w7 _).out)))))
            refine wpList_nil ?_
            unfold onlyN
            refine hK_.out _ _ inferInstance (fun _ => ?_)
            clear hK_ K_
            try simp only [Act.put, sA]; try simp only [sB, sC]
            refine goH (i := 6) (by kernel_rfl) rfl (fun K_ hK_ => ?_)
            go_simp
            refine (EncodeRoot_calls (g + 1) 1073741824 K hK (fun k hk => KIn.chg (hKM.out.1 k hk) (stepN (w0 := w5)).chg (fun _ _ h => h))).mono ?_
            unfold EncPost
            rw [HOK.out, HKE.out]
            rintro e w6 ⟨st6, A, n, c, rfl, hn, hO, hN⟩
            have HN := Lib.hid hn
            clear hn
            have hA6 : ∀ ad, A = some ad → LO ≤ ad.block := fun ad e => Nat.le_trans (by rw [hLO]; exact (inferInstance : SzLe wx _).out) (hN.out ad e)
            (try have hzA : ∀ ad, A = some ad → ad.block ≠ z6 := (fun ad e => Nat.ne_of_gt (Nat.lt_of_lt_of_le (Nat.lt_of_lt_of_le h6.out.lt (SzLe.out (w0 := wz6))) (hN.out ad e))))
            have hrA : HR w6 A (bs (rtB sd (g + 1))) := ⟨hO.out.rd⟩
            refine hK_.out _ _ inferInstance (fun _ => ?_)
            clear hK_ K_
            try simp only [Act.put, sA]; try simp only [sB, sC]
            refine' takeH (i := 7) (v := _) rfl (by kernel_rfl) (by kernel_rfl) (by kernel_rfl) (fun _ _ _ h => h) (yields_of (by rfl) (fun w' _ => ?_)) inferInstance ?_
            rotate_left
            · (go_simp; try with_reducible rfl)
            try simp only [Act.put, sA]; try simp only [sB, sC]
            refine' takeH (i := 8) (v := _) rfl (by kernel_rfl) (by kernel_rfl) (by kernel_rfl) (fun _ _ _ h => h) (yields_of (by rfl) (fun w' _ => ?_)) inferInstance ?_
            rotate_left
            · (go_simp; try with_reducible rfl)
            try simp only [Act.put, sA]; try simp only [sB, sC]
            refine goH (i := 9) (by kernel_rfl) rfl (fun K_ hK_ => ?_)
            go_simp
            refine Calls.mono (sealS_calls (zs := z5) (zk := z0) (pub := pubS (kSeed sd 0)) (seed := kSeed sd 0) (used := used) (m := rtB sd (g + 1)) HN.out.symm (own_capL hO.out) (by rw [HN.out]; exact HLEN.out) h0 h16 h05 (fun ad e => by have := hA6 ad e; constructor <;> omega)) ?_
            rintro e w7 ⟨v7, rfl, st7, hk7, hs7, hE7⟩
            have hone7 : (#[.slice A n c, v7] : Array Value).all (·.oneCell') = true := two_one _ _ rfl hE7.out.v.one.2
            have hA7 : ∀ ad, A = some ad → ad.block < w7.heap.size := fun ad e => Nat.lt_of_lt_of_le (hO.out.lt e) (inferInstance : SzLe w6 w7).out
            (try have hE8 := Lib.hid (hE7.out.offT (LO := LO) hzA (fun ad e => ⟨hA6 ad e, hA7 ad e⟩) (by rw [hLO]; exact (inferInstance : SzLe wx _).out) (.inl (Nat.lt_of_lt_of_le h6.out.lt (SzLe.out (w0 := wz6))))))
            refine hK_.out _ _ inferInstance (fun _ => ?_)
            clear hK_ K_
            try simp only [Act.put, sA]; try simp only [sB, sC]
            refine goH (i := 11) (by kernel_rfl) rfl (fun K_ hK_ => ?_)
            rw [if_pos (by kernel_rfl)]
            refine wpr_of_list ?_
            ((with_reducible apply wpl_storerow); (exact rfl); (exact rfl); infer_instance; infer_instance; (exact rfl); (exact rfl); (exact hone7); intro wz stz hz6b)
            refine wpList_nil ?_
            unfold onlyN
            refine hK_.out _ _ inferInstance (fun _ => ?_)
            clear hK_ K_
            try simp only [Act.put]
            refine wpAnyH_done (by kernel_rfl) ?_ _
          rotate_left 1
        rotate_left 3
        focus
          rw [if_pos (by kernel_rfl)]
          refine wpr_of_list ?_
          ((with_reducible apply (wpl_alloc (dst := some 6))); intro z6 wz6 b6 s6 h6; have hz6 : LO ≤ z6 := (by rw [hLO, b6.eq]; exact (inferInstance : SzLe wx _).out); have o6a : OffB (two z0 z5) z6 := ⟨fun h => (by rcases h with h | h <;> omega)⟩; have o6b : OffB (only zk) z6 := ⟨fun h => (by have h' : z6 = zk := h; omega)⟩; (try have hzA : ∀ ad, A = some ad → ad.block ≠ z6 := (fun ad e => Nat.ne_of_lt (Nat.lt_of_lt_of_le (hO.out.lt e) (by rw [b6.eq]; exact (inferInstance : SzLe w6 _).out)))); (try have hE8 := Lib.hid (hE7.out.offT (LO := LO) hzA (fun ad e => ⟨hA6 ad e, hA7 ad e⟩) (by rw [hLO]; exact (inferInstance : SzLe wx _).out) (.inr (by rw [b6.eq]; exact (inferInstance : SzLe w7 _).out)))))
          refine wpList_nil ?_
          unfold onlyN
          refine hK_.out _ _ inferInstance (fun _ => ?_)
          clear hK_ K_
          try simp only [Act.put, sA]; try simp only [sB, sC]
          refine goH (i := 5) (by kernel_rfl) rfl (fun K_ hK_ => ?_)
          go_simp
          refine (rootOfM_calls (g + 1) (pubS (kSeed sd 0)) (pubS (kSeed sd (g + 1))) _).mono ?_
          rintro e w5 ⟨K, rfl, hK, st5, hKM⟩
          have HOK : Hid (rootOk (g + 1) 1073741824 K = true) := Lib.hid (by rw [← rootOk_eq, hKM.out.2]; exact rootB_ok _ _ _ hver.out)
          have HKE : Hid (encAll [1] ++ (encAll [g + 1, 1073741824] ++ keysE K) = rtB sd (g + 1)) := Lib.hid (by rw [← keysE_eq, hKM.out.2]; rfl)
          refine hK_.out _ _ inferInstance (fun _ => ?_)
          clear hK_ K_
          try simp only [Act.put, sA]; try simp only [sB, sC]
          refine goH (i := 6) (by kernel_rfl) rfl (fun K_ hK_ => ?_)
          go_simp
          refine (EncodeRoot_calls (g + 1) 1073741824 K hK (fun k hk => KIn.chg (hKM.out.1 k hk) (stepN (w0 := w5)).chg (fun _ _ h => h))).mono ?_
          unfold EncPost
          rw [HOK.out, HKE.out]
          rintro e w6 ⟨st6, A, n, c, rfl, hn, hO, hN⟩
          have HN := Lib.hid hn
          clear hn
          have hA6 : ∀ ad, A = some ad → LO ≤ ad.block := fun ad e => Nat.le_trans (by rw [hLO]; exact (inferInstance : SzLe wx _).out) (hN.out ad e)
          (try have hzA : ∀ ad, A = some ad → ad.block ≠ z6 := (fun ad e => Nat.ne_of_gt (Nat.lt_of_lt_of_le (Nat.lt_of_lt_of_le h6.out.lt (SzLe.out (w0 := wz6))) (hN.out ad e))))
          have hrA : HR w6 A (bs (rtB sd (g + 1))) := ⟨hO.out.rd⟩
          refine hK_.out _ _ inferInstance (fun _ => ?_)
          clear hK_ K_
          try simp only [Act.put, sA]; try simp only [sB, sC]
          refine' takeH (i := 7) (v := _) rfl (by kernel_rfl) (by kernel_rfl) (by kernel_rfl) (fun _ _ _ h => h) (yields_of (by rfl) (fun w' _ => ?_)) inferInstance ?_
          rotate_left
          · (go_simp; try with_reducible rfl)
          try simp only [Act.put, sA]; try simp only [sB, sC]
          refine' takeH (i := 8) (v := _) rfl (by kernel_rfl) (by kernel_rfl) (by kernel_rfl) (fun _ _ _ h => h) (yields_of (by rfl) (fun w' _ => ?_)) inferInstance ?_
          rotate_left
          · (go_simp; try with_reducible rfl)
          try simp only [Act.put, sA]; try simp only [sB, sC]
          refine goH (i := 9) (by kernel_rfl) rfl (fun K_ hK_ => ?_)
          go_simp
          refine Calls.mono (sealS_calls (zs := z5) (zk := z0) (pub := pubS (kSeed sd 0)) (seed := kSeed sd 0) (used := used) (m := rtB sd (g + 1)) HN.out.symm (own_capL hO.out) (by rw [HN.out]; exact HLEN.out) h0 h16 h05 (fun ad e => by have := hA6 ad e; constructor <;> omega)) ?_
          rintro e w7 ⟨v7, rfl, st7, hk7, hs7, hE7⟩
          have hone7 : (#[.slice A n c, v7] : Array Value).all (·.oneCell') = true := two_one _ _ rfl hE7.out.v.one.2
          have hA7 : ∀ ad, A = some ad → ad.block < w7.heap.size := fun ad e => Nat.lt_of_lt_of_le (hO.out.lt e) (inferInstance : SzLe w6 w7).out
          (try have hE8 := Lib.hid (hE7.out.offT (LO := LO) hzA (fun ad e => ⟨hA6 ad e, hA7 ad e⟩) (by rw [hLO]; exact (inferInstance : SzLe wx _).out) (.inl (Nat.lt_of_lt_of_le h6.out.lt (SzLe.out (w0 := wz6))))))
          refine hK_.out _ _ inferInstance (fun _ => ?_)
          clear hK_ K_
          try simp only [Act.put, sA]; try simp only [sB, sC]
          refine goH (i := 11) (by kernel_rfl) rfl (fun K_ hK_ => ?_)
          rw [if_pos (by kernel_rfl)]
          refine wpr_of_list ?_
          ((with_reducible apply wpl_storerow); (exact rfl); (exact rfl); infer_instance; infer_instance; (exact rfl); (exact rfl); (exact hone7); intro wz stz hz6b)
          refine wpList_nil ?_
          unfold onlyN
          refine hK_.out _ _ inferInstance (fun _ => ?_)
          clear hK_ K_
          try simp only [Act.put]
          refine wpAnyH_done (by kernel_rfl) ?_ _
        rotate_left 1
      rotate_left 4
      focus
        rw [if_pos (by kernel_rfl)]
        refine wpr_of_list ?_
        ((with_reducible apply (wpl_alloc (dst := some 6))); intro z6 wz6 b6 s6 h6; have hz6 : LO ≤ z6 := (by rw [hLO, b6.eq]; exact (inferInstance : SzLe wx _).out); have o6a : OffB (two z0 z5) z6 := ⟨fun h => (by rcases h with h | h <;> omega)⟩; have o6b : OffB (only zk) z6 := ⟨fun h => (by have h' : z6 = zk := h; omega)⟩; (try have hzA : ∀ ad, A = some ad → ad.block ≠ z6 := (fun ad e => Nat.ne_of_lt (Nat.lt_of_lt_of_le (hO.out.lt e) (by rw [b6.eq]; exact (inferInstance : SzLe w6 _).out)))); (try have hE8 := Lib.hid (hE7.out.offT (LO := LO) hzA (fun ad e => ⟨hA6 ad e, hA7 ad e⟩) (by rw [hLO]; exact (inferInstance : SzLe wx _).out) (.inr (by rw [b6.eq]; exact (inferInstance : SzLe w7 _).out)))))
        refine wpList_nil ?_
        unfold onlyN
        refine hK_.out _ _ inferInstance (fun _ => ?_)
        clear hK_ K_
        try simp only [Act.put, sA]; try simp only [sB, sC]
        refine goH (i := 4) (by kernel_rfl) rfl (fun K_ hK_ => ?_)
        go_simp
        refine (kpublic_calls (zk := zk) (seed := kSeed sd (g + 1)) (used := 0)).mono ?_
        rintro e w4 ⟨rfl, st4, hk4⟩
        refine hK_.out _ _ inferInstance (fun _ => ?_)
        clear hK_ K_
        try simp only [Act.put, sA]; try simp only [sB, sC]
        refine goH (i := 5) (by kernel_rfl) rfl (fun K_ hK_ => ?_)
        go_simp
        refine (rootOfM_calls (g + 1) (pubS (kSeed sd 0)) (pubS (kSeed sd (g + 1))) _).mono ?_
        rintro e w5 ⟨K, rfl, hK, st5, hKM⟩
        have HOK : Hid (rootOk (g + 1) 1073741824 K = true) := Lib.hid (by rw [← rootOk_eq, hKM.out.2]; exact rootB_ok _ _ _ hver.out)
        have HKE : Hid (encAll [1] ++ (encAll [g + 1, 1073741824] ++ keysE K) = rtB sd (g + 1)) := Lib.hid (by rw [← keysE_eq, hKM.out.2]; rfl)
        refine hK_.out _ _ inferInstance (fun _ => ?_)
        clear hK_ K_
        try simp only [Act.put, sA]; try simp only [sB, sC]
        refine goH (i := 6) (by kernel_rfl) rfl (fun K_ hK_ => ?_)
        go_simp
        refine (EncodeRoot_calls (g + 1) 1073741824 K hK (fun k hk => KIn.chg (hKM.out.1 k hk) (stepN (w0 := w5)).chg (fun _ _ h => h))).mono ?_
        unfold EncPost
        rw [HOK.out, HKE.out]
        rintro e w6 ⟨st6, A, n, c, rfl, hn, hO, hN⟩
        have HN := Lib.hid hn
        clear hn
        have hA6 : ∀ ad, A = some ad → LO ≤ ad.block := fun ad e => Nat.le_trans (by rw [hLO]; exact (inferInstance : SzLe wx _).out) (hN.out ad e)
        (try have hzA : ∀ ad, A = some ad → ad.block ≠ z6 := (fun ad e => Nat.ne_of_gt (Nat.lt_of_lt_of_le (Nat.lt_of_lt_of_le h6.out.lt (SzLe.out (w0 := wz6))) (hN.out ad e))))
        have hrA : HR w6 A (bs (rtB sd (g + 1))) := ⟨hO.out.rd⟩
        refine hK_.out _ _ inferInstance (fun _ => ?_)
        clear hK_ K_
        try simp only [Act.put, sA]; try simp only [sB, sC]
        refine' takeH (i := 7) (v := _) rfl (by kernel_rfl) (by kernel_rfl) (by kernel_rfl) (fun _ _ _ h => h) (yields_of (by rfl) (fun w' _ => ?_)) inferInstance ?_
        rotate_left
        · (go_simp; try with_reducible rfl)
        try simp only [Act.put, sA]; try simp only [sB, sC]
        refine' takeH (i := 8) (v := _) rfl (by kernel_rfl) (by kernel_rfl) (by kernel_rfl) (fun _ _ _ h => h) (yields_of (by rfl) (fun w' _ => ?_)) inferInstance ?_
        rotate_left
        · (go_simp; try with_reducible rfl)
        try simp only [Act.put, sA]; try simp only [sB, sC]
        refine goH (i := 9) (by kernel_rfl) rfl (fun K_ hK_ => ?_)
        go_simp
        refine Calls.mono (sealS_calls (zs := z5) (zk := z0) (pub := pubS (kSeed sd 0)) (seed := kSeed sd 0) (used := used) (m := rtB sd (g + 1)) HN.out.symm (own_capL hO.out) (by rw [HN.out]; exact HLEN.out) h0 h16 h05 (fun ad e => by have := hA6 ad e; constructor <;> omega)) ?_
        rintro e w7 ⟨v7, rfl, st7, hk7, hs7, hE7⟩
        have hone7 : (#[.slice A n c, v7] : Array Value).all (·.oneCell') = true := two_one _ _ rfl hE7.out.v.one.2
        have hA7 : ∀ ad, A = some ad → ad.block < w7.heap.size := fun ad e => Nat.lt_of_lt_of_le (hO.out.lt e) (inferInstance : SzLe w6 w7).out
        (try have hE8 := Lib.hid (hE7.out.offT (LO := LO) hzA (fun ad e => ⟨hA6 ad e, hA7 ad e⟩) (by rw [hLO]; exact (inferInstance : SzLe wx _).out) (.inl (Nat.lt_of_lt_of_le h6.out.lt (SzLe.out (w0 := wz6))))))
        refine hK_.out _ _ inferInstance (fun _ => ?_)
        clear hK_ K_
        try simp only [Act.put, sA]; try simp only [sB, sC]
        refine goH (i := 11) (by kernel_rfl) rfl (fun K_ hK_ => ?_)
        rw [if_pos (by kernel_rfl)]
        refine wpr_of_list ?_
        ((with_reducible apply wpl_storerow); (exact rfl); (exact rfl); infer_instance; infer_instance; (exact rfl); (exact rfl); (exact hone7); intro wz stz hz6b)
        refine wpList_nil ?_
        unfold onlyN
        refine hK_.out _ _ inferInstance (fun _ => ?_)
        clear hK_ K_
        try simp only [Act.put]
        refine wpAnyH_done (by kernel_rfl) ?_ _
      rotate_left 1
    rotate_left 5
    focus
      go_simp
      refine (kpublic_calls (zk := zk) (seed := kSeed sd (g + 1)) (used := 0)).mono ?_
      rintro e w4 ⟨rfl, st4, hk4⟩
      refine hK_.out _ _ inferInstance (fun _ => ?_)
      clear hK_ K_
      try simp only [Act.put, sA]; try simp only [sB, sC]
      refine wpAnyH_ready (rs := [2, 10]) (by kernel_rfl) (by simp) (AllReadyH.cons rfl (fun K_ hK_ => ?_) (AllReadyH.cons rfl (fun K_ hK_ => ?_) AllReadyH.nil))
      focus
        rw [if_pos (by kernel_rfl)]
        refine wpr_of_list ?_
        ((with_reducible apply (wpl_loadpartH (k := 0))); (exact rfl); infer_instance; infer_instance; (exact sl_pub _ _ _))
        refine wpList_nil ?_
        unfold onlyN
        refine hK_.out _ _ inferInstance (fun _ => ?_)
        clear hK_ K_
        try simp only [Act.put, sA]; try simp only [sB, sC]
        refine wpAnyH_ready (rs := [5, 10]) (by kernel_rfl) (by simp) (AllReadyH.cons rfl (fun K_ hK_ => ?_) (AllReadyH.cons rfl (fun K_ hK_ => ?_) AllReadyH.nil))
        focus
          go_simp
          refine (rootOfM_calls (g + 1) (pubS (kSeed sd 0)) (pubS (kSeed sd (g + 1))) _).mono ?_
          rintro e w5 ⟨K, rfl, hK, st5, hKM⟩
          have HOK : Hid (rootOk (g + 1) 1073741824 K = true) := Lib.hid (by rw [← rootOk_eq, hKM.out.2]; exact rootB_ok _ _ _ hver.out)
          have HKE : Hid (encAll [1] ++ (encAll [g + 1, 1073741824] ++ keysE K) = rtB sd (g + 1)) := Lib.hid (by rw [← keysE_eq, hKM.out.2]; rfl)
          refine hK_.out _ _ inferInstance (fun _ => ?_)
          clear hK_ K_
          try simp only [Act.put, sA]; try simp only [sB, sC]
          refine wpAnyH_ready (rs := [6, 10]) (by kernel_rfl) (by simp) (AllReadyH.cons rfl (fun K_ hK_ => ?_) (AllReadyH.cons rfl (fun K_ hK_ => ?_) AllReadyH.nil))
          focus
            go_simp
            refine (EncodeRoot_calls (g + 1) 1073741824 K hK (fun k hk => KIn.chg (hKM.out.1 k hk) (stepN (w0 := w5)).chg (fun _ _ h => h))).mono ?_
            unfold EncPost
            rw [HOK.out, HKE.out]
            rintro e w6 ⟨st6, A, n, c, rfl, hn, hO, hN⟩
            have HN := Lib.hid hn
            clear hn
            have hA6 : ∀ ad, A = some ad → LO ≤ ad.block := fun ad e => Nat.le_trans (by rw [hLO]; exact (inferInstance : SzLe wx _).out) (hN.out ad e)
            (try have hzA : ∀ ad, A = some ad → ad.block ≠ z6 := (fun ad e => Nat.ne_of_gt (Nat.lt_of_lt_of_le (Nat.lt_of_lt_of_le h6.out.lt (SzLe.out (w0 := wz6))) (hN.out ad e))))
            have hrA : HR w6 A (bs (rtB sd (g + 1))) := ⟨hO.out.rd⟩
            refine hK_.out _ _ inferInstance (fun _ => ?_)
            clear hK_ K_
            try simp only [Act.put, sA]; try simp only [sB, sC]
            refine' takeH (i := 7) (v := _) rfl (by kernel_rfl) (by kernel_rfl) (by kernel_rfl) (fun _ _ _ h => h) (yields_of (by rfl) (fun w' _ => ?_)) inferInstance ?_
            rotate_left
            · (go_simp; try with_reducible rfl)
            try simp only [Act.put, sA]; try simp only [sB, sC]
            refine' takeH (i := 8) (v := _) rfl (by kernel_rfl) (by kernel_rfl) (by kernel_rfl) (fun _ _ _ h => h) (yields_of (by rfl) (fun w' _ => ?_)) inferInstance ?_
            rotate_left
            · (go_simp; try with_reducible rfl)
            try simp only [Act.put, sA]; try simp only [sB, sC]
            refine wpAnyH_ready (rs := [9, 10]) (by kernel_rfl) (by simp) (AllReadyH.cons rfl (fun K_ hK_ => ?_) (AllReadyH.cons rfl (fun K_ hK_ => ?_) AllReadyH.nil))
            focus
              go_simp
              refine Calls.mono (sealS_calls (zs := z5) (zk := z0) (pub := pubS (kSeed sd 0)) (seed := kSeed sd 0) (used := used) (m := rtB sd (g + 1)) HN.out.symm (own_capL hO.out) (by rw [HN.out]; exact HLEN.out) h0 h16 h05 (fun ad e => by have := hA6 ad e; constructor <;> omega)) ?_
              rintro e w7 ⟨v7, rfl, st7, hk7, hs7, hE7⟩
              have hone7 : (#[.slice A n c, v7] : Array Value).all (·.oneCell') = true := two_one _ _ rfl hE7.out.v.one.2
              have hA7 : ∀ ad, A = some ad → ad.block < w7.heap.size := fun ad e => Nat.lt_of_lt_of_le (hO.out.lt e) (inferInstance : SzLe w6 w7).out
              (try have hE8 := Lib.hid (hE7.out.offT (LO := LO) hzA (fun ad e => ⟨hA6 ad e, hA7 ad e⟩) (by rw [hLO]; exact (inferInstance : SzLe wx _).out) (.inl (Nat.lt_of_lt_of_le h6.out.lt (SzLe.out (w0 := wz6))))))
              refine hK_.out _ _ inferInstance (fun _ => ?_)
              clear hK_ K_
              try simp only [Act.put, sA]; try simp only [sB, sC]
              refine goH (i := 10) (by kernel_rfl) rfl (fun K_ hK_ => ?_)
              rw [if_pos (by kernel_rfl)]
              refine wpr_of_list ?_
              ((with_reducible apply (wpl_alloc (dst := some 6))); intro z6 wz6 b6 s6 h6; have hz6 : LO ≤ z6 := (by rw [hLO, b6.eq]; exact (inferInstance : SzLe wx _).out); have o6a : OffB (two z0 z5) z6 := ⟨fun h => (by rcases h with h | h <;> omega)⟩; have o6b : OffB (only zk) z6 := ⟨fun h => (by have h' : z6 = zk := h; omega)⟩; (try have hzA : ∀ ad, A = some ad → ad.block ≠ z6 := (fun ad e => Nat.ne_of_lt (Nat.lt_of_lt_of_le (hO.out.lt e) (by rw [b6.eq]; exact (inferInstance : SzLe w6 _).out)))); (try have hE8 := Lib.hid (hE7.out.offT (LO := LO) hzA (fun ad e => ⟨hA6 ad e, hA7 ad e⟩) (by rw [hLO]; exact (inferInstance : SzLe wx _).out) (.inr (by rw [b6.eq]; exact (inferInstance : SzLe w7 _).out)))))
              refine wpList_nil ?_
              unfold onlyN
              refine hK_.out _ _ inferInstance (fun _ => ?_)
              clear hK_ K_
              try simp only [Act.put, sA]; try simp only [sB, sC]
              refine goH (i := 11) (by kernel_rfl) rfl (fun K_ hK_ => ?_)
              rw [if_pos (by kernel_rfl)]
              refine wpr_of_list ?_
              ((with_reducible apply wpl_storerow); (exact rfl); (exact rfl); infer_instance; infer_instance; (exact rfl); (exact rfl); (exact hone7); intro wz stz hz6b)
              refine wpList_nil ?_
              unfold onlyN
              refine hK_.out _ _ inferInstance (fun _ => ?_)
              clear hK_ K_
              try simp only [Act.put]
              refine wpAnyH_done (by kernel_rfl) ?_ _
            rotate_left 1
            focus
              rw [if_pos (by kernel_rfl)]
              refine wpr_of_list ?_
              ((with_reducible apply (wpl_alloc (dst := some 6))); intro z6 wz6 b6 s6 h6; have hz6 : LO ≤ z6 := (by rw [hLO, b6.eq]; exact (inferInstance : SzLe wx _).out); have o6a : OffB (two z0 z5) z6 := ⟨fun h => (by rcases h with h | h <;> omega)⟩; have o6b : OffB (only zk) z6 := ⟨fun h => (by have h' : z6 = zk := h; omega)⟩; (try have hzA : ∀ ad, A = some ad → ad.block ≠ z6 := (fun ad e => Nat.ne_of_lt (Nat.lt_of_lt_of_le (hO.out.lt e) (by rw [b6.eq]; exact (inferInstance : SzLe w6 _).out)))); (try have hE8 := Lib.hid (hE7.out.offT (LO := LO) hzA (fun ad e => ⟨hA6 ad e, hA7 ad e⟩) (by rw [hLO]; exact (inferInstance : SzLe wx _).out) (.inr (by rw [b6.eq]; exact (inferInstance : SzLe w7 _).out)))))
              refine wpList_nil ?_
              unfold onlyN
              refine hK_.out _ _ inferInstance (fun _ => ?_)
              clear hK_ K_
              try simp only [Act.put, sA]; try simp only [sB, sC]
              refine goH (i := 9) (by kernel_rfl) rfl (fun K_ hK_ => ?_)
              go_simp
              refine Calls.mono (sealS_calls (zs := z5) (zk := z0) (pub := pubS (kSeed sd 0)) (seed := kSeed sd 0) (used := used) (m := rtB sd (g + 1)) HN.out.symm (own_capL hO.out) (by rw [HN.out]; exact HLEN.out) h0 h16 h05 (fun ad e => by have := hA6 ad e; constructor <;> omega)) ?_
              rintro e w7 ⟨v7, rfl, st7, hk7, hs7, hE7⟩
              have hone7 : (#[.slice A n c, v7] : Array Value).all (·.oneCell') = true := two_one _ _ rfl hE7.out.v.one.2
              have hA7 : ∀ ad, A = some ad → ad.block < w7.heap.size := fun ad e => Nat.lt_of_lt_of_le (hO.out.lt e) (inferInstance : SzLe w6 w7).out
              (try have hE8 := Lib.hid (hE7.out.offT (LO := LO) hzA (fun ad e => ⟨hA6 ad e, hA7 ad e⟩) (by rw [hLO]; exact (inferInstance : SzLe wx _).out) (.inl (Nat.lt_of_lt_of_le h6.out.lt (SzLe.out (w0 := wz6))))))
              refine hK_.out _ _ inferInstance (fun _ => ?_)
              clear hK_ K_
              try simp only [Act.put, sA]; try simp only [sB, sC]
              refine goH (i := 11) (by kernel_rfl) rfl (fun K_ hK_ => ?_)
              rw [if_pos (by kernel_rfl)]
              refine wpr_of_list ?_
              ((with_reducible apply wpl_storerow); (exact rfl); (exact rfl); infer_instance; infer_instance; (exact rfl); (exact rfl); (exact hone7); intro wz stz hz6b)
              refine wpList_nil ?_
              unfold onlyN
              refine hK_.out _ _ inferInstance (fun _ => ?_)
              clear hK_ K_
              try simp only [Act.put]
              refine wpAnyH_done (by kernel_rfl) ?_ _
            rotate_left 1
          rotate_left 2
          focus
            rw [if_pos (by kernel_rfl)]
            refine wpr_of_list ?_
            ((with_reducible apply (wpl_alloc (dst := some 6))); intro z6 wz6 b6 s6 h6; have hz6 : LO ≤ z6 := (by rw [hLO, b6.eq]; exact (inferInstance : SzLe wx _).out); have o6a : OffB (two z0 z5) z6 := ⟨fun h => (by rcases h with h | h <;> omega)⟩; have o6b : OffB (only zk) z6 := ⟨fun h => (by have h' : z6 = zk := h; omega)⟩; (try have hzA : ∀ ad, A = some ad → ad.block ≠ z6 := (fun ad e => Nat.ne_of_lt (Nat.lt_of_lt_of_le (hO.out.lt e) (by rw [b6.eq]; exact (inferInstance : SzLe w6 _).out)))); (try have hE8 := Lib.hid (hE7.out.offT (LO := LO) hzA (fun ad e => ⟨hA6 ad e, hA7 ad e⟩) (by rw [hLO]; exact (inferInstance : SzLe wx _).out) (.inr (by rw [b6.eq]; exact (inferInstance : SzLe w7 _).out)))))
            refine wpList_nil ?_
            unfold onlyN
            refine hK_.out _ _ inferInstance (fun _ => ?_)
            clear hK_ K_
            try simp only [Act.put, sA]; try simp only [sB, sC]
            refine goH (i := 6) (by kernel_rfl) rfl (fun K_ hK_ => ?_)
            go_simp
            refine (EncodeRoot_calls (g + 1) 1073741824 K hK (fun k hk => KIn.chg (hKM.out.1 k hk) (stepN (w0 := w5)).chg (fun _ _ h => h))).mono ?_
            unfold EncPost
            rw [HOK.out, HKE.out]
            rintro e w6 ⟨st6, A, n, c, rfl, hn, hO, hN⟩
            have HN := Lib.hid hn
            clear hn
            have hA6 : ∀ ad, A = some ad → LO ≤ ad.block := fun ad e => Nat.le_trans (by rw [hLO]; exact (inferInstance : SzLe wx _).out) (hN.out ad e)
            (try have hzA : ∀ ad, A = some ad → ad.block ≠ z6 := (fun ad e => Nat.ne_of_gt (Nat.lt_of_lt_of_le (Nat.lt_of_lt_of_le h6.out.lt (SzLe.out (w0 := wz6))) (hN.out ad e))))
            have hrA : HR w6 A (bs (rtB sd (g + 1))) := ⟨hO.out.rd⟩
            refine hK_.out _ _ inferInstance (fun _ => ?_)
            clear hK_ K_
            try simp only [Act.put, sA]; try simp only [sB, sC]
            refine' takeH (i := 7) (v := _) rfl (by kernel_rfl) (by kernel_rfl) (by kernel_rfl) (fun _ _ _ h => h) (yields_of (by rfl) (fun w' _ => ?_)) inferInstance ?_
            rotate_left
            · (go_simp; try with_reducible rfl)
            try simp only [Act.put, sA]; try simp only [sB, sC]
            refine' takeH (i := 8) (v := _) rfl (by kernel_rfl) (by kernel_rfl) (by kernel_rfl) (fun _ _ _ h => h) (yields_of (by rfl) (fun w' _ => ?_)) inferInstance ?_
            rotate_left
            · (go_simp; try with_reducible rfl)
            try simp only [Act.put, sA]; try simp only [sB, sC]
            refine goH (i := 9) (by kernel_rfl) rfl (fun K_ hK_ => ?_)
            go_simp
            refine Calls.mono (sealS_calls (zs := z5) (zk := z0) (pub := pubS (kSeed sd 0)) (seed := kSeed sd 0) (used := used) (m := rtB sd (g + 1)) HN.out.symm (own_capL hO.out) (by rw [HN.out]; exact HLEN.out) h0 h16 h05 (fun ad e => by have := hA6 ad e; constructor <;> omega)) ?_
            rintro e w7 ⟨v7, rfl, st7, hk7, hs7, hE7⟩
            have hone7 : (#[.slice A n c, v7] : Array Value).all (·.oneCell') = true := two_one _ _ rfl hE7.out.v.one.2
            have hA7 : ∀ ad, A = some ad → ad.block < w7.heap.size := fun ad e => Nat.lt_of_lt_of_le (hO.out.lt e) (inferInstance : SzLe w6 w7).out
            (try have hE8 := Lib.hid (hE7.out.offT (LO := LO) hzA (fun ad e => ⟨hA6 ad e, hA7 ad e⟩) (by rw [hLO]; exact (inferInstance : SzLe wx _).out) (.inl (Nat.lt_of_lt_of_le h6.out.lt (SzLe.out (w0 := wz6))))))
            refine hK_.out _ _ inferInstance (fun _ => ?_)
            clear hK_ K_
            try simp only [Act.put, sA]; try simp only [sB, sC]
            refine goH (i := 11) (by kernel_rfl) rfl (fun K_ hK_ => ?_)
            rw [if_pos (by kernel_rfl)]
            refine wpr_of_list ?_
            ((with_reducible apply wpl_storerow); (exact rfl); (exact rfl); infer_instance; infer_instance; (exact rfl); (exact rfl); (exact hone7); intro wz stz hz6b)
            refine wpList_nil ?_
            unfold onlyN
            refine hK_.out _ _ inferInstance (fun _ => ?_)
            clear hK_ K_
            try simp only [Act.put]
            refine wpAnyH_done (by kernel_rfl) ?_ _
          rotate_left 1
        rotate_left 3
        focus
          rw [if_pos (by kernel_rfl)]
          refine wpr_of_list ?_
          ((with_reducible apply (wpl_alloc (dst := some 6))); intro z6 wz6 b6 s6 h6; have hz6 : LO ≤ z6 := (by rw [hLO, b6.eq]; exact (inferInstance : SzLe wx _).out); have o6a : OffB (two z0 z5) z6 := ⟨fun h => (by rcases h with h | h <;> omega)⟩; have o6b : OffB (only zk) z6 := ⟨fun h => (by have h' : z6 = zk := h; omega)⟩; (try have hzA : ∀ ad, A = some ad → ad.block ≠ z6 := (fun ad e => Nat.ne_of_lt (Nat.lt_of_lt_of_le (hO.out.lt e) (by rw [b6.eq]; exact (inferInstance : SzLe w6 _).out)))); (try have hE8 := Lib.hid (hE7.out.offT (LO := LO) hzA (fun ad e => ⟨hA6 ad e, hA7 ad e⟩) (by rw [hLO]; exact (inferInstance : SzLe wx _).out) (.inr (by rw [b6.eq]; exact (inferInstance : SzLe w7 _).out)))))
          refine wpList_nil ?_
          unfold onlyN
          refine hK_.out _ _ inferInstance (fun _ => ?_)
          clear hK_ K_
          try simp only [Act.put, sA]; try simp only [sB, sC]
          refine goH (i := 5) (by kernel_rfl) rfl (fun K_ hK_ => ?_)
          go_simp
          refine (rootOfM_calls (g + 1) (pubS (kSeed sd 0)) (pubS (kSeed sd (g + 1))) _).mono ?_
          rintro e w5 ⟨K, rfl, hK, st5, hKM⟩
          have HOK : Hid (rootOk (g + 1) 1073741824 K = true) := Lib.hid (by rw [← rootOk_eq, hKM.out.2]; exact rootB_ok _ _ _ hver.out)
          have HKE : Hid (encAll [1] ++ (encAll [g + 1, 1073741824] ++ keysE K) = rtB sd (g + 1)) := Lib.hid (by rw [← keysE_eq, hKM.out.2]; rfl)
          refine hK_.out _ _ inferInstance (fun _ => ?_)
          clear hK_ K_
          try simp only [Act.put, sA]; try simp only [sB, sC]
          refine goH (i := 6) (by kernel_rfl) rfl (fun K_ hK_ => ?_)
          go_simp
          refine (EncodeRoot_calls (g + 1) 1073741824 K hK (fun k hk => KIn.chg (hKM.out.1 k hk) (stepN (w0 := w5)).chg (fun _ _ h => h))).mono ?_
          unfold EncPost
          rw [HOK.out, HKE.out]
          rintro e w6 ⟨st6, A, n, c, rfl, hn, hO, hN⟩
          have HN := Lib.hid hn
          clear hn
          have hA6 : ∀ ad, A = some ad → LO ≤ ad.block := fun ad e => Nat.le_trans (by rw [hLO]; exact (inferInstance : SzLe wx _).out) (hN.out ad e)
          (try have hzA : ∀ ad, A = some ad → ad.block ≠ z6 := (fun ad e => Nat.ne_of_gt (Nat.lt_of_lt_of_le (Nat.lt_of_lt_of_le h6.out.lt (SzLe.out (w0 := wz6))) (hN.out ad e))))
          have hrA : HR w6 A (bs (rtB sd (g + 1))) := ⟨hO.out.rd⟩
          refine hK_.out _ _ inferInstance (fun _ => ?_)
          clear hK_ K_
          try simp only [Act.put, sA]; try simp only [sB, sC]
          refine' takeH (i := 7) (v := _) rfl (by kernel_rfl) (by kernel_rfl) (by kernel_rfl) (fun _ _ _ h => h) (yields_of (by rfl) (fun w' _ => ?_)) inferInstance ?_
          rotate_left
          · (go_simp; try with_reducible rfl)
          try simp only [Act.put, sA]; try simp only [sB, sC]
          refine' takeH (i := 8) (v := _) rfl (by kernel_rfl) (by kernel_rfl) (by kernel_rfl) (fun _ _ _ h => h) (yields_of (by rfl) (fun w' _ => ?_)) inferInstance ?_
          rotate_left
          · (go_simp; try with_reducible rfl)
          try simp only [Act.put, sA]; try simp only [sB, sC]
          refine goH (i := 9) (by kernel_rfl) rfl (fun K_ hK_ => ?_)
          go_simp
          refine Calls.mono (sealS_calls (zs := z5) (zk := z0) (pub := pubS (kSeed sd 0)) (seed := kSeed sd 0) (used := used) (m := rtB sd (g + 1)) HN.out.symm (own_capL hO.out) (by rw [HN.out]; exact HLEN.out) h0 h16 h05 (fun ad e => by have := hA6 ad e; constructor <;> omega)) ?_
          rintro e w7 ⟨v7, rfl, st7, hk7, hs7, hE7⟩
          have hone7 : (#[.slice A n c, v7] : Array Value).all (·.oneCell') = true := two_one _ _ rfl hE7.out.v.one.2
          have hA7 : ∀ ad, A = some ad → ad.block < w7.heap.size := fun ad e => Nat.lt_of_lt_of_le (hO.out.lt e) (inferInstance : SzLe w6 w7).out
          (try have hE8 := Lib.hid (hE7.out.offT (LO := LO) hzA (fun ad e => ⟨hA6 ad e, hA7 ad e⟩) (by rw [hLO]; exact (inferInstance : SzLe wx _).out) (.inl (Nat.lt_of_lt_of_le h6.out.lt (SzLe.out (w0 := wz6))))))
          refine hK_.out _ _ inferInstance (fun _ => ?_)
          clear hK_ K_
          try simp only [Act.put, sA]; try simp only [sB, sC]
          refine goH (i := 11) (by kernel_rfl) rfl (fun K_ hK_ => ?_)
          rw [if_pos (by kernel_rfl)]
          refine wpr_of_list ?_
          ((with_reducible apply wpl_storerow); (exact rfl); (exact rfl); infer_instance; infer_instance; (exact rfl); (exact rfl); (exact hone7); intro wz stz hz6b)
          refine wpList_nil ?_
          unfold onlyN
          refine hK_.out _ _ inferInstance (fun _ => ?_)
          clear hK_ K_
          try simp only [Act.put]
          refine wpAnyH_done (by kernel_rfl) ?_ _
        rotate_left 1
      rotate_left 4
      focus
        rw [if_pos (by kernel_rfl)]
        refine wpr_of_list ?_
        ((with_reducible apply (wpl_alloc (dst := some 6))); intro z6 wz6 b6 s6 h6; have hz6 : LO ≤ z6 := (by rw [hLO, b6.eq]; exact (inferInstance : SzLe wx _).out); have o6a : OffB (two z0 z5) z6 := ⟨fun h => (by rcases h with h | h <;> omega)⟩; have o6b : OffB (only zk) z6 := ⟨fun h => (by have h' : z6 = zk := h; omega)⟩; (try have hzA : ∀ ad, A = some ad → ad.block ≠ z6 := (fun ad e => Nat.ne_of_lt (Nat.lt_of_lt_of_le (hO.out.lt e) (by rw [b6.eq]; exact (inferInstance : SzLe w6 _).out)))); (try have hE8 := Lib.hid (hE7.out.offT (LO := LO) hzA (fun ad e => ⟨hA6 ad e, hA7 ad e⟩) (by rw [hLO]; exact (inferInstance : SzLe wx _).out) (.inr (by rw [b6.eq]; exact (inferInstance : SzLe w7 _).out)))))
        refine wpList_nil ?_
        unfold onlyN
        refine hK_.out _ _ inferInstance (fun _ => ?_)
        clear hK_ K_
        try simp only [Act.put, sA]; try simp only [sB, sC]
        refine goH (i := 2) (by kernel_rfl) rfl (fun K_ hK_ => ?_)
        rw [if_pos (by kernel_rfl)]
        refine wpr_of_list ?_
        ((with_reducible apply (wpl_loadpartH (k := 0))); (exact rfl); infer_instance; infer_instance; (exact sl_pub _ _ _))
        refine wpList_nil ?_
        unfold onlyN
        refine hK_.out _ _ inferInstance (fun _ => ?_)
        clear hK_ K_
        try simp only [Act.put, sA]; try simp only [sB, sC]
        refine goH (i := 5) (by kernel_rfl) rfl (fun K_ hK_ => ?_)
        go_simp
        refine (rootOfM_calls (g + 1) (pubS (kSeed sd 0)) (pubS (kSeed sd (g + 1))) _).mono ?_
        rintro e w5 ⟨K, rfl, hK, st5, hKM⟩
        have HOK : Hid (rootOk (g + 1) 1073741824 K = true) := Lib.hid (by rw [← rootOk_eq, hKM.out.2]; exact rootB_ok _ _ _ hver.out)
        have HKE : Hid (encAll [1] ++ (encAll [g + 1, 1073741824] ++ keysE K) = rtB sd (g + 1)) := Lib.hid (by rw [← keysE_eq, hKM.out.2]; rfl)
        refine hK_.out _ _ inferInstance (fun _ => ?_)
        clear hK_ K_
        try simp only [Act.put, sA]; try simp only [sB, sC]
        refine goH (i := 6) (by kernel_rfl) rfl (fun K_ hK_ => ?_)
        go_simp
        refine (EncodeRoot_calls (g + 1) 1073741824 K hK (fun k hk => KIn.chg (hKM.out.1 k hk) (stepN (w0 := w5)).chg (fun _ _ h => h))).mono ?_
        unfold EncPost
        rw [HOK.out, HKE.out]
        rintro e w6 ⟨st6, A, n, c, rfl, hn, hO, hN⟩
        have HN := Lib.hid hn
        clear hn
        have hA6 : ∀ ad, A = some ad → LO ≤ ad.block := fun ad e => Nat.le_trans (by rw [hLO]; exact (inferInstance : SzLe wx _).out) (hN.out ad e)
        (try have hzA : ∀ ad, A = some ad → ad.block ≠ z6 := (fun ad e => Nat.ne_of_gt (Nat.lt_of_lt_of_le (Nat.lt_of_lt_of_le h6.out.lt (SzLe.out (w0 := wz6))) (hN.out ad e))))
        have hrA : HR w6 A (bs (rtB sd (g + 1))) := ⟨hO.out.rd⟩
        refine hK_.out _ _ inferInstance (fun _ => ?_)
        clear hK_ K_
        try simp only [Act.put, sA]; try simp only [sB, sC]
        refine' takeH (i := 7) (v := _) rfl (by kernel_rfl) (by kernel_rfl) (by kernel_rfl) (fun _ _ _ h => h) (yields_of (by rfl) (fun w' _ => ?_)) inferInstance ?_
        rotate_left
        · (go_simp; try with_reducible rfl)
        try simp only [Act.put, sA]; try simp only [sB, sC]
        refine' takeH (i := 8) (v := _) rfl (by kernel_rfl) (by kernel_rfl) (by kernel_rfl) (fun _ _ _ h => h) (yields_of (by rfl) (fun w' _ => ?_)) inferInstance ?_
        rotate_left
        · (go_simp; try with_reducible rfl)
        try simp only [Act.put, sA]; try simp only [sB, sC]
        refine goH (i := 9) (by kernel_rfl) rfl (fun K_ hK_ => ?_)
        go_simp
        refine Calls.mono (sealS_calls (zs := z5) (zk := z0) (pub := pubS (kSeed sd 0)) (seed := kSeed sd 0) (used := used) (m := rtB sd (g + 1)) HN.out.symm (own_capL hO.out) (by rw [HN.out]; exact HLEN.out) h0 h16 h05 (fun ad e => by have := hA6 ad e; constructor <;> omega)) ?_
        rintro e w7 ⟨v7, rfl, st7, hk7, hs7, hE7⟩
        have hone7 : (#[.slice A n c, v7] : Array Value).all (·.oneCell') = true := two_one _ _ rfl hE7.out.v.one.2
        have hA7 : ∀ ad, A = some ad → ad.block < w7.heap.size := fun ad e => Nat.lt_of_lt_of_le (hO.out.lt e) (inferInstance : SzLe w6 w7).out
        (try have hE8 := Lib.hid (hE7.out.offT (LO := LO) hzA (fun ad e => ⟨hA6 ad e, hA7 ad e⟩) (by rw [hLO]; exact (inferInstance : SzLe wx _).out) (.inl (Nat.lt_of_lt_of_le h6.out.lt (SzLe.out (w0 := wz6))))))
        refine hK_.out _ _ inferInstance (fun _ => ?_)
        clear hK_ K_
        try simp only [Act.put, sA]; try simp only [sB, sC]
        refine goH (i := 11) (by kernel_rfl) rfl (fun K_ hK_ => ?_)
        rw [if_pos (by kernel_rfl)]
        refine wpr_of_list ?_
        ((with_reducible apply wpl_storerow); (exact rfl); (exact rfl); infer_instance; infer_instance; (exact rfl); (exact rfl); (exact hone7); intro wz stz hz6b)
        refine wpList_nil ?_
        unfold onlyN
        refine hK_.out _ _ inferInstance (fun _ => ?_)
        clear hK_ K_
        try simp only [Act.put]
        refine wpAnyH_done (by kernel_rfl) ?_ _
      rotate_left 1
    rotate_left 5
    focus
      rw [if_pos (by kernel_rfl)]
      refine wpr_of_list ?_
      ((with_reducible apply (wpl_alloc (dst := some 6))); intro z6 wz6 b6 s6 h6; have hz6 : LO ≤ z6 := (by rw [hLO, b6.eq]; exact (inferInstance : SzLe wx _).out); have o6a : OffB (two z0 z5) z6 := ⟨fun h => (by rcases h with h | h <;> omega)⟩; have o6b : OffB (only zk) z6 := ⟨fun h => (by have h' : z6 = zk := h; omega)⟩; (try have hzA : ∀ ad, A = some ad → ad.block ≠ z6 := (fun ad e => Nat.ne_of_lt (Nat.lt_of_lt_of_le (hO.out.lt e) (by rw [b6.eq]; exact (inferInstance : SzLe w6 _).out)))); (try have hE8 := Lib.hid (hE7.out.offT (LO := LO) hzA (fun ad e => ⟨hA6 ad e, hA7 ad e⟩) (by rw [hLO]; exact (inferInstance : SzLe wx _).out) (.inr (by rw [b6.eq]; exact (inferInstance : SzLe w7 _).out)))))
      refine wpList_nil ?_
      unfold onlyN
      refine hK_.out _ _ inferInstance (fun _ => ?_)
      clear hK_ K_
      try simp only [Act.put, sA]; try simp only [sB, sC]
      refine wpAnyH_ready (rs := [2, 4]) (by kernel_rfl) (by simp) (AllReadyH.cons rfl (fun K_ hK_ => ?_) (AllReadyH.cons rfl (fun K_ hK_ => ?_) AllReadyH.nil))
      focus
        rw [if_pos (by kernel_rfl)]
        refine wpr_of_list ?_
        ((with_reducible apply (wpl_loadpartH (k := 0))); (exact rfl); infer_instance; infer_instance; (exact sl_pub _ _ _))
        refine wpList_nil ?_
        unfold onlyN
        refine hK_.out _ _ inferInstance (fun _ => ?_)
        clear hK_ K_
        try simp only [Act.put, sA]; try simp only [sB, sC]
        refine goH (i := 4) (by kernel_rfl) rfl (fun K_ hK_ => ?_)
        go_simp
        refine (kpublic_calls (zk := zk) (seed := kSeed sd (g + 1)) (used := 0)).mono ?_
        rintro e w4 ⟨rfl, st4, hk4⟩
        refine hK_.out _ _ inferInstance (fun _ => ?_)
        clear hK_ K_
        try simp only [Act.put, sA]; try simp only [sB, sC]
        refine goH (i := 5) (by kernel_rfl) rfl (fun K_ hK_ => ?_)
        go_simp
        refine (rootOfM_calls (g + 1) (pubS (kSeed sd 0)) (pubS (kSeed sd (g + 1))) _).mono ?_
        rintro e w5 ⟨K, rfl, hK, st5, hKM⟩
        have HOK : Hid (rootOk (g + 1) 1073741824 K = true) := Lib.hid (by rw [← rootOk_eq, hKM.out.2]; exact rootB_ok _ _ _ hver.out)
        have HKE : Hid (encAll [1] ++ (encAll [g + 1, 1073741824] ++ keysE K) = rtB sd (g + 1)) := Lib.hid (by rw [← keysE_eq, hKM.out.2]; rfl)
        refine hK_.out _ _ inferInstance (fun _ => ?_)
        clear hK_ K_
        try simp only [Act.put, sA]; try simp only [sB, sC]
        refine goH (i := 6) (by kernel_rfl) rfl (fun K_ hK_ => ?_)
        go_simp
        refine (EncodeRoot_calls (g + 1) 1073741824 K hK (fun k hk => KIn.chg (hKM.out.1 k hk) (stepN (w0 := w5)).chg (fun _ _ h => h))).mono ?_
        unfold EncPost
        rw [HOK.out, HKE.out]
        rintro e w6 ⟨st6, A, n, c, rfl, hn, hO, hN⟩
        have HN := Lib.hid hn
        clear hn
        have hA6 : ∀ ad, A = some ad → LO ≤ ad.block := fun ad e => Nat.le_trans (by rw [hLO]; exact (inferInstance : SzLe wx _).out) (hN.out ad e)
        (try have hzA : ∀ ad, A = some ad → ad.block ≠ z6 := (fun ad e => Nat.ne_of_gt (Nat.lt_of_lt_of_le (Nat.lt_of_lt_of_le h6.out.lt (SzLe.out (w0 := wz6))) (hN.out ad e))))
        have hrA : HR w6 A (bs (rtB sd (g + 1))) := ⟨hO.out.rd⟩
        refine hK_.out _ _ inferInstance (fun _ => ?_)
        clear hK_ K_
        try simp only [Act.put, sA]; try simp only [sB, sC]
        refine' takeH (i := 7) (v := _) rfl (by kernel_rfl) (by kernel_rfl) (by kernel_rfl) (fun _ _ _ h => h) (yields_of (by rfl) (fun w' _ => ?_)) inferInstance ?_
        rotate_left
        · (go_simp; try with_reducible rfl)
        try simp only [Act.put, sA]; try simp only [sB, sC]
        refine' takeH (i := 8) (v := _) rfl (by kernel_rfl) (by kernel_rfl) (by kernel_rfl) (fun _ _ _ h => h) (yields_of (by rfl) (fun w' _ => ?_)) inferInstance ?_
        rotate_left
        · (go_simp; try with_reducible rfl)
        try simp only [Act.put, sA]; try simp only [sB, sC]
        refine goH (i := 9) (by kernel_rfl) rfl (fun K_ hK_ => ?_)
        go_simp
        refine Calls.mono (sealS_calls (zs := z5) (zk := z0) (pub := pubS (kSeed sd 0)) (seed := kSeed sd 0) (used := used) (m := rtB sd (g + 1)) HN.out.symm (own_capL hO.out) (by rw [HN.out]; exact HLEN.out) h0 h16 h05 (fun ad e => by have := hA6 ad e; constructor <;> omega)) ?_
        rintro e w7 ⟨v7, rfl, st7, hk7, hs7, hE7⟩
        have hone7 : (#[.slice A n c, v7] : Array Value).all (·.oneCell') = true := two_one _ _ rfl hE7.out.v.one.2
        have hA7 : ∀ ad, A = some ad → ad.block < w7.heap.size := fun ad e => Nat.lt_of_lt_of_le (hO.out.lt e) (inferInstance : SzLe w6 w7).out
        (try have hE8 := Lib.hid (hE7.out.offT (LO := LO) hzA (fun ad e => ⟨hA6 ad e, hA7 ad e⟩) (by rw [hLO]; exact (inferInstance : SzLe wx _).out) (.inl (Nat.lt_of_lt_of_le h6.out.lt (SzLe.out (w0 := wz6))))))
        refine hK_.out _ _ inferInstance (fun _ => ?_)
        clear hK_ K_
        try simp only [Act.put, sA]; try simp only [sB, sC]
        refine goH (i := 11) (by kernel_rfl) rfl (fun K_ hK_ => ?_)
        rw [if_pos (by kernel_rfl)]
        refine wpr_of_list ?_
        ((with_reducible apply wpl_storerow); (exact rfl); (exact rfl); infer_instance; infer_instance; (exact rfl); (exact rfl); (exact hone7); intro wz stz hz6b)
        refine wpList_nil ?_
        unfold onlyN
        refine hK_.out _ _ inferInstance (fun _ => ?_)
        clear hK_ K_
        try simp only [Act.put]
        refine wpAnyH_done (by kernel_rfl) ?_ _
      rotate_left 1
      focus
        go_simp
        refine (kpublic_calls (zk := zk) (seed := kSeed sd (g + 1)) (used := 0)).mono ?_
        rintro e w4 ⟨rfl, st4, hk4⟩
        refine hK_.out _ _ inferInstance (fun _ => ?_)
        clear hK_ K_
        try simp only [Act.put, sA]; try simp only [sB, sC]
        refine goH (i := 2) (by kernel_rfl) rfl (fun K_ hK_ => ?_)
        rw [if_pos (by kernel_rfl)]
        refine wpr_of_list ?_
        ((with_reducible apply (wpl_loadpartH (k := 0))); (exact rfl); infer_instance; infer_instance; (exact sl_pub _ _ _))
        refine wpList_nil ?_
        unfold onlyN
        refine hK_.out _ _ inferInstance (fun _ => ?_)
        clear hK_ K_
        try simp only [Act.put, sA]; try simp only [sB, sC]
        refine goH (i := 5) (by kernel_rfl) rfl (fun K_ hK_ => ?_)
        go_simp
        refine (rootOfM_calls (g + 1) (pubS (kSeed sd 0)) (pubS (kSeed sd (g + 1))) _).mono ?_
        rintro e w5 ⟨K, rfl, hK, st5, hKM⟩
        have HOK : Hid (rootOk (g + 1) 1073741824 K = true) := Lib.hid (by rw [← rootOk_eq, hKM.out.2]; exact rootB_ok _ _ _ hver.out)
        have HKE : Hid (encAll [1] ++ (encAll [g + 1, 1073741824] ++ keysE K) = rtB sd (g + 1)) := Lib.hid (by rw [← keysE_eq, hKM.out.2]; rfl)
        refine hK_.out _ _ inferInstance (fun _ => ?_)
        clear hK_ K_
        try simp only [Act.put, sA]; try simp only [sB, sC]
        refine goH (i := 6) (by kernel_rfl) rfl (fun K_ hK_ => ?_)
        go_simp
        refine (EncodeRoot_calls (g + 1) 1073741824 K hK (fun k hk => KIn.chg (hKM.out.1 k hk) (stepN (w0 := w5)).chg (fun _ _ h => h))).mono ?_
        unfold EncPost
        rw [HOK.out, HKE.out]
        rintro e w6 ⟨st6, A, n, c, rfl, hn, hO, hN⟩
        have HN := Lib.hid hn
        clear hn
        have hA6 : ∀ ad, A = some ad → LO ≤ ad.block := fun ad e => Nat.le_trans (by rw [hLO]; exact (inferInstance : SzLe wx _).out) (hN.out ad e)
        (try have hzA : ∀ ad, A = some ad → ad.block ≠ z6 := (fun ad e => Nat.ne_of_gt (Nat.lt_of_lt_of_le (Nat.lt_of_lt_of_le h6.out.lt (SzLe.out (w0 := wz6))) (hN.out ad e))))
        have hrA : HR w6 A (bs (rtB sd (g + 1))) := ⟨hO.out.rd⟩
        refine hK_.out _ _ inferInstance (fun _ => ?_)
        clear hK_ K_
        try simp only [Act.put, sA]; try simp only [sB, sC]
        refine' takeH (i := 7) (v := _) rfl (by kernel_rfl) (by kernel_rfl) (by kernel_rfl) (fun _ _ _ h => h) (yields_of (by rfl) (fun w' _ => ?_)) inferInstance ?_
        rotate_left
        · (go_simp; try with_reducible rfl)
        try simp only [Act.put, sA]; try simp only [sB, sC]
        refine' takeH (i := 8) (v := _) rfl (by kernel_rfl) (by kernel_rfl) (by kernel_rfl) (fun _ _ _ h => h) (yields_of (by rfl) (fun w' _ => ?_)) inferInstance ?_
        rotate_left
        · (go_simp; try with_reducible rfl)
        try simp only [Act.put, sA]; try simp only [sB, sC]
        refine goH (i := 9) (by kernel_rfl) rfl (fun K_ hK_ => ?_)
        go_simp
        refine Calls.mono (sealS_calls (zs := z5) (zk := z0) (pub := pubS (kSeed sd 0)) (seed := kSeed sd 0) (used := used) (m := rtB sd (g + 1)) HN.out.symm (own_capL hO.out) (by rw [HN.out]; exact HLEN.out) h0 h16 h05 (fun ad e => by have := hA6 ad e; constructor <;> omega)) ?_
        rintro e w7 ⟨v7, rfl, st7, hk7, hs7, hE7⟩
        have hone7 : (#[.slice A n c, v7] : Array Value).all (·.oneCell') = true := two_one _ _ rfl hE7.out.v.one.2
        have hA7 : ∀ ad, A = some ad → ad.block < w7.heap.size := fun ad e => Nat.lt_of_lt_of_le (hO.out.lt e) (inferInstance : SzLe w6 w7).out
        (try have hE8 := Lib.hid (hE7.out.offT (LO := LO) hzA (fun ad e => ⟨hA6 ad e, hA7 ad e⟩) (by rw [hLO]; exact (inferInstance : SzLe wx _).out) (.inl (Nat.lt_of_lt_of_le h6.out.lt (SzLe.out (w0 := wz6))))))
        refine hK_.out _ _ inferInstance (fun _ => ?_)
        clear hK_ K_
        try simp only [Act.put, sA]; try simp only [sB, sC]
        refine goH (i := 11) (by kernel_rfl) rfl (fun K_ hK_ => ?_)
        rw [if_pos (by kernel_rfl)]
        refine wpr_of_list ?_
        ((with_reducible apply wpl_storerow); (exact rfl); (exact rfl); infer_instance; infer_instance; (exact rfl); (exact rfl); (exact hone7); intro wz stz hz6b)
        refine wpList_nil ?_
        unfold onlyN
        refine hK_.out _ _ inferInstance (fun _ => ?_)
        clear hK_ K_
        try simp only [Act.put]
        refine wpAnyH_done (by kernel_rfl) ?_ _
      rotate_left 1
    rotate_left 2
    all_goals
      have o6r : OffB (only z6) zr := ⟨fun e => by have e' : zr = z6 := e; omega⟩
      have o60 : OffB (only z6) z0 := ⟨fun e => by have e' : z0 = z6 := e; omega⟩
      have o6k : OffB (only z6) zk := ⟨fun e => by have e' : zk = z6 := e; omega⟩
      have o65 : OffB (only z6) z5 := ⟨fun e => by have e' : z5 = z6 := e; omega⟩
      have ab6 : Above wx (only z6) := ⟨fun x h => by have h' : x = z6 := h; omega⟩
      have hbz : HB wz zr 73 (rpL sd (.pointer (some ⟨z0, 0, none⟩)) p1 f g v [bt, .slice X xn xc, t0, t1, s0, s1, xg, lg]).toArray := inferInstance
      have hkz : KeyAt wz z0 (kSeed sd 0) (used + 1) := inferInstance
      have hkkz : KeyAt wz zk (kSeed sd (g + 1)) 0 := inferInstance
      have hs5z : HB wz z5 78 (slL (pubS (kSeed sd 0)) (.func (.func 26) #[.pointer (some ⟨z0, 0, none⟩)] #[]) 0).toArray := inferInstance
      have hc7 : Chg (only z6) w7 wz := (inferInstance : Ch (only z6) w7 wz).out
      have hE9 := Lib.hid ((hE8.out.chg hc7 (fun y h h2 => h.2.2 h2)).x (lo := LO) (hi := w7.heap.size) (fun y h => ⟨h.1, h.2.1⟩))
      have hcz : Chg (thr z0 z5 zk) wx wz := (inferInstance : Ch (thr z0 z5 zk) wx wz).out
      have hsz7 := hc7.size
      have hLO7 : LO ≤ w7.heap.size := by rw [hLO]; exact (inferInstance : SzLe wx w7).out
      have hCwz : Hid (Chg (two z0 zr) w wz) := Lib.hid (hCwx.out.trans hcz (fun x hx h => by
        rcases h with h | h | h
        · exact .inl h
        · omega
        · have := HWZ.out; omega))
      have hz6l := hz6b.out.lt
      obtain ⟨HI, hHI⟩ : ∃ n, n = w7.heap.size := ⟨_, rfl⟩
      rw [← hHI] at hE9 hsz7 hLO7
      clear hHI
      obtain ⟨wy, hwy⟩ : ∃ x : World, x = wz := ⟨_, rfl⟩
      subst hwy
      clear hE8 hE7 hs7 hk7 hO hN hrA hk4 hc7 hcz hkx hkkx hbx hsx hzA HOK HKE HN hKM
      clear st7 st6 st5 st4 stz b6 s6 h6 o6a o6b
      have hX9 : HO wy 32 2 X xn xc (cellsOf xl) := ⟨HX0.out.chg hCwz.out (fun ad e h => by rcases h with h | h; exact (hX ad e).1 h; exact (hX ad e).2 h)⟩
      have hXl : ∀ ad, X = some ad → ad.block < w.heap.size := fun ad e => HX0.out.lt e
      have hxl := HXL.out
      have HZ33 : ∀ p, Hid (33 < (rpL sd (.pointer (some ⟨z0, 0, none⟩)) p f g v [bt, .slice X xn xc, t0, t1, s0, s1, xg, lg]).toArray.size) := fun p => Lib.hid (by rw [rp_sz _ _ _ _ _ _ _ rfl]; decide)
      have HZ66 : ∀ p, Hid (66 < (rpL sd (.pointer (some ⟨z0, 0, none⟩)) p f g v [bt, .slice X xn xc, t0, t1, s0, s1, xg, lg]).toArray.size) := fun p => Lib.hid (by rw [rp_sz _ _ _ _ _ _ _ rfl]; decide)
      have HZ69 : ∀ p, Hid (69 < (rpL sd (.pointer (some ⟨z0, 0, none⟩)) p f (g + 1) v [bt, .slice X xn xc, t0, t1, s0, s1, xg, lg]).toArray.size) := fun p => Lib.hid (by rw [rp_sz _ _ _ _ _ _ _ rfl]; decide)
      have hc69 : nth (rpL sd (.pointer (some ⟨z0, 0, none⟩)) (.pointer (some ⟨zk, 0, none⟩)) f (g + 1) v [bt, .slice X xn xc, t0, t1, s0, s1, xg, lg]).toArray.toList 69 = some (.slice X xn xc) := by
        rw [← nth_get]
        exact rp_get68 sd _ _ f (g + 1) v _ 1
      have or0 : OffB (only zr) z0 := ⟨hne⟩
      have ork : OffB (only zr) zk := ⟨fun e => by have e' : zk = zr := e; omega⟩
      have or6 : OffB (only zr) z6 := ⟨fun e => by have e' : z6 = zr := e; omega⟩
      have orX : OffA (only zr) X := ⟨fun ad e h => (hX ad e).2 h⟩
      go_wp2_with (first | ((with_reducible apply (wpl_loadcellN (k := 33))); (exact rfl); (exact hs5z); (exact sl_33 _ _ _)) | ((with_reducible apply (wpl_storecell (k := 33))); (exact rfl); (exact rfl); (exact hbz); (exact rfl); (exact (HZ33 _).out); intro wA stA hbA0; have hbA : HB wA zr 73 (rpL sd (.pointer (some ⟨z0, 0, none⟩)) (.pointer (some ⟨zk, 0, none⟩)) f g v [bt, .slice X xn xc, t0, t1, s0, s1, xg, lg]).toArray := HB.row_eqS hbA0 (rp_set33 _ _ _ _ _ _ _ _); clear hbA0) | ((with_reducible apply (wpl_storecell (k := 66))); (exact rfl); (exact rfl); (exact hbA); (exact rfl); (exact (HZ66 _).out); intro wB stB hbB0; have hbB : HB wB zr 73 (rpL sd (.pointer (some ⟨z0, 0, none⟩)) (.pointer (some ⟨zk, 0, none⟩)) f (g + 1) v [bt, .slice X xn xc, t0, t1, s0, s1, xg, lg]).toArray := HB.row_eqS hbB0 (rp_set66 _ _ _ _ _ _ _ _); clear hbB0) | ((with_reducible apply wpl_alloc); intro z wz _ _ _) | ((with_reducible apply wpl_loadrow); (exact rfl); infer_instance; infer_instance; (first | (with_reducible assumption) | (with_reducible exact H32.size _) | (with_reducible exact enc_sz _ rfl) | kernel_rfl)) | ((with_reducible apply wpl_loadcellN); (exact rfl); infer_instance; (exact rfl)) | ((with_reducible apply wpl_storerow); (exact rfl); (exact rfl); infer_instance; infer_instance; (first | (with_reducible assumption) | (with_reducible exact H32.size _) | (with_reducible exact enc_sz _ rfl) | kernel_rfl); (first | (with_reducible assumption) | (with_reducible exact H32.size _) | (with_reducible exact enc_sz _ rfl) | kernel_rfl); (first | (with_reducible exact u8s_one _) | (with_reducible assumption) | (with_reducible exact enc_one _) | kernel_rfl); intro ws _ _) | ((with_reducible apply wpl_storecell); (exact rfl); (exact rfl); infer_instance; (exact rfl); (first | (with_reducible assumption) | omega | (focus (simp; done)) | (focus (simp; omega; done)) | decide); intro ws _ _))
      have hkB : KeyAt wB z0 (kSeed sd 0) (used + 1) := inferInstance
      have hkkB : KeyAt wB zk (kSeed sd (g + 1)) 0 := inferInstance
      have hXB : HO wB 32 2 X xn xc (cellsOf xl) := inferInstance
      have h6B : HB wB z6 32 #[.slice A n c, v7] := inferInstance
      have hcB : Chg (only zr) wy wB := (inferInstance : Ch (only zr) wy wB).out
      have hEB := Lib.hid (hE9.out.chg hcB (fun y h1 h2 h => by have h' : y = zr := h; omega))
      have hCB : Hid (Chg (two z0 zr) w wB) := Lib.hid (hCwz.out.trans hcB (fun _ _ h => .inr h))
      have hszB := hcB.size
      have o71 := hEB.out.v.one.2
      have hln1 : ([(⟨.slice A n c, v7, rfl, o71⟩ : EvC)] : List EvC).length = 1 := rfl
      have kbE := run_ev1 ⟨.slice A n c, v7, rfl, o71⟩
      have oXr : OffB (rowOf X) zr := ⟨fun ⟨ad, e, h⟩ => (hX ad e).2 h⟩
      have oX0 : OffB (rowOf X) z0 := ⟨fun ⟨ad, e, h⟩ => (hX ad e).1 h⟩
      have oXk : OffB (rowOf X) zk := ⟨fun ⟨ad, e, h⟩ => by have := hXl ad e; have := HWZ.out; omega⟩
      have hsB := hCB.out.size
      have oG6 : OffB (gzr zr X) z6 := ⟨fun h => by
        rcases h with h | ⟨ad, e, h⟩
        · exact or6.out h
        · have := hXl ad e
          omega⟩
      clear hcB hbz hbA hkz hkkz hs5z hE9 hX9 hz6b hCwz stA stB
      refine wp_region_N ((gzr zr X)) (by kernel_rfl) (fun wd _ _ => ?_)
      refine' takeH (i := 0) (v := _) rfl (by kernel_rfl) (by kernel_rfl) (by kernel_rfl) (fun _ _ _ h => h) (yields_of (by rfl) (fun w' _ => ?_)) inferInstance ?_
      rotate_left
      · (go_simp; try with_reducible rfl)
      try simp only [Act.put, sA]; try simp only [sB, sC]
      refine' takeH (i := 1) (v := _) rfl (by kernel_rfl) (by kernel_rfl) (by kernel_rfl) (fun _ _ _ h => h) (yields_of (by rfl) (fun w' _ => ?_)) inferInstance ?_
      rotate_left
      · (go_simp; try with_reducible rfl)
      try simp only [Act.put, sA]; try simp only [sB, sC]
      refine' takeH (i := 2) (v := _) rfl (by kernel_rfl) (by kernel_rfl) (by kernel_rfl) (fun _ _ _ h => h) (yields_of (by rfl) (fun w' _ => ?_)) inferInstance ?_
      rotate_left
      · (go_simp; try with_reducible rfl)
      try simp only [Act.put, sA]; try simp only [sB, sC]
      refine' takeH (i := 3) (v := _) rfl (by kernel_rfl) (by kernel_rfl) (by kernel_rfl) (fun _ _ _ h => h) (yields_of (by rfl) (fun w' _ => ?_)) inferInstance ?_
      rotate_left
      · (first | ((with_reducible apply (ev_fieldE (t := 32))); (exact Tryz.underlying32); (exact rfl); (kernel_rfl); (exact rfl); infer_instance; (exact cells_pos (by decide) (by omega))) | (go_simp; try with_reducible rfl))
      try simp only [Act.put, sA]; try simp only [sB, sC]
      refine' takeH (i := 4) (v := _) rfl (by kernel_rfl) (by kernel_rfl) (by kernel_rfl) (fun _ _ _ h => h) (yields_of (by rfl) (fun w' _ => ?_)) inferInstance ?_
      rotate_left
      · (first | ((with_reducible apply (ev_fieldE (t := 32))); (exact Tryz.underlying32); (exact rfl); (kernel_rfl); (exact rfl); infer_instance; (exact cells_pos (by decide) (by omega))) | (go_simp; try with_reducible rfl))
      try simp only [Act.put, sA]; try simp only [sB, sC]
      refine' takeH (i := 6) (v := _) rfl (by kernel_rfl) (by kernel_rfl) (by kernel_rfl) (fun _ _ _ h => h) (yields_of (by rfl) (fun w' _ => ?_)) inferInstance ?_
      rotate_left
      · (first | ((with_reducible apply (ev_loadRSeed (t := 23))); (exact rfl); infer_instance; infer_instance) | ((with_reducible apply (ev_loadRN (t := 3))); (exact rfl); infer_instance; infer_instance) | ((with_reducible apply (ev_loadRL (t := 89))); (exact rfl); infer_instance; infer_instance) | ((with_reducible apply ev_loadrow); (exact rfl); infer_instance; infer_instance; (first | (with_reducible assumption) | (with_reducible exact H32.size _) | (with_reducible exact enc_sz _ rfl) | kernel_rfl)) | ((with_reducible apply (ev_loadhash (t := 23))); (exact rfl); infer_instance; infer_instance; (first | (with_reducible assumption) | omega)) | ((with_reducible apply ev_loadcellN); (exact rfl); infer_instance; infer_instance; (exact rfl)) | ((with_reducible apply (ev_loadE (α := EvC) (t := 32))); infer_instance; (exact rfl); infer_instance; (exact rfl); (decide); (first | (with_reducible assumption) | omega | (focus (simp; done)) | (focus (simp; omega; done)) | decide)) | ((with_reducible apply (ev_loadF (α := EvC))); infer_instance; (exact rfl); infer_instance; (exact rfl); (first | (with_reducible assumption) | omega | (focus (simp; done)) | (focus (simp; omega; done)) | decide); (exact rfl)) | ((with_reducible apply (ev_loadint (t := 3))); (exact rfl); infer_instance; infer_instance; (first | (with_reducible assumption) | omega)) | ((with_reducible apply (ev_loadbyte (t := 5))); (exact rfl); infer_instance; infer_instance; (first | (with_reducible assumption) | omega)) | (go_simp; try with_reducible rfl))
      try simp only [Act.put, sA]; try simp only [sB, sC]
      refine wpAnyH_ready (rs := [5, 7]) (by kernel_rfl) (by simp) (AllReadyH.cons rfl (fun K_ hK_ => ?_) (AllReadyH.cons rfl (fun K_ hK_ => ?_) AllReadyH.nil))
      focus
        rw [if_pos (by kernel_rfl)]
        refine wpr_of_list ?_
        ((with_reducible apply (wpl_loadcellN (k := 69))); (exact rfl); infer_instance; (exact hc69))
        refine wpList_nil ?_
        unfold onlyN
        refine hK_.out _ _ inferInstance (fun _ => ?_)
        clear hK_ K_
        try simp only [Act.put, sA]; try simp only [sB, sC]
        refine goH (i := 7) (by kernel_rfl) rfl (fun K_ hK_ => ?_)
        rw [if_pos (by kernel_rfl)]
        refine wpr_of_list ?_
        ((with_reducible apply (stop_dst (dst := some 72))); (try simp only [Act.put, sA, sB, sC]); ((with_reducible apply (wpl_bslice (dst := some 72))); (exact kbE _); intro ze wb _ _ _))
        refine wpList_nil ?_
        unfold onlyN
        refine hK_.out _ _ inferInstance (fun _ => ?_)
        clear hK_ K_
        try simp only [Act.put, sA]; try simp only [sB, sC]
        refine goH (i := 8) (by kernel_rfl) rfl (fun K_ hK_ => ?_)
        rw [if_pos (by kernel_rfl)]
        refine wpr_of_list ?_
        ((with_reducible apply (wpl_appendR (α := EvC))); (exact rfl); (exact rfl); infer_instance; infer_instance; (exact HB.cells inferInstance); (exact rfl); (exact hln1); omega; (decide); (decide); intro X2 xc2 wN stN hoN hGN hcapN)
        refine wpList_nil ?_
        unfold onlyN
        refine hK_.out _ _ inferInstance (fun _ => ?_)
        clear hK_ K_
        try simp only [Act.put, sA]; try simp only [sB, sC]
        refine' takeH (i := 9) (v := _) rfl (by kernel_rfl) (by kernel_rfl) (by kernel_rfl) (fun _ _ _ h => h) (yields_of (by rfl) (fun w' _ => ?_)) inferInstance ?_
        rotate_left
        · (go_simp; try with_reducible rfl)
        try simp only [Act.put, sA]; try simp only [sB, sC]
        refine' takeH (i := 10) (v := _) rfl (by kernel_rfl) (by kernel_rfl) (by kernel_rfl) (fun _ _ _ h => h) (yields_of (by rfl) (fun w' _ => ?_)) inferInstance ?_
        rotate_left
        · (first | ((with_reducible apply (ev_fieldE (t := 32))); (exact Tryz.underlying32); (exact rfl); (kernel_rfl); (exact rfl); infer_instance; (exact cells_pos (by decide) (by omega))) | (go_simp; try with_reducible rfl))
        try simp only [Act.put, sA]; try simp only [sB, sC]
        refine' takeH (i := 11) (v := _) rfl (by kernel_rfl) (by kernel_rfl) (by kernel_rfl) (fun _ _ _ h => h) (yields_of (by rfl) (fun w' _ => ?_)) inferInstance ?_
        rotate_left
        · (first | ((with_reducible apply (ev_fieldE (t := 32))); (exact Tryz.underlying32); (exact rfl); (kernel_rfl); (exact rfl); infer_instance; (exact cells_pos (by decide) (by omega))) | (go_simp; try with_reducible rfl))
        try simp only [Act.put, sA]; try simp only [sB, sC]
        refine goH (i := 12) (by kernel_rfl) rfl (fun K_ hK_ => ?_)
        rw [if_pos (by kernel_rfl)]
        refine wpr_of_list ?_
        ((with_reducible apply (wpl_storecell (k := 69))); (exact rfl); (exact rfl); infer_instance; (exact rfl); (exact (HZ69 _).out); intro wE stE hbE5)
        refine wpList_nil ?_
        unfold onlyN
        refine hK_.out _ _ inferInstance (fun _ => ?_)
        clear hK_ K_
        try simp only [Act.put]
        refine wpAnyH_done (by kernel_rfl) ?_ _
      rotate_left 1
      focus
        rw [if_pos (by kernel_rfl)]
        refine wpr_of_list ?_
        ((with_reducible apply (stop_dst (dst := some 72))); (try simp only [Act.put, sA, sB, sC]); ((with_reducible apply (wpl_bslice (dst := some 72))); (exact kbE _); intro ze wb _ _ _))
        refine wpList_nil ?_
        unfold onlyN
        refine hK_.out _ _ inferInstance (fun _ => ?_)
        clear hK_ K_
        try simp only [Act.put, sA]; try simp only [sB, sC]
        refine goH (i := 5) (by kernel_rfl) rfl (fun K_ hK_ => ?_)
        rw [if_pos (by kernel_rfl)]
        refine wpr_of_list ?_
        ((with_reducible apply (wpl_loadcellN (k := 69))); (exact rfl); infer_instance; (exact hc69))
        refine wpList_nil ?_
        unfold onlyN
        refine hK_.out _ _ inferInstance (fun _ => ?_)
        clear hK_ K_
        try simp only [Act.put, sA]; try simp only [sB, sC]
        refine goH (i := 8) (by kernel_rfl) rfl (fun K_ hK_ => ?_)
        rw [if_pos (by kernel_rfl)]
        refine wpr_of_list ?_
        ((with_reducible apply (wpl_appendR (α := EvC))); (exact rfl); (exact rfl); infer_instance; infer_instance; (exact HB.cells inferInstance); (exact rfl); (exact hln1); omega; (decide); (decide); intro X2 xc2 wN stN hoN hGN hcapN)
        refine wpList_nil ?_
        unfold onlyN
        refine hK_.out _ _ inferInstance (fun _ => ?_)
        clear hK_ K_
        try simp only [Act.put, sA]; try simp only [sB, sC]
        refine' takeH (i := 9) (v := _) rfl (by kernel_rfl) (by kernel_rfl) (by kernel_rfl) (fun _ _ _ h => h) (yields_of (by rfl) (fun w' _ => ?_)) inferInstance ?_
        rotate_left
        · (go_simp; try with_reducible rfl)
        try simp only [Act.put, sA]; try simp only [sB, sC]
        refine' takeH (i := 10) (v := _) rfl (by kernel_rfl) (by kernel_rfl) (by kernel_rfl) (fun _ _ _ h => h) (yields_of (by rfl) (fun w' _ => ?_)) inferInstance ?_
        rotate_left
        · (first | ((with_reducible apply (ev_fieldE (t := 32))); (exact Tryz.underlying32); (exact rfl); (kernel_rfl); (exact rfl); infer_instance; (exact cells_pos (by decide) (by omega))) | (go_simp; try with_reducible rfl))
        try simp only [Act.put, sA]; try simp only [sB, sC]
        refine' takeH (i := 11) (v := _) rfl (by kernel_rfl) (by kernel_rfl) (by kernel_rfl) (fun _ _ _ h => h) (yields_of (by rfl) (fun w' _ => ?_)) inferInstance ?_
        rotate_left
        · (first | ((with_reducible apply (ev_fieldE (t := 32))); (exact Tryz.underlying32); (exact rfl); (kernel_rfl); (exact rfl); infer_instance; (exact cells_pos (by decide) (by omega))) | (go_simp; try with_reducible rfl))
        try simp only [Act.put, sA]; try simp only [sB, sC]
        refine goH (i := 12) (by kernel_rfl) rfl (fun K_ hK_ => ?_)
        rw [if_pos (by kernel_rfl)]
        refine wpr_of_list ?_
        ((with_reducible apply (wpl_storecell (k := 69))); (exact rfl); (exact rfl); infer_instance; (exact rfl); (exact (HZ69 _).out); intro wE stE hbE5)
        refine wpList_nil ?_
        unfold onlyN
        refine hK_.out _ _ inferInstance (fun _ => ?_)
        clear hK_ K_
        try simp only [Act.put]
        refine wpAnyH_done (by kernel_rfl) ?_ _
      rotate_left 1
      all_goals
        go_wp2_with (first | ((with_reducible apply wpl_alloc); intro z wz _ _ _) | ((with_reducible apply wpl_loadrow); (exact rfl); infer_instance; infer_instance; (first | (with_reducible assumption) | (with_reducible exact H32.size _) | (with_reducible exact enc_sz _ rfl) | kernel_rfl)) | ((with_reducible apply wpl_loadcellN); (exact rfl); infer_instance; (exact rfl)) | ((with_reducible apply wpl_storerow); (exact rfl); (exact rfl); infer_instance; infer_instance; (first | (with_reducible assumption) | (with_reducible exact H32.size _) | (with_reducible exact enc_sz _ rfl) | kernel_rfl); (first | (with_reducible assumption) | (with_reducible exact H32.size _) | (with_reducible exact enc_sz _ rfl) | kernel_rfl); (first | (with_reducible exact u8s_one _) | (with_reducible assumption) | (with_reducible exact enc_one _) | kernel_rfl); intro ws _ _) | ((with_reducible apply wpl_storecell); (exact rfl); (exact rfl); infer_instance; (exact rfl); (first | (with_reducible assumption) | omega | (focus (simp; done)) | (focus (simp; omega; done)) | decide); intro ws _ _))
        go_ret
        have hwdB : wB.heap.size ≤ wd.heap.size := (inferInstance : SzLe wB wd).out
        have hzrB : zr < wB.heap.size := hbB.out.lt
        have hGNw : ∀ ad, X2 = some ad → X2 = X ∨ wB.heap.size ≤ ad.block := fun ad e => by
          rcases hGN.out with h9 | h9
          · exact .inl h9
          · right
            rw [h9] at e
            injection e with e
            rw [← e]
            first
              | exact hwdB
              | exact (inferInstance : SzLe wB _).out
        have oX2 : OffA (only zr) X2 := ⟨fun ad e h => by
          have h' : ad.block = zr := h
          rcases hGNw ad e with h9 | h9
          · rw [h9] at e
            exact (hX ad e).2 h'
          · omega⟩
        have hbF : HB wE zr 73 (rpL sd (.pointer (some ⟨z0, 0, none⟩)) (.pointer (some ⟨zk, 0, none⟩)) f (g + 1) v [bt, .slice X2 (xn + 1) xc2, t0, t1, s0, s1, xg, lg]).toArray := HB.row_eqS hbE5 (rp_setn sd _ _ f (g + 1) v _ 1 _)
        have hkE : KeyAt wE z0 (kSeed sd 0) (used + 1) := inferInstance
        have hkkE : KeyAt wE zk (kSeed sd (g + 1)) 0 := inferInstance
        have hXE : HO wE 32 2 X2 (xn + 1) xc2 (cellsOf (xl ++ [(⟨.slice A n c, v7, rfl, o71⟩ : EvC)])) := inferInstance
        have hcE : Chg (gzr zr X) wB wE := (inferInstance : Ch (gzr zr X) wB wE).out
        have hCF : Chg (tri z0 zr X) w wE := (hCB.out.mono (T := tri z0 zr X) (fun _ _ h => by rcases h with h | h; exact .inl h; exact .inr (.inl h))).trans hcE (fun _ _ h => by rcases h with h | h; exact .inr (.inl h); exact .inr (.inr h))
        have hszE := hcE.size
        have hEE := hEB.out.chg hcE (fun y h1 _ h => by
          rcases h with h | ⟨ad, e, h⟩
          · omega
          · have := hXl ad e
            omega)
        exact ⟨rfl, zk, X2, xc2, ⟨.slice A n c, v7, rfl, o71⟩, LO, HI, ⟨hCF⟩, hkE, hkkE, hbF, hXE, Lib.hid ⟨fun ad e => (hGNw ad e).imp (fun h => h) (fun h => by omega), HWZ.out, hkl9, hLO7, by omega⟩, Lib.hid hEE⟩
end Go.Proofs.YtgjnjhhhbkidbaaGreat
