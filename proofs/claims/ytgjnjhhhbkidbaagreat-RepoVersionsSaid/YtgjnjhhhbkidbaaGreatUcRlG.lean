/- RlF, RlG -/
import Derived.Test.YtgjnjhhhbkidbaaGreatUcRsI
import Derived.Test.YtgjnjhhhbkidbaaGreatUcRlA
import Derived.Test.YtgjnjhhhbkidbaaGreatUcRlE
section
open Go Go.RowKit
namespace Go.Proofs.YtgjnjhhhbkidbaaGreat
/-- what is signed: targets, snapshot, time -/
def sgT (v x : Int) (T : List TargetR) : List UInt8 := encAll [4] ++ tgsB mayL v x T.length 0 T []
def sgS (v x : Int) : List UInt8 := snapE v x [⟨mayL, v⟩]
def sgM (v x : Int) : List UInt8 := encAll [2] ++ (encAll [v, x, v] ++ (shaH (sgS v x)).l)
def tri (zk zr : Nat) (C : Option Addr) : Nat → Prop := fun x => x = zk ∨ x = zr ∨ rowOf C x
def SgQ (sd f seed : H32) (p0 : Value) (g v x : Int) (xr : Value) (C : Option Addr) (cn : Nat) (B : Option Addr) (m d : Nat) (T D : List TargetR) (zr zk : Nat) (used : Int) (w w' : World) : Prop :=
 ∃ a b c d2 zE, ∃ (ev : EvC) (C' : Option Addr) (cc' lo hi : Nat), Step (tri zk zr C) w w' ∧ KeyAt w' zk seed (used + 3) ∧
     HB w' zr 73 (rpL sd p0 (.pointer (some ⟨zk, 0, none⟩)) f g (v + 1) [.slice B m d, xr, a, b, c, d2, .slice (some ⟨zE, 0, none⟩) 1 1, .slice C' (cn + m) cc']).toArray ∧ HO w' 42 37 B m d (cellsOf T) ∧ HO w' 42 37 C' (cn + m) cc' (cellsOf (D ++ T)) ∧
     Hid ((∀ ad, C' = some ad → C' = C ∨ hi ≤ ad.block) ∧ w.heap.size ≤ lo ∧ hi ≤ w'.heap.size ∧ lo ≤ zE ∧ zE < hi) ∧
     Hid (EvX w' lo hi (sgM (v + 1) x) (mkP (pubS seed) seed (used + 1 + 1) (sgM (v + 1) x)) a b ∧ EvX w' lo hi (sgS (v + 1) x) (mkP (pubS seed) seed (used + 1) (sgS (v + 1) x)) c d2 ∧ EvX w' lo hi (sgT (v + 1) x T) (mkP (pubS seed) seed used (sgT (v + 1) x T)) ev.v0 ev.v1) ∧ HR w' (some ⟨zE, 0, none⟩) (cellsOf [ev])
theorem EvX.wide {w : World} {lo hi hi2 : Nat} {m : List UInt8} {P : List MkV} {v0 v1 : Value} (h : EvX w lo hi m P v0 v1) (hh : hi ≤ hi2) : EvX w lo hi2 m P v0 v1 := by
 obtain ⟨M, nb, cb, A, n, c1, l, e0, e1, h1, h2, h3, h3', h4, h5, h6, h7, h8, g1, g2, g3⟩ := h
 exact ⟨M, nb, cb, A, n, c1, l, e0, e1, h1, h2, h3, h3', h4, h5, h6, h7, h8, fun ad e => ⟨(g1 ad e).1, Nat.lt_of_lt_of_le (g1 ad e).2 hh⟩, fun ad e => ⟨(g2 ad e).1, Nat.lt_of_lt_of_le (g2 ad e).2 hh⟩, fun x hx => ⟨fun ad e => ⟨((g3 x hx).1 ad e).1, Nat.lt_of_lt_of_le ((g3 x hx).1 ad e).2 hh⟩, fun ad e => ⟨((g3 x hx).2 ad e).1, Nat.lt_of_lt_of_le ((g3 x hx).2 ad e).2 hh⟩⟩⟩
set_option maxRecDepth 100000 in
set_option maxHeartbeats 12800000 in
theorem signT_calls {sd f seed : H32} {p0 : Value} {g v now life : Int} {xr t0 t1 s0 s1 xg : Value} {C : Option Addr} {cn cc : Nat} {B : Option Addr} {m d : Nat} {T D : List TargetR} {zr zk : Nat} {used : Int} {w : World}
    [hb : HB w zr 73 (rpL sd p0 (.pointer (some ⟨zk, 0, none⟩)) f g v [.slice B m d, xr, t0, t1, s0, s1, xg, .slice C cn cc]).toArray] [hk : KeyAt w zk seed used]
    [ht : HO w 42 37 B m d (cellsOf T)] [hC : HO w 42 37 C cn cc (cellsOf D)] (hTm : T.length = m) (hDn : D.length = cn) (hm16 : m ≤ 16) (hcn : cn ≤ 1000000)
    (hne : zk ≠ zr) (hBk : ∀ ad, B = some ad → ad.block ≠ zk ∧ ad.block ≠ zr) (hCk : ∀ ad, C = some ad → ad.block ≠ zk ∧ ad.block ≠ zr) (hBC : ∀ ad bd, B = some ad → C = some bd → ad.block ≠ bd.block) (h0 : 0 ≤ used) (h13 : used ≤ 13) (hv0 : 0 ≤ v) (hv9 : v ≤ 1000000000) (hn0 : 0 ≤ now) (hl0 : 0 ≤ life) (hnl : now + life ≤ 1073741824)
    (hT : tgsOk mayL (v + 1) (now + life) T [] = true) (hS : snapOk (v + 1) (now + life) [⟨mayL, v + 1⟩] = true) (hM : timB (v + 1) (now + life) (v + 1) = true)
    (hTl : (sgT (v + 1) (now + life) T).length ≤ 100000) (hSl : (sgS (v + 1) (now + life)).length ≤ 100000) (hMl : (sgM (v + 1) (now + life)).length ≤ 100000) :
    Calls Tryz.prog 8 #[.pointer (some ⟨zr, 0, none⟩), .int .i64 now, .int .i64 life] w fun e w' => e = .returned (.int .i64 0) ∧ SgQ sd f seed p0 g v (now + life) xr C cn B m d T D zr zk used w w' := by
 subst hTm
 have HB0 := Lib.hid ht.out
 have HC0 := Lib.hid hC.out
 have HT := Lib.hid hT
 have HS := Lib.hid hS
 have HM := Lib.hid hM
 have HTl := Lib.hid hTl
 have HSl := Lib.hid hSl
 have HMl := Lib.hid hMl
 have hI1 : ¬ now < 0 := by omega
 have hI2 : ¬ 1073741824 < now := by omega
 have hI3 : ¬ life < 0 := by omega
 have hI4 : ¬ 1073741824 - now < life := by omega
 have hI5 : ¬ 13 < used := by omega
 clear hT hS hM hTl hSl hMl ht hC
 go_enter Tryz.func8, Tryz.ntmps8
 go_wp2_with (first | ((with_reducible apply (wpl_loadcellN (k := 33))); exact rfl; exact hb; exact rp_33' _ _ _ _ _ _ _))
 refine used_calls.mono ?_
 rintro e w1 ⟨rfl, st1⟩
 have hb1 : HB w1 zr 73 (rpL sd p0 (.pointer (some ⟨zk, 0, none⟩)) f g v [.slice B T.length d, xr, t0, t1, s0, s1, xg, .slice C cn cc]).toArray := inferInstance
 have hk1 : KeyAt w1 zk seed used := inferInstance
 go_wp2_with (first | ((with_reducible apply (wpl_loadcellN (k := 67))); exact rfl; exact hb1; exact rp_67 _ _ _ _ _ _ _))
 have hzrl := hb.out.lt
 have hzkl := hk.lt
 have orz : OffB (only zk) zr := ⟨fun e => hne (show zr = zk from e).symm⟩
 have hs1 : w.heap.size ≤ w1.heap.size := st1.chg.size
 have hslz := slL_len (pubS seed) (.func (.func 26) #[.pointer (some ⟨zk, 0, none⟩)] #[]) 0
 refine wp_region_N ((only zk)) (by kernel_rfl) (fun wd _ _ => ?_)
 refine' tk 0 _ rfl (by kernel_rfl) (by kernel_rfl) (by kernel_rfl) (fun _ _ _ h => h) (yo (by rfl) fun w' _ => ?_) inferInstance ?_
 rotate_left
 · (go_simp; try with_reducible rfl)
 try simp only [Act.put, sA, sB, sC]
 refine' tk 1 _ rfl (by kernel_rfl) (by kernel_rfl) (by kernel_rfl) (fun _ _ _ h => h) (yo (by rfl) fun w' _ => ?_) inferInstance ?_
 rotate_left
 · (go_simp; try with_reducible rfl)
 try simp only [Act.put, sA, sB, sC]
 refine' tk 2 _ rfl (by kernel_rfl) (by kernel_rfl) (by kernel_rfl) (fun _ _ _ h => h) (yo (by rfl) fun w' _ => ?_) inferInstance ?_
 rotate_left
 · (go_simp; try with_reducible rfl)
 try simp only [Act.put, sA, sB, sC]
 refine' tk 3 _ rfl (by kernel_rfl) (by kernel_rfl) (by kernel_rfl) (fun _ _ _ h => h) (yo (by rfl) fun w' _ => ?_) inferInstance ?_
 rotate_left
 · ((apply (ev_loadcellN (k := 33))); exact rfl; infer_instance; infer_instance; exact rp_33' _ _ _ _ _ _ _)
 try simp only [Act.put, sA, sB, sC]
 refine' tk 5 _ rfl (by kernel_rfl) (by kernel_rfl) (by kernel_rfl) (fun _ _ _ h => h) (yo (by rfl) fun w' _ => ?_) inferInstance ?_
 rotate_left
 · (go_simp; try with_reducible rfl)
 try simp only [Act.put, sA, sB, sC]
 refine' tk 6 _ rfl (by kernel_rfl) (by kernel_rfl) (by kernel_rfl) (fun _ _ _ h => h) (yo (by rfl) fun w' _ => ?_) inferInstance ?_
 rotate_left
 · (go_simp; try with_reducible rfl)
 try simp only [Act.put, sA, sB, sC]
 refine' tk 7 _ rfl (by kernel_rfl) (by kernel_rfl) (by kernel_rfl) (fun _ _ _ h => h) (yo (by rfl) fun w' _ => ?_) inferInstance ?_
 rotate_left
 · (go_simp; try with_reducible rfl)
 try simp only [Act.put, sA, sB, sC]
 refine' tk 8 _ rfl (by kernel_rfl) (by kernel_rfl) (by kernel_rfl) (fun _ _ _ h => h) (yo (by rfl) fun w' _ => ?_) inferInstance ?_
 rotate_left
 · ((apply (ev_loadcellN (k := 33))); exact rfl; infer_instance; infer_instance; exact rp_33' _ _ _ _ _ _ _)
 try simp only [Act.put, sA, sB, sC]
 refine' tk 9 _ rfl (by kernel_rfl) (by kernel_rfl) (by kernel_rfl) (fun _ _ _ h => h) (yo (by rfl) fun w' _ => ?_) inferInstance ?_
 rotate_left
 · (go_simp; try with_reducible rfl)
 try simp only [Act.put, sA, sB, sC]
 refine wpAnyH_ready (rs := [4, 11]) (by kernel_rfl) (by simp) (AllReadyH.cons rfl (fun K_ hK_ => ?_) (AllReadyH.cons rfl (fun K_ hK_ => ?_) AllReadyH.nil))
 focus
  go_simp
  refine (kpublic_calls (zk := zk) (seed := seed) (used := used)).mono ?_
  rintro e w2 ⟨rfl, st2, hk2⟩
  refine hK_.out _ _ inferInstance (fun _ => ?_)
  clear hK_ K_
  try simp only [Act.put, sA, sB, sC]
  refine' tk 10 _ rfl (by kernel_rfl) (by kernel_rfl) (by kernel_rfl) (fun _ _ _ h => h) (yo (by rfl) fun w' _ => ?_) inferInstance ?_
  rotate_left
  · ((apply ev_build); exact run_seal0 _ _ _)
  try simp only [Act.put, sA, sB, sC]
  refine goH (i := 11) (by kernel_rfl) rfl (fun K_ hK_ => ?_)
  rw [if_pos (by kernel_rfl)]
  refine wpr_of_list ?_
  ((with_reducible apply (wpl_alloc (dst := some 9))); intro z9 wz9 _ _ _)
  refine wpList_nil ?_
  unfold onlyN
  refine hK_.out _ _ inferInstance (fun _ => ?_)
  clear hK_ K_
  try simp only [Act.put, sA, sB, sC]
  refine goH (i := 12) (by kernel_rfl) rfl (fun K_ hK_ => ?_)
  rw [if_pos (by kernel_rfl)]
  refine wpr_of_list ?_
  ((with_reducible apply wpl_storerow); exact rfl; exact rfl; infer_instance; infer_instance; exact hslz; exact (slL_len _ _ _); exact sl_one _ _ _; intro wx stx hsx)
  refine wpList_nil ?_
  unfold onlyN
  refine hK_.out _ _ inferInstance (fun _ => ?_)
  clear hK_ K_
  try simp only [Act.put]
  refine wpAnyH_done (by kernel_rfl) ?_ _
 rotate_left 1
 focus
  rw [if_pos (by kernel_rfl)]
  refine wpr_of_list ?_
  ((with_reducible apply (wpl_alloc (dst := some 9))); intro z9 wz9 _ _ _)
  refine wpList_nil ?_
  unfold onlyN
  refine hK_.out _ _ inferInstance (fun _ => ?_)
  clear hK_ K_
  try simp only [Act.put, sA, sB, sC]
  refine goH (i := 4) (by kernel_rfl) rfl (fun K_ hK_ => ?_)
  go_simp
  refine (kpublic_calls (zk := zk) (seed := seed) (used := used)).mono ?_
  rintro e w2 ⟨rfl, st2, hk2⟩
  refine hK_.out _ _ inferInstance (fun _ => ?_)
  clear hK_ K_
  try simp only [Act.put, sA, sB, sC]
  refine' tk 10 _ rfl (by kernel_rfl) (by kernel_rfl) (by kernel_rfl) (fun _ _ _ h => h) (yo (by rfl) fun w' _ => ?_) inferInstance ?_
  rotate_left
  · ((apply ev_build); exact run_seal0 _ _ _)
  try simp only [Act.put, sA, sB, sC]
  refine goH (i := 12) (by kernel_rfl) rfl (fun K_ hK_ => ?_)
  rw [if_pos (by kernel_rfl)]
  refine wpr_of_list ?_
  ((with_reducible apply wpl_storerow); exact rfl; exact rfl; infer_instance; infer_instance; exact hslz; exact (slL_len _ _ _); exact sl_one _ _ _; intro wx stx hsx)
  refine wpList_nil ?_
  unfold onlyN
  refine hK_.out _ _ inferInstance (fun _ => ?_)
  clear hK_ K_
  try simp only [Act.put]
  refine wpAnyH_done (by kernel_rfl) ?_ _
 rotate_left 1
 all_goals
  have hz9 : w1.heap.size ≤ z9 := by
   first
    | exact Nat.le_trans (inferInstance : SzLe w1 w2).out (Nat.le_of_eq (inferInstance : Born w2 z9).eq.symm)
    | exact Nat.le_trans (inferInstance : SzLe w1 wd).out (Nat.le_of_eq (inferInstance : Born wd z9).eq.symm)
  have hk9 : zk ≠ z9 := by omega
  have hr9 : zr ≠ z9 := by omega
  have o9k : OffB (only z9) zk := ⟨hk9⟩
  have ok9 : OffB (only zk) z9 := ⟨fun e => hk9 (show z9 = zk from e).symm⟩
  have o9r : OffB (only z9) zr := ⟨hr9⟩
  have ot9 : OffB (two zk z9) zr := ⟨fun h => by rcases h with h | h; exact hne h.symm; exact hr9 h⟩
  have hkx : KeyAt wx zk seed used := inferInstance
  have hbx : HB wx zr 73 (rpL sd p0 (.pointer (some ⟨zk, 0, none⟩)) f g v [.slice B T.length d, xr, t0, t1, s0, s1, xg, .slice C cn cc]).toArray := inferInstance
  have hcx1 : Chg (only zk) w1 wx := (inferInstance : Ch (only zk) w1 wx).out
  have hCwx : Hid (Chg (two zk zr) w wx) := Lib.hid ((st1.chg.mono (T := two zk zr) (fun _ _ h => h.elim)).trans hcx1 (fun _ _ h => .inl h))
  obtain ⟨LO, hLO⟩ : ∃ n, n = wx.heap.size := ⟨_, rfl⟩
  have hz9l := hsx.out.lt
  have hkl9 : zk < LO := by have := hkx.lt; omega
  have hrl9 : zr < LO := by have := hbx.out.lt; omega
  have hoBx : Own wx 42 37 B T.length d (cellsOf T) := HB0.out.chg hCwx.out (fun ad e h => by rcases h with h | h; exact (hBk ad e).1 h; exact (hBk ad e).2 h)
  have hrB : HR wx B (cellsOf T) := ⟨hoBx.rd⟩
  clear hoBx
  have hrD : ∀ w, HR w none (cellsOf ([] : List DeleR)) := fun w => ⟨Rd.nil _ _⟩
  clear hb1 hk1 hk2 st2 stx hb hk hcx1 st1
  go_wp2_with (first | ((with_reducible apply (wpl_loadcellN (k := 68))); exact rfl; exact hbx; exact rp_68 _ _ _ _ _ _ _ _))
  refine (EncodeTargets_calls mayL (v + 1) (now + life) (P := T) (D := []) rfl rfl (fun k hk => by cases hk) (by omega) (by decide)).mono ?_
  unfold EncPost
  rw [HT.out]
  rintro e w3a ⟨st3a, A3, n3, c3, rfl, hn3, hO3, hN3⟩
  have HN3 := Lib.hid hn3
  clear hn3
  have hk3a : KeyAt w3a zk seed used := inferInstance
  have hs3a : HB w3a z9 78 (slL (pubS seed) (.func (.func 26) #[.pointer (some ⟨zk, 0, none⟩)] #[]) 0).toArray := inferInstance
  have hb3a : HB w3a zr 73 (rpL sd p0 (.pointer (some ⟨zk, 0, none⟩)) f g v [.slice B T.length d, xr, t0, t1, s0, s1, xg, .slice C cn cc]).toArray := inferInstance
  have hC3a : Hid (Chg (two zk zr) w w3a) := Lib.hid (hCwx.out.trans (stepN (w0 := wx) (w := w3a)).chg (fun _ _ h => h.elim))
  have hA3 : Hid (Chg nowhere wx w3a) := Lib.hid (stepN (w0 := wx) (w := w3a)).chg
  have sz3a : wx.heap.size ≤ w3a.heap.size := (stepN (w0 := wx) (w := w3a)).chg.size
  have hO3r : HR w3a A3 (bs _) := ⟨hO3.out.rd⟩
  go_wp2_with fail
  have qa3 := own_capR hO3.out
  have qb3 : n3 ≤ 100000 := by rw [HN3.out]; exact HTl.out
  have qc3 := sealM_calls (zs := z9) (zk := zk) (pub := pubS seed) (seed := seed) (used := used) (w := w3a) HN3.out.symm qa3 qb3 (by omega) (by omega) hk9 (fun ad e => by have := hN3.out ad e; constructor <;> omega) LO (by omega) (fun ad e => ⟨by have := hN3.out ad e; omega, hO3.out.lt e⟩)
  refine qc3.mono ?_
  clear qc3
  rintro e w3b ⟨v3, rfl, st3b, hk3b, hs3b, hE3⟩
  have o31 := hE3.out.v.one.2
  have hone3 : (#[.slice A3 n3 c3, v3] : Array Value).all (·.oneCell') = true := two_one _ _ rfl o31
  have szb3 := st3b.chg.size
  go_wp2_with (first | ((with_reducible apply wpl_build); exact run_pinV _ _) | ((with_reducible apply (stop_dst (dst := some 73))); (try simp only [Act.put, sA, sB, sC]); ((with_reducible apply (wpl_bslice (dst := some 73))); exact run_pinS _ _; intro zp wb _ _ _)) | ((with_reducible apply wpl_build); exact run_snapV _ _ _ _ _ _) | ((with_reducible apply (wpl_alloc (dst := some 10))); intro z10 wz10 _ _ _) | ((with_reducible apply wpl_storerow); exact rfl; exact rfl; infer_instance; infer_instance; (first | (with_reducible assumption) | (with_reducible exact H32.size _) | (with_reducible exact enc_sz _ rfl) | kernel_rfl); (first | (with_reducible assumption) | (with_reducible exact H32.size _) | (with_reducible exact enc_sz _ rfl) | kernel_rfl); (first | (with_reducible exact u8s_one _) | (with_reducible assumption) | (with_reducible exact enc_one _) | kernel_rfl); intro ws _ _))
  have hz10 : w3b.heap.size ≤ z10 := Nat.le_of_eq (inferInstance : Born w3b z10).eq.symm
  have hk3c : KeyAt wb zk seed (used + 1) := inferInstance
  have hs3c : HB wb z9 78 (slL (pubS seed) (.func (.func 26) #[.pointer (some ⟨zk, 0, none⟩)] #[]) 0).toArray := inferInstance
  have hb3c : HB wb zr 73 (rpL sd p0 (.pointer (some ⟨zk, 0, none⟩)) f g v [.slice B T.length d, xr, t0, t1, s0, s1, xg, .slice C cn cc]).toArray := inferInstance
  have he3c : HB wb z10 32 #[.slice A3 n3 c3, v3] := inferInstance
  have hcN3 : Chg nowhere w3b wb := (stepN (w0 := w3b) (w := wb)).chg
  have hCwb : Hid (Chg (two zk zr) w wb) := Lib.hid ((hC3a.out.trans st3b.chg (fun x hx h => by
   rcases h with h | h
   · exact .inl h
   · omega)).trans hcN3 (fun _ _ h => h.elim))
  have hX3 := Lib.hid (hE3.out.chg hcN3 (fun _ _ _ h => h))
  have szc3 := hcN3.size
  have ot3 : OffB (two zk z9) z10 := ⟨fun h => by rcases h with h | h <;> omega⟩
  have hrP : HR wb (some ⟨zp, 0, none⟩) (cellsOf [(⟨mayL, v + 1⟩ : PinR)]) := HB.cells inferInstance
  clear hk3a hs3a hb3a hk3b hs3b hcN3 hO3r hO3 hN3 qa3 qb3 HN3 hE3 st3a st3b
  skip
  refine (EncodeSnap_calls (v + 1) (now + life) (P := [⟨mayL, v + 1⟩]) rfl (show 1 ≤ 9223372036854775807 by decide)).mono ?_
  unfold EncPost
  rw [HS.out]
  rintro e w4a ⟨st4a, A4, n4, c4, rfl, hn4, hO4, hN4⟩
  have HN4 := Lib.hid hn4
  clear hn4
  have hk4a : KeyAt w4a zk seed (used + 1) := inferInstance
  have hs4a : HB w4a z9 78 (slL (pubS seed) (.func (.func 26) #[.pointer (some ⟨zk, 0, none⟩)] #[]) 0).toArray := inferInstance
  have hb4a : HB w4a zr 73 (rpL sd p0 (.pointer (some ⟨zk, 0, none⟩)) f g v [.slice B T.length d, xr, t0, t1, s0, s1, xg, .slice C cn cc]).toArray := inferInstance
  have hC4a : Hid (Chg (two zk zr) w w4a) := Lib.hid (hCwb.out.trans (stepN (w0 := wb) (w := w4a)).chg (fun _ _ h => h.elim))
  have hA4 : Hid (Chg nowhere wb w4a) := Lib.hid (stepN (w0 := wb) (w := w4a)).chg
  have sz4a : wb.heap.size ≤ w4a.heap.size := (stepN (w0 := wb) (w := w4a)).chg.size
  have hO4r : HR w4a A4 (bs _) := ⟨hO4.out.rd⟩
  go_wp2_with fail
  have qa4 := own_capR hO4.out
  have qb4 : n4 ≤ 100000 := by rw [HN4.out]; exact HSl.out
  have qc4 := sealM_calls (zs := z9) (zk := zk) (pub := pubS seed) (seed := seed) (used := (used + 1)) (w := w4a) HN4.out.symm qa4 qb4 (by omega) (by omega) hk9 (fun ad e => by have := hN4.out ad e; constructor <;> omega) LO (by omega) (fun ad e => ⟨by have := hN4.out ad e; omega, hO4.out.lt e⟩)
  refine qc4.mono ?_
  clear qc4
  rintro e w4b ⟨v4, rfl, st4b, hk4b, hs4b, hE4⟩
  have o41 := hE4.out.v.one.2
  have hone4 : (#[.slice A4 n4 c4, v4] : Array Value).all (·.oneCell') = true := two_one _ _ rfl o41
  have szb4 := st4b.chg.size
  go_wp2_with (first | ((with_reducible apply (wpl_alloc (dst := some 11))); intro z11 wz11 _ _ _) | ((with_reducible apply wpl_loadcellN); exact rfl; infer_instance; exact rfl) | ((with_reducible apply wpl_storerow); exact rfl; exact rfl; infer_instance; infer_instance; (first | (with_reducible assumption) | (with_reducible exact H32.size _) | (with_reducible exact enc_sz _ rfl) | kernel_rfl); (first | (with_reducible assumption) | (with_reducible exact H32.size _) | (with_reducible exact enc_sz _ rfl) | kernel_rfl); (first | (with_reducible exact u8s_one _) | (with_reducible assumption) | (with_reducible exact enc_one _) | kernel_rfl); intro ws _ _))
  have hz11 : w4b.heap.size ≤ z11 := Nat.le_of_eq (inferInstance : Born w4b z11).eq.symm
  have hk4c : KeyAt ws zk seed (used + 1 + 1) := inferInstance
  have hs4c : HB ws z9 78 (slL (pubS seed) (.func (.func 26) #[.pointer (some ⟨zk, 0, none⟩)] #[]) 0).toArray := inferInstance
  have hb4c : HB ws zr 73 (rpL sd p0 (.pointer (some ⟨zk, 0, none⟩)) f g v [.slice B T.length d, xr, t0, t1, s0, s1, xg, .slice C cn cc]).toArray := inferInstance
  have he4c : HB ws z11 32 #[.slice A4 n4 c4, v4] := inferInstance
  have hcN4 : Chg nowhere w4b ws := (stepN (w0 := w4b) (w := ws)).chg
  have hCws : Hid (Chg (two zk zr) w ws) := Lib.hid ((hC4a.out.trans st4b.chg (fun x hx h => by
   rcases h with h | h
   · exact .inl h
   · omega)).trans hcN4 (fun _ _ h => h.elim))
  have hX4 := Lib.hid (hE4.out.chg hcN4 (fun _ _ _ h => h))
  have szc4 := hcN4.size
  have ot4 : OffB (two zk z9) z11 := ⟨fun h => by rcases h with h | h <;> omega⟩
  have hX3_ := Lib.hid ((((hX3.out.chg hA4.out (fun _ _ _ h => h)).chg st4b.chg (fun y h1 h2 h => by rcases h with h | h <;> omega)).chg hcN4 (fun _ _ _ h => h)))
  have he3c_ : HB ws z10 32 #[.slice A3 n3 c3, v3] := inferInstance
  clear hX3 he3c
  have hbd4 := hX4.out.body
  clear hk4a hs4a hb4a hk4b hs4b hcN4 hO4r hO4 hN4 qa4 qb4 HN4 hE4 st4a st4b
  obtain ⟨wq, hwq⟩ : ∃ x : World, x = ws := ⟨_, rfl⟩
  subst hwq
  obtain ⟨M4, hM4⟩ : ∃ M, M = snapE (v + 1) (now + life) [(⟨mayL, v + 1⟩ : PinR)] := ⟨_, rfl⟩
  rw [← hM4] at hbd4 hX4
  have hR4 : HR wq A4 (bs M4) := ⟨hbd4.1⟩
  have hl4 := hbd4.2.1
  have hc4 := hbd4.2.2.1
  have hm4 := hbd4.2.2.2
  have HM4 := Lib.hid hM4
  clear hM4 hbd4
  refine (sum_calls (xs := M4) hl4 hc4 (by omega)).mono ?_
  rintro e w5z ⟨rfl, st5z⟩
  have hCw5z : Hid (Chg (two zk zr) w w5z) := Lib.hid (hCws.out.trans st5z.chg (fun _ _ h => h.elim))
  have hX4z := Lib.hid (hX4.out.chg st5z.chg (fun _ _ _ h => h))
  have hX3z := Lib.hid (hX3_.out.chg st5z.chg (fun _ _ _ h => h))
  have he4z : HB w5z z11 32 #[.slice A4 n4 c4, v4] := inferInstance
  have he3z : HB w5z z10 32 #[.slice A3 n3 c3, v3] := inferInstance
  have sz5z := st5z.chg.size
  clear hX4 hX3_ he4c he3c_
  go_wp2_with (first | ((with_reducible apply wpl_build); exact run_timV _ _ _ _ _))
  refine (EncodeTime_calls (v + 1) (now + life) (v + 1) (shaH M4) _).mono ?_
  unfold EncPost
  rw [HM.out]
  rintro e w5a ⟨st5a, A5, n5, c5, rfl, hn5, hO5, hN5⟩
  have HN5 := Lib.hid hn5
  clear hn5
  have hk5a : KeyAt w5a zk seed (used + 1 + 1) := inferInstance
  have hs5a : HB w5a z9 78 (slL (pubS seed) (.func (.func 26) #[.pointer (some ⟨zk, 0, none⟩)] #[]) 0).toArray := inferInstance
  have hb5a : HB w5a zr 73 (rpL sd p0 (.pointer (some ⟨zk, 0, none⟩)) f g v [.slice B T.length d, xr, t0, t1, s0, s1, xg, .slice C cn cc]).toArray := inferInstance
  have hC5a : Hid (Chg (two zk zr) w w5a) := Lib.hid (hCw5z.out.trans (stepN (w0 := w5z) (w := w5a)).chg (fun _ _ h => h.elim))
  have hA5 : Hid (Chg nowhere w5z w5a) := Lib.hid (stepN (w0 := w5z) (w := w5a)).chg
  have sz5a : w5z.heap.size ≤ w5a.heap.size := (stepN (w0 := w5z) (w := w5a)).chg.size
  have hO5r : HR w5a A5 (bs _) := ⟨hO5.out.rd⟩
  go_wp2_with fail
  have qa5 := own_capR hO5.out
  have qb5 : n5 ≤ 100000 := by rw [HN5.out]; have h9 := HMl.out; unfold sgM sgS at h9; rw [← HM4.out] at h9; exact h9
  have qc5 := sealM_calls (zs := z9) (zk := zk) (pub := pubS seed) (seed := seed) (used := (used + 1 + 1)) (w := w5a) HN5.out.symm qa5 qb5 (by omega) (by omega) hk9 (fun ad e => by have := hN5.out ad e; constructor <;> omega) LO (by omega) (fun ad e => ⟨by have := hN5.out ad e; omega, hO5.out.lt e⟩)
  refine qc5.mono ?_
  clear qc5
  rintro e w5b ⟨v5, rfl, st5b, hk5b, hs5b, hE5⟩
  have o51 := hE5.out.v.one.2
  have hone5 : (#[.slice A5 n5 c5, v5] : Array Value).all (·.oneCell') = true := two_one _ _ rfl o51
  have szb5 := st5b.chg.size
  go_wp2_with (first | ((with_reducible apply (wpl_loadcellN (k := 33))); exact rfl; infer_instance; exact sl_33 _ _ _) | ((with_reducible apply (wpl_alloc (dst := some 12))); intro z12 wz12 _ _ _) | ((with_reducible apply wpl_storerow); exact rfl; exact rfl; infer_instance; infer_instance; (first | (with_reducible assumption) | (with_reducible exact H32.size _) | (with_reducible exact enc_sz _ rfl) | kernel_rfl); (first | (with_reducible assumption) | (with_reducible exact H32.size _) | (with_reducible exact enc_sz _ rfl) | kernel_rfl); (first | (with_reducible exact u8s_one _) | (with_reducible assumption) | (with_reducible exact enc_one _) | kernel_rfl); intro ws _ _))
  have hz12 : w5b.heap.size ≤ z12 := Nat.le_of_eq (inferInstance : Born w5b z12).eq.symm
  have hk5c : KeyAt ws zk seed (used + 1 + 1 + 1) := inferInstance
  have hs5c : HB ws z9 78 (slL (pubS seed) (.func (.func 26) #[.pointer (some ⟨zk, 0, none⟩)] #[]) 0).toArray := inferInstance
  have hb5c : HB ws zr 73 (rpL sd p0 (.pointer (some ⟨zk, 0, none⟩)) f g v [.slice B T.length d, xr, t0, t1, s0, s1, xg, .slice C cn cc]).toArray := inferInstance
  have he5c : HB ws z12 32 #[.slice A5 n5 c5, v5] := inferInstance
  have hcN5 : Chg nowhere w5b ws := (stepN (w0 := w5b) (w := ws)).chg
  have hCws : Hid (Chg (two zk zr) w ws) := Lib.hid ((hC5a.out.trans st5b.chg (fun x hx h => by
   rcases h with h | h
   · exact .inl h
   · omega)).trans hcN5 (fun _ _ h => h.elim))
  have hX5 := Lib.hid (hE5.out.chg hcN5 (fun _ _ _ h => h))
  have szc5 := hcN5.size
  have ot5 : OffB (two zk z9) z12 := ⟨fun h => by rcases h with h | h <;> omega⟩
  have hX3z_ := Lib.hid ((((hX3z.out.chg hA5.out (fun _ _ _ h => h)).chg st5b.chg (fun y h1 h2 h => by rcases h with h | h <;> omega)).chg hcN5 (fun _ _ _ h => h)))
  have he3z_ : HB ws z10 32 #[.slice A3 n3 c3, v3] := inferInstance
  clear hX3z he3z
  have hX4z_ := Lib.hid ((((hX4z.out.chg hA5.out (fun _ _ _ h => h)).chg st5b.chg (fun y h1 h2 h => by rcases h with h | h <;> omega)).chg hcN5 (fun _ _ _ h => h)))
  have he4z_ : HB ws z11 32 #[.slice A4 n4 c4, v4] := inferInstance
  clear hX4z he4z
  clear hk5a hs5a hb5a hk5b hs5b hcN5 hO5r hO5 hN5 qa5 qb5 HN5 hE5 st5a st5b
  obtain ⟨wy, hwy⟩ : ∃ x : World, x = ws := ⟨_, rfl⟩
  subst hwy
  have kbE := run_ev1 ⟨.slice A3 n3 c3, v3, rfl, o31⟩
  have HP1 : Hid ((rpL sd p0 (.pointer (some ⟨zk, 0, none⟩)) f g v [.slice B T.length d, xr, t0, t1, s0, s1, xg, .slice C cn cc]).toArray.toList.take 70 ++ (#[.slice A5 n5 c5, v5] : Array Value).toList ++ (rpL sd p0 (.pointer (some ⟨zk, 0, none⟩)) f g v [.slice B T.length d, xr, t0, t1, s0, s1, xg, .slice C cn cc]).toArray.toList.drop (70 + 2) = (rpL sd p0 (.pointer (some ⟨zk, 0, none⟩)) f g v [.slice B T.length d, xr, .slice A5 n5 c5, v5, s0, s1, xg, .slice C cn cc]).toArray.toList) := Lib.hid (rp_putn sd p0 _ f g v _ 2 2 _)
  have HP2 : Hid ((rpL sd p0 (.pointer (some ⟨zk, 0, none⟩)) f g v [.slice B T.length d, xr, .slice A5 n5 c5, v5, s0, s1, xg, .slice C cn cc]).toArray.toList.take 72 ++ (#[.slice A4 n4 c4, v4] : Array Value).toList ++ (rpL sd p0 (.pointer (some ⟨zk, 0, none⟩)) f g v [.slice B T.length d, xr, .slice A5 n5 c5, v5, s0, s1, xg, .slice C cn cc]).toArray.toList.drop (72 + 2) = (rpL sd p0 (.pointer (some ⟨zk, 0, none⟩)) f g v [.slice B T.length d, xr, .slice A5 n5 c5, v5, .slice A4 n4 c4, v4, xg, .slice C cn cc]).toArray.toList) := Lib.hid (rp_putn sd p0 _ f g v _ 4 2 _)
  have HZ1 : Hid (70 + 2 ≤ (rpL sd p0 (.pointer (some ⟨zk, 0, none⟩)) f g v [.slice B T.length d, xr, t0, t1, s0, s1, xg, .slice C cn cc]).toArray.size) := Lib.hid (by rw [rp_sz _ _ _ _ _ _ _ rfl]; decide)
  have HZ2 : Hid (72 + 2 ≤ (rpL sd p0 (.pointer (some ⟨zk, 0, none⟩)) f g v [.slice B T.length d, xr, .slice A5 n5 c5, v5, s0, s1, xg, .slice C cn cc]).toArray.size) := Lib.hid (by rw [rp_sz _ _ _ _ _ _ _ rfl]; decide)
  have HZ3 : Hid (74 < (rpL sd p0 (.pointer (some ⟨zk, 0, none⟩)) f g v [.slice B T.length d, xr, .slice A5 n5 c5, v5, .slice A4 n4 c4, v4, xg, .slice C cn cc]).toArray.size) := Lib.hid (by rw [rp_sz _ _ _ _ _ _ _ rfl]; decide)
  have or10 : OffB (only zr) z10 := ⟨fun e => by have e' : z10 = zr := e; omega⟩
  have or11 : OffB (only zr) z11 := ⟨fun e => by have e' : z11 = zr := e; omega⟩
  have or12 : OffB (only zr) z12 := ⟨fun e => by have e' : z12 = zr := e; omega⟩
  have ork : OffB (only zr) zk := ⟨hne⟩
  refine wp_region_N ((only zr)) (by kernel_rfl) (fun wd _ _ => ?_)
  refine' tk 0 _ rfl (by kernel_rfl) (by kernel_rfl) (by kernel_rfl) (fun _ _ _ h => h) (yo (by rfl) fun w' _ => ?_) inferInstance ?_
  rotate_left
  · (go_simp; try with_reducible rfl)
  try simp only [Act.put, sA, sB, sC]
  refine' tk 1 _ rfl (by kernel_rfl) (by kernel_rfl) (by kernel_rfl) (fun _ _ _ h => h) (yo (by rfl) fun w' _ => ?_) inferInstance ?_
  rotate_left
  · (go_simp; try with_reducible rfl)
  try simp only [Act.put, sA, sB, sC]
  refine' tk 2 _ rfl (by kernel_rfl) (by kernel_rfl) (by kernel_rfl) (fun _ _ _ h => h) (yo (by rfl) fun w' _ => ?_) inferInstance ?_
  rotate_left
  · (go_simp; try with_reducible rfl)
  try simp only [Act.put, sA, sB, sC]
  refine' tk 3 _ rfl (by kernel_rfl) (by kernel_rfl) (by kernel_rfl) (fun _ _ _ h => h) (yo (by rfl) fun w' _ => ?_) inferInstance ?_
  rotate_left
  · ((apply ev_loadrow); exact rfl; infer_instance; infer_instance; (first | (with_reducible assumption) | (with_reducible exact H32.size _) | (with_reducible exact enc_sz _ rfl) | kernel_rfl))
  try simp only [Act.put, sA, sB, sC]
  refine' tk 4 _ rfl (by kernel_rfl) (by kernel_rfl) (by kernel_rfl) (fun _ _ _ h => h) (yo (by rfl) fun w' _ => ?_) inferInstance ?_
  rotate_left
  · ((apply ev_loadrow); exact rfl; infer_instance; infer_instance; (first | (with_reducible assumption) | (with_reducible exact H32.size _) | (with_reducible exact enc_sz _ rfl) | kernel_rfl))
  try simp only [Act.put, sA, sB, sC]
  refine' tk 5 _ rfl (by kernel_rfl) (by kernel_rfl) (by kernel_rfl) (fun _ _ _ h => h) (yo (by rfl) fun w' _ => ?_) inferInstance ?_
  rotate_left
  · ((apply ev_loadrow); exact rfl; infer_instance; infer_instance; (first | (with_reducible assumption) | (with_reducible exact H32.size _) | (with_reducible exact enc_sz _ rfl) | kernel_rfl))
  try simp only [Act.put, sA, sB, sC]
  refine' tk 7 _ rfl (by kernel_rfl) (by kernel_rfl) (by kernel_rfl) (fun _ _ _ h => h) (yo (by rfl) fun w' _ => ?_) inferInstance ?_
  rotate_left
  · (go_simp; try with_reducible rfl)
  try simp only [Act.put, sA, sB, sC]
  refine' tk 8 _ rfl (by kernel_rfl) (by kernel_rfl) (by kernel_rfl) (fun _ _ _ h => h) (yo (by rfl) fun w' _ => ?_) inferInstance ?_
  rotate_left
  · (go_simp; try with_reducible rfl)
  try simp only [Act.put, sA, sB, sC]
  refine' tk 9 _ rfl (by kernel_rfl) (by kernel_rfl) (by kernel_rfl) (fun _ _ _ h => h) (yo (by rfl) fun w' _ => ?_) inferInstance ?_
  rotate_left
  · (go_simp; try with_reducible rfl)
  try simp only [Act.put, sA, sB, sC]
  refine wpAnyH_ready (rs := [6, 10]) (by kernel_rfl) (by simp) (AllReadyH.cons rfl (fun K_ hK_ => ?_) (AllReadyH.cons rfl (fun K_ hK_ => ?_) AllReadyH.nil))
  focus
   rw [if_pos (by kernel_rfl)]
   refine wpr_of_list ?_
   ((with_reducible apply (stop_dst (dst := some 101))); (try simp only [Act.put, sA, sB, sC]); ((with_reducible apply (wpl_bslice (dst := some 101))); exact kbE _; intro ze wb _ _ _))
   refine wpList_nil ?_
   unfold onlyN
   refine hK_.out _ _ inferInstance (fun _ => ?_)
   clear hK_ K_
   try simp only [Act.put, sA, sB, sC]
   refine goH (i := 10) (by kernel_rfl) rfl (fun K_ hK_ => ?_)
   rw [if_pos (by kernel_rfl)]
   refine wpr_of_list ?_
   ((with_reducible apply (wpl_storepart (k := 70) (n := 2))); exact rfl; exact rfl; infer_instance; infer_instance; exact rfl; (decide); exact HZ1.out; exact hone5; exact HP1.out; intro wA stA hbA)
   refine wpList_nil ?_
   unfold onlyN
   refine hK_.out _ _ inferInstance (fun _ => ?_)
   clear hK_ K_
   try simp only [Act.put]
   refine' tk 11 _ rfl (by kernel_rfl) (by kernel_rfl) (by kernel_rfl) (fun _ _ _ h => h) (yo (by rfl) fun w' _ => ?_) inferInstance ?_
   rotate_left
   · (go_simp; try with_reducible rfl)
   try simp only [Act.put, sA, sB, sC]
   refine' tk 12 _ rfl (by kernel_rfl) (by kernel_rfl) (by kernel_rfl) (fun _ _ _ h => h) (yo (by rfl) fun w' _ => ?_) inferInstance ?_
   rotate_left
   · (go_simp; try with_reducible rfl)
   try simp only [Act.put, sA, sB, sC]
   refine' tk 13 _ rfl (by kernel_rfl) (by kernel_rfl) (by kernel_rfl) (fun _ _ _ h => h) (yo (by rfl) fun w' _ => ?_) inferInstance ?_
   rotate_left
   · (go_simp; try with_reducible rfl)
   try simp only [Act.put, sA, sB, sC]
   refine goH (i := 14) (by kernel_rfl) rfl (fun K_ hK_ => ?_)
   rw [if_pos (by kernel_rfl)]
   refine wpr_of_list ?_
   ((with_reducible apply (wpl_storepart (k := 72) (n := 2))); exact rfl; exact rfl; infer_instance; infer_instance; exact rfl; (decide); exact HZ2.out; exact hone4; exact HP2.out; intro wB stB hbB)
   refine wpList_nil ?_
   unfold onlyN
   refine hK_.out _ _ inferInstance (fun _ => ?_)
   clear hK_ K_
   try simp only [Act.put]
   refine' tk 15 _ rfl (by kernel_rfl) (by kernel_rfl) (by kernel_rfl) (fun _ _ _ h => h) (yo (by rfl) fun w' _ => ?_) inferInstance ?_
   rotate_left
   · (go_simp; try with_reducible rfl)
   try simp only [Act.put, sA, sB, sC]
   refine' tk 16 _ rfl (by kernel_rfl) (by kernel_rfl) (by kernel_rfl) (fun _ _ _ h => h) (yo (by rfl) fun w' _ => ?_) inferInstance ?_
   rotate_left
   · (go_simp; try with_reducible rfl)
   try simp only [Act.put, sA, sB, sC]
   refine' tk 17 _ rfl (by kernel_rfl) (by kernel_rfl) (by kernel_rfl) (fun _ _ _ h => h) (yo (by rfl) fun w' _ => ?_) inferInstance ?_
   rotate_left
   · (go_simp; try with_reducible rfl)
   try simp only [Act.put, sA, sB, sC]
   refine goH (i := 18) (by kernel_rfl) rfl (fun K_ hK_ => ?_)
   rw [if_pos (by kernel_rfl)]
   refine wpr_of_list ?_
   ((with_reducible apply (wpl_storecell (k := 74))); exact rfl; exact rfl; infer_instance; exact rfl; exact HZ3.out; intro wC stC hbC)
   refine wpList_nil ?_
   unfold onlyN
   refine hK_.out _ _ inferInstance (fun _ => ?_)
   clear hK_ K_
   try simp only [Act.put]
   refine wpAnyH_done (by kernel_rfl) ?_ _
  rotate_left 1
  focus
   rw [if_pos (by kernel_rfl)]
   refine wpr_of_list ?_
   ((with_reducible apply (wpl_storepart (k := 70) (n := 2))); exact rfl; exact rfl; infer_instance; infer_instance; exact rfl; (decide); exact HZ1.out; exact hone5; exact HP1.out; intro wA stA hbA)
   refine wpList_nil ?_
   unfold onlyN
   refine hK_.out _ _ inferInstance (fun _ => ?_)
   clear hK_ K_
   try simp only [Act.put]
   refine' tk 11 _ rfl (by kernel_rfl) (by kernel_rfl) (by kernel_rfl) (fun _ _ _ h => h) (yo (by rfl) fun w' _ => ?_) inferInstance ?_
   rotate_left
   · (go_simp; try with_reducible rfl)
   try simp only [Act.put, sA, sB, sC]
   refine' tk 12 _ rfl (by kernel_rfl) (by kernel_rfl) (by kernel_rfl) (fun _ _ _ h => h) (yo (by rfl) fun w' _ => ?_) inferInstance ?_
   rotate_left
   · (go_simp; try with_reducible rfl)
   try simp only [Act.put, sA, sB, sC]
   refine' tk 13 _ rfl (by kernel_rfl) (by kernel_rfl) (by kernel_rfl) (fun _ _ _ h => h) (yo (by rfl) fun w' _ => ?_) inferInstance ?_
   rotate_left
   · (go_simp; try with_reducible rfl)
   try simp only [Act.put, sA, sB, sC]
   refine wpAnyH_ready (rs := [6, 14]) (by kernel_rfl) (by simp) (AllReadyH.cons rfl (fun K_ hK_ => ?_) (AllReadyH.cons rfl (fun K_ hK_ => ?_) AllReadyH.nil))
   focus
    rw [if_pos (by kernel_rfl)]
    refine wpr_of_list ?_
    ((with_reducible apply (stop_dst (dst := some 101))); (try simp only [Act.put, sA, sB, sC]); ((with_reducible apply (wpl_bslice (dst := some 101))); exact kbE _; intro ze wb _ _ _))
    refine wpList_nil ?_
    unfold onlyN
    refine hK_.out _ _ inferInstance (fun _ => ?_)
    clear hK_ K_
    try simp only [Act.put, sA, sB, sC]
    refine goH (i := 14) (by kernel_rfl) rfl (fun K_ hK_ => ?_)
    rw [if_pos (by kernel_rfl)]
    refine wpr_of_list ?_
    ((with_reducible apply (wpl_storepart (k := 72) (n := 2))); exact rfl; exact rfl; infer_instance; infer_instance; exact rfl; (decide); exact HZ2.out; exact hone4; exact HP2.out; intro wB stB hbB)
    refine wpList_nil ?_
    unfold onlyN
    refine hK_.out _ _ inferInstance (fun _ => ?_)
    clear hK_ K_
    try simp only [Act.put]
    refine' tk 15 _ rfl (by kernel_rfl) (by kernel_rfl) (by kernel_rfl) (fun _ _ _ h => h) (yo (by rfl) fun w' _ => ?_) inferInstance ?_
    rotate_left
    · (go_simp; try with_reducible rfl)
    try simp only [Act.put, sA, sB, sC]
    refine' tk 16 _ rfl (by kernel_rfl) (by kernel_rfl) (by kernel_rfl) (fun _ _ _ h => h) (yo (by rfl) fun w' _ => ?_) inferInstance ?_
    rotate_left
    · (go_simp; try with_reducible rfl)
    try simp only [Act.put, sA, sB, sC]
    refine' tk 17 _ rfl (by kernel_rfl) (by kernel_rfl) (by kernel_rfl) (fun _ _ _ h => h) (yo (by rfl) fun w' _ => ?_) inferInstance ?_
    rotate_left
    · (go_simp; try with_reducible rfl)
    try simp only [Act.put, sA, sB, sC]
    refine goH (i := 18) (by kernel_rfl) rfl (fun K_ hK_ => ?_)
    rw [if_pos (by kernel_rfl)]
    refine wpr_of_list ?_
    ((with_reducible apply (wpl_storecell (k := 74))); exact rfl; exact rfl; infer_instance; exact rfl; exact HZ3.out; intro wC stC hbC)
    refine wpList_nil ?_
    unfold onlyN
    refine hK_.out _ _ inferInstance (fun _ => ?_)
    clear hK_ K_
    try simp only [Act.put]
    refine wpAnyH_done (by kernel_rfl) ?_ _
   rotate_left 1
   focus
    rw [if_pos (by kernel_rfl)]
    refine wpr_of_list ?_
    ((with_reducible apply (wpl_storepart (k := 72) (n := 2))); exact rfl; exact rfl; infer_instance; infer_instance; exact rfl; (decide); exact HZ2.out; exact hone4; exact HP2.out; intro wB stB hbB)
    refine wpList_nil ?_
    unfold onlyN
    refine hK_.out _ _ inferInstance (fun _ => ?_)
    clear hK_ K_
    try simp only [Act.put]
    refine goH (i := 6) (by kernel_rfl) rfl (fun K_ hK_ => ?_)
    rw [if_pos (by kernel_rfl)]
    refine wpr_of_list ?_
    ((with_reducible apply (stop_dst (dst := some 101))); (try simp only [Act.put, sA, sB, sC]); ((with_reducible apply (wpl_bslice (dst := some 101))); exact kbE _; intro ze wb _ _ _))
    refine wpList_nil ?_
    unfold onlyN
    refine hK_.out _ _ inferInstance (fun _ => ?_)
    clear hK_ K_
    try simp only [Act.put, sA, sB, sC]
    refine' tk 15 _ rfl (by kernel_rfl) (by kernel_rfl) (by kernel_rfl) (fun _ _ _ h => h) (yo (by rfl) fun w' _ => ?_) inferInstance ?_
    rotate_left
    · (go_simp; try with_reducible rfl)
    try simp only [Act.put, sA, sB, sC]
    refine' tk 16 _ rfl (by kernel_rfl) (by kernel_rfl) (by kernel_rfl) (fun _ _ _ h => h) (yo (by rfl) fun w' _ => ?_) inferInstance ?_
    rotate_left
    · (go_simp; try with_reducible rfl)
    try simp only [Act.put, sA, sB, sC]
    refine' tk 17 _ rfl (by kernel_rfl) (by kernel_rfl) (by kernel_rfl) (fun _ _ _ h => h) (yo (by rfl) fun w' _ => ?_) inferInstance ?_
    rotate_left
    · (go_simp; try with_reducible rfl)
    try simp only [Act.put, sA, sB, sC]
    refine goH (i := 18) (by kernel_rfl) rfl (fun K_ hK_ => ?_)
    rw [if_pos (by kernel_rfl)]
    refine wpr_of_list ?_
    ((with_reducible apply (wpl_storecell (k := 74))); exact rfl; exact rfl; infer_instance; exact rfl; exact HZ3.out; intro wC stC hbC)
    refine wpList_nil ?_
    unfold onlyN
    refine hK_.out _ _ inferInstance (fun _ => ?_)
    clear hK_ K_
    try simp only [Act.put]
    refine wpAnyH_done (by kernel_rfl) ?_ _
   rotate_left 1
  rotate_left 2
  all_goals
   have hzeb : wy.heap.size ≤ ze := by
    first
     | exact Nat.le_trans (inferInstance : SzLe wy wd).out (Nat.le_of_eq (inferInstance : Born wd ze).eq.symm)
     | exact Nat.le_trans (inferInstance : SzLe wy wA).out (Nat.le_of_eq (inferInstance : Born wA ze).eq.symm)
     | exact Nat.le_trans (inferInstance : SzLe wy wB).out (Nat.le_of_eq (inferInstance : Born wB ze).eq.symm)
   have oze : OffB (only zr) ze := ⟨fun e => by have e' : ze = zr := e; omega⟩
   have hb1 : HB wC zr 73 (rpL sd p0 (.pointer (some ⟨zk, 0, none⟩)) f g v [.slice B T.length d, xr, .slice A5 n5 c5, v5, .slice A4 n4 c4, v4, .slice (some ⟨ze, 0, none⟩) 1 1, .slice C cn cc]).toArray := HB.row_eqS hbC (rp_setn sd p0 _ f g v _ 6 _)
   have hbE : HB wC ze 32 (cellsOf [(⟨.slice A3 n3 c3, v3, rfl, o31⟩ : EvC)]).toArray := inferInstance
   have hkC : KeyAt wC zk seed (used + 1 + 1 + 1) := inferInstance
   have hcC : Chg (only zr) wy wC := (inferInstance : Ch (only zr) wy wC).out
   have hY3 := Lib.hid (hX3z_.out.chg hcC (fun y h1 h2 h => by have h' : y = zr := h; omega))
   have hY4 := Lib.hid (hX4z_.out.chg hcC (fun y h1 h2 h => by have h' : y = zr := h; omega))
   have hY5 := Lib.hid (hX5.out.chg hcC (fun y h1 h2 h => by have h' : y = zr := h; omega))
   have hCC : Hid (Chg (two zk zr) w wC) := Lib.hid (hCws.out.trans hcC (fun _ _ h => .inr h))
   have HZ67 : Hid (67 < (rpL sd p0 (.pointer (some ⟨zk, 0, none⟩)) f g v [.slice B T.length d, xr, .slice A5 n5 c5, v5, .slice A4 n4 c4, v4, .slice (some ⟨ze, 0, none⟩) 1 1, .slice C cn cc]).toArray.size) := Lib.hid (by rw [rp_sz _ _ _ _ _ _ _ rfl]; decide)
   have HZ75 : Hid (75 < (rpL sd p0 (.pointer (some ⟨zk, 0, none⟩)) f g (v + 1) [.slice B T.length d, xr, .slice A5 n5 c5, v5, .slice A4 n4 c4, v4, .slice (some ⟨ze, 0, none⟩) 1 1, .slice C cn cc]).toArray.size) := Lib.hid (by rw [rp_sz _ _ _ _ _ _ _ rfl]; decide)
   clear hbC hX3z_ hX4z_ hX5 hcC
   go_wp2_with (first | ((with_reducible apply (wpl_storecell (k := 67))); exact rfl; exact rfl; exact hb1; exact rfl; exact HZ67.out; intro wD stD hbD0; have hbD : HB wD zr 73 (rpL sd p0 (.pointer (some ⟨zk, 0, none⟩)) f g (v + 1) [.slice B T.length d, xr, .slice A5 n5 c5, v5, .slice A4 n4 c4, v4, .slice (some ⟨ze, 0, none⟩) 1 1, .slice C cn cc]).toArray := HB.row_eqS hbD0 (rp_set67 _ _ _ _ _ _ _ _); clear hbD0))
   have hc75 : nth (rpL sd p0 (.pointer (some ⟨zk, 0, none⟩)) f g (v + 1) [.slice B T.length d, xr, .slice A5 n5 c5, v5, .slice A4 n4 c4, v4, .slice (some ⟨ze, 0, none⟩) 1 1, .slice C cn cc]).toArray.toList 75 = some (.slice C cn cc) := by
    rw [← nth_get]
    exact rp_get68 sd p0 _ f g (v + 1) _ 7
   have hcw9 : Hid (Chg (two zk zr) w wD) := Lib.hid (hCC.out.trans (inferInstance : Step (only zr) wC wD).chg (fun _ _ h => .inr h))
   have hoB : HO wD 42 37 B T.length d (cellsOf T) := ⟨HB0.out.chg hcw9.out (fun ad e h => by rcases h with h | h; exact (hBk ad e).1 h; exact (hBk ad e).2 h)⟩
   have hoC : HO wD 42 37 C cn cc (cellsOf D) := ⟨HC0.out.chg hcw9.out (fun ad e h => by rcases h with h | h; exact (hCk ad e).1 h; exact (hCk ad e).2 h)⟩
   have hrTB : HR wD B (cellsOf T) := ⟨hoB.out.rd⟩
   have hDl : D.length = cn := hDn
   have hszw := hcw9.out.size
   have hCl : ∀ ad, C = some ad → ad.block < w.heap.size := fun ad e => HC0.out.lt e
   have hBl : ∀ ad, B = some ad → ad.block < w.heap.size := fun ad e => HB0.out.lt e
   have oCr : OffB (rowOf C) zr := ⟨fun ⟨ad, e, h⟩ => (hCk ad e).2 h⟩
   have oCB : OffA (rowOf C) B := ⟨fun ad e ⟨bd, e2, h⟩ => hBC ad bd e e2 h.symm⟩
   have oCE : OffB (rowOf C) ze := ⟨fun ⟨ad, e, h⟩ => by have := hCl ad e; omega⟩
   have oCk : OffB (rowOf C) zk := ⟨fun ⟨ad, e, h⟩ => (hCk ad e).1 h⟩
   have orC : OffA (only zr) C := ⟨fun ad e h => (hCk ad e).2 h⟩
   have orB : OffA (only zr) B := ⟨fun ad e h => (hBk ad e).2 h⟩
   have hbDD : HB wD zr 73 (rpL sd p0 (.pointer (some ⟨zk, 0, none⟩)) f g (v + 1) [.slice B T.length d, xr, .slice A5 n5 c5, v5, .slice A4 n4 c4, v4, .slice (some ⟨ze, 0, none⟩) 1 1, .slice C cn cc]).toArray := hbD
   have hbED : HB wD ze 32 (cellsOf [(⟨.slice A3 n3 c3, v3, rfl, o31⟩ : EvC)]).toArray := inferInstance
   have hkD : KeyAt wD zk seed (used + 1 + 1 + 1) := inferInstance
   have hcD : Chg (only zr) wC wD := (inferInstance : Ch (only zr) wC wD).out
   have hW3 := Lib.hid (hY3.out.chg hcD (fun y h1 h2 h => by have h' : y = zr := h; omega))
   have hW4 := Lib.hid (hY4.out.chg hcD (fun y h1 h2 h => by have h' : y = zr := h; omega))
   have hW5 := Lib.hid (hY5.out.chg hcD (fun y h1 h2 h => by have h' : y = zr := h; omega))
   have hcyD : Chg (only zr) wy wD := (inferInstance : Ch (only zr) wy wD).out
   have HZD : Hid (wy.heap.size ≤ ze ∧ ze < wD.heap.size ∧ LO ≤ wy.heap.size ∧ wy.heap.size ≤ wD.heap.size) := Lib.hid ⟨hzeb, hbED.out.lt, by omega, hcyD.size⟩
   have hwLO : w.heap.size ≤ LO := by rw [hLO]; exact hCwx.out.size
   clear hY3 hY4 hY5 hcD hcyD hbE hkC hb1 hbD
   refine wp_region_N ((gzr zr C)) (by kernel_rfl) (fun wd _ _ => ?_)
   refine' tk 0 _ rfl (by kernel_rfl) (by kernel_rfl) (by kernel_rfl) (fun _ _ _ h => h) (yo (by rfl) fun w' _ => ?_) inferInstance ?_
   rotate_left
   · (go_simp; try with_reducible rfl)
   try simp only [Act.put, sA, sB, sC]
   refine' tk 1 _ rfl (by kernel_rfl) (by kernel_rfl) (by kernel_rfl) (fun _ _ _ h => h) (yo (by rfl) fun w' _ => ?_) inferInstance ?_
   rotate_left
   · (go_simp; try with_reducible rfl)
   try simp only [Act.put, sA, sB, sC]
   refine' tk 2 _ rfl (by kernel_rfl) (by kernel_rfl) (by kernel_rfl) (fun _ _ _ h => h) (yo (by rfl) fun w' _ => ?_) inferInstance ?_
   rotate_left
   · (go_simp; try with_reducible rfl)
   try simp only [Act.put, sA, sB, sC]
   refine' tk 3 _ rfl (by kernel_rfl) (by kernel_rfl) (by kernel_rfl) (fun _ _ _ h => h) (yo (by rfl) fun w' _ => ?_) inferInstance ?_
   rotate_left
   · (go_simp; try with_reducible rfl)
   try simp only [Act.put, sA, sB, sC]
   refine' tk 5 _ rfl (by kernel_rfl) (by kernel_rfl) (by kernel_rfl) (fun _ _ _ h => h) (yo (by rfl) fun w' _ => ?_) inferInstance ?_
   rotate_left
   · (go_simp; try with_reducible rfl)
   try simp only [Act.put, sA, sB, sC]
   refine' tk 6 _ rfl (by kernel_rfl) (by kernel_rfl) (by kernel_rfl) (fun _ _ _ h => h) (yo (by rfl) fun w' _ => ?_) inferInstance ?_
   rotate_left
   · (go_simp; try with_reducible rfl)
   try simp only [Act.put, sA, sB, sC]
   refine' tk 7 _ rfl (by kernel_rfl) (by kernel_rfl) (by kernel_rfl) (fun _ _ _ h => h) (yo (by rfl) fun w' _ => ?_) inferInstance ?_
   rotate_left
   · (go_simp; try with_reducible rfl)
   try simp only [Act.put, sA, sB, sC]
   refine wpAnyH_ready (rs := [4, 8]) (by kernel_rfl) (by simp) (AllReadyH.cons rfl (fun K_ hK_ => ?_) (AllReadyH.cons rfl (fun K_ hK_ => ?_) AllReadyH.nil))
   focus
    rw [if_pos (by kernel_rfl)]
    refine wpr_of_list ?_
    ((with_reducible apply (wpl_loadcellN (k := 75))); exact rfl; infer_instance; exact hc75)
    refine wpList_nil ?_
    unfold onlyN
    refine hK_.out _ _ inferInstance (fun _ => ?_)
    clear hK_ K_
    try simp only [Act.put, sA, sB, sC]
    refine goH (i := 8) (by kernel_rfl) rfl (fun K_ hK_ => ?_)
    rw [if_pos (by kernel_rfl)]
    refine wpr_of_list ?_
    ((with_reducible apply (wpl_loadcellN (k := 68))); exact rfl; infer_instance; exact rp_68 _ _ _ _ _ _ _ _)
    refine wpList_nil ?_
    unfold onlyN
    refine hK_.out _ _ inferInstance (fun _ => ?_)
    clear hK_ K_
    try simp only [Act.put, sA, sB, sC]
    refine goH (i := 9) (by kernel_rfl) rfl (fun K_ hK_ => ?_)
    rw [if_pos (by kernel_rfl)]
    refine wpr_of_list ?_
    ((with_reducible apply (wpl_appendR (α := TargetR))); exact rfl; exact rfl; infer_instance; infer_instance; infer_instance; exact rfl; exact rfl; omega; (decide); (decide); intro C2 cc2 wN stN hoN hGN hcapN)
    refine wpList_nil ?_
    unfold onlyN
    refine hK_.out _ _ inferInstance (fun _ => ?_)
    clear hK_ K_
    try simp only [Act.put, sA, sB, sC]
    refine' tk 10 _ rfl (by kernel_rfl) (by kernel_rfl) (by kernel_rfl) (fun _ _ _ h => h) (yo (by rfl) fun w' _ => ?_) inferInstance ?_
    rotate_left
    · (go_simp; try with_reducible rfl)
    try simp only [Act.put, sA, sB, sC]
    refine' tk 11 _ rfl (by kernel_rfl) (by kernel_rfl) (by kernel_rfl) (fun _ _ _ h => h) (yo (by rfl) fun w' _ => ?_) inferInstance ?_
    rotate_left
    · (go_simp; try with_reducible rfl)
    try simp only [Act.put, sA, sB, sC]
    refine goH (i := 12) (by kernel_rfl) rfl (fun K_ hK_ => ?_)
    rw [if_pos (by kernel_rfl)]
    refine wpr_of_list ?_
    ((with_reducible apply (wpl_storecell (k := 75))); exact rfl; exact rfl; infer_instance; exact rfl; exact HZ75.out; intro wE stE hbE5)
    refine wpList_nil ?_
    unfold onlyN
    refine hK_.out _ _ inferInstance (fun _ => ?_)
    clear hK_ K_
    try simp only [Act.put]
    refine wpAnyH_done (by kernel_rfl) ?_ _
   rotate_left 1
   focus
    rw [if_pos (by kernel_rfl)]
    refine wpr_of_list ?_
    ((with_reducible apply (wpl_loadcellN (k := 68))); exact rfl; infer_instance; exact rp_68 _ _ _ _ _ _ _ _)
    refine wpList_nil ?_
    unfold onlyN
    refine hK_.out _ _ inferInstance (fun _ => ?_)
    clear hK_ K_
    try simp only [Act.put, sA, sB, sC]
    refine goH (i := 4) (by kernel_rfl) rfl (fun K_ hK_ => ?_)
    rw [if_pos (by kernel_rfl)]
    refine wpr_of_list ?_
    ((with_reducible apply (wpl_loadcellN (k := 75))); exact rfl; infer_instance; exact hc75)
    refine wpList_nil ?_
    unfold onlyN
    refine hK_.out _ _ inferInstance (fun _ => ?_)
    clear hK_ K_
    try simp only [Act.put, sA, sB, sC]
    refine goH (i := 9) (by kernel_rfl) rfl (fun K_ hK_ => ?_)
    rw [if_pos (by kernel_rfl)]
    refine wpr_of_list ?_
    ((with_reducible apply (wpl_appendR (α := TargetR))); exact rfl; exact rfl; infer_instance; infer_instance; infer_instance; exact rfl; exact rfl; omega; (decide); (decide); intro C2 cc2 wN stN hoN hGN hcapN)
    refine wpList_nil ?_
    unfold onlyN
    refine hK_.out _ _ inferInstance (fun _ => ?_)
    clear hK_ K_
    try simp only [Act.put, sA, sB, sC]
    refine' tk 10 _ rfl (by kernel_rfl) (by kernel_rfl) (by kernel_rfl) (fun _ _ _ h => h) (yo (by rfl) fun w' _ => ?_) inferInstance ?_
    rotate_left
    · (go_simp; try with_reducible rfl)
    try simp only [Act.put, sA, sB, sC]
    refine' tk 11 _ rfl (by kernel_rfl) (by kernel_rfl) (by kernel_rfl) (fun _ _ _ h => h) (yo (by rfl) fun w' _ => ?_) inferInstance ?_
    rotate_left
    · (go_simp; try with_reducible rfl)
    try simp only [Act.put, sA, sB, sC]
    refine goH (i := 12) (by kernel_rfl) rfl (fun K_ hK_ => ?_)
    rw [if_pos (by kernel_rfl)]
    refine wpr_of_list ?_
    ((with_reducible apply (wpl_storecell (k := 75))); exact rfl; exact rfl; infer_instance; exact rfl; exact HZ75.out; intro wE stE hbE5)
    refine wpList_nil ?_
    unfold onlyN
    refine hK_.out _ _ inferInstance (fun _ => ?_)
    clear hK_ K_
    try simp only [Act.put]
    refine wpAnyH_done (by kernel_rfl) ?_ _
   rotate_left 1
   all_goals
    go_wp2_with fail
    go_ret
    have hwdD : wD.heap.size ≤ wd.heap.size := (inferInstance : SzLe wD wd).out
    have hzrD : zr < wD.heap.size := hbDD.out.lt
    have hC2n : ∀ ad, C2 = some ad → C2 = C ∨ wD.heap.size ≤ ad.block := fun ad e => by
     rcases hGN.out with h9 | h9
     · exact .inl h9
     · rw [h9] at e
       injection e with e
       subst e
       exact .inr hwdD
    have oC2 : OffA (only zr) C2 := ⟨fun ad e h => by
     have h' : ad.block = zr := h
     rcases hC2n ad e with h9 | h9
     · rw [h9] at e
       exact (hCk ad e).2 h'
     · omega⟩
    have hbF : HB wE zr 73 (rpL sd p0 (.pointer (some ⟨zk, 0, none⟩)) f g (v + 1) [.slice B T.length d, xr, .slice A5 n5 c5, v5, .slice A4 n4 c4, v4, .slice (some ⟨ze, 0, none⟩) 1 1, .slice C2 (cn + T.length) cc2]).toArray := HB.row_eqS hbE5 (rp_setn sd p0 _ f g (v + 1) _ 7 _)
    have hbG : HB wE ze 32 (cellsOf [(⟨.slice A3 n3 c3, v3, rfl, o31⟩ : EvC)]).toArray := inferInstance
    have hkF0 : KeyAt wE zk seed (used + 1 + 1 + 1) := inferInstance
    have hkF : KeyAt wE zk seed (used + 3) := by rwa [show used + 1 + 1 + 1 = used + 3 by omega] at hkF0
    have hoBE : HO wE 42 37 B T.length d (cellsOf T) := inferInstance
    have hoCE : HO wE 42 37 C2 (cn + T.length) cc2 (cellsOf (D ++ T)) := inferInstance
    have hcE : Chg (gzr zr C) wD wE := (inferInstance : Ch (gzr zr C) wD wE).out
    have hCF : Chg (tri zk zr C) w wE := (hcw9.out.mono (T := tri zk zr C) (fun _ _ h => by rcases h with h | h; exact .inl h; exact .inr (.inl h))).trans hcE (fun _ _ h => by rcases h with h | h; exact .inr (.inl h); exact .inr (.inr h))
    have hfar : ∀ y, LO ≤ y → ∀ hi : Nat, y < hi → ¬ gzr zr C y := fun y h1 _ _ h => by
     rcases h with h | ⟨ad, e, h⟩
     · omega
     · have := hCl ad e
       omega
    have hszE := hcE.size
    have hG3 := (hW3.out.chg hcE (fun y h1 h2 => hfar y h1 _ h2)).wide (hi2 := wD.heap.size) (by have := HZD.out; omega)
    have hG4 := (hW4.out.chg hcE (fun y h1 h2 => hfar y h1 _ h2)).wide (hi2 := wD.heap.size) (by have := HZD.out; omega)
    have hG5 := (hW5.out.chg hcE (fun y h1 h2 => hfar y h1 _ h2)).wide (hi2 := wD.heap.size) (by have := HZD.out; omega)
    have e4 := HM4.out
    subst e4
    exact ⟨rfl, _, _, _, _, ze, ⟨.slice A3 n3 c3, v3, rfl, o31⟩, C2, cc2, LO, wD.heap.size, ⟨hCF⟩, hkF, hbF, hoBE, hoCE, Lib.hid ⟨hC2n, hwLO, hszE, by have := HZD.out; omega, HZD.out.2.1⟩, Lib.hid ⟨hG5, hG4, hG3⟩, HB.cells hbG⟩
end Go.Proofs.YtgjnjhhhbkidbaaGreat
end
section
open Go Go.RowKit
namespace Go.Proofs.YtgjnjhhhbkidbaaGreat
def thr (a b c : Nat) : Nat → Prop := fun x => x = a ∨ x = b ∨ x = c
instance Sub.thrA (w : World) (a b c : Nat) : Sub w (two a b) (thr a b c) := ⟨fun _ _ h => by
 rcases h with h | h
 · exact .inl h
 · exact .inr (.inl h)⟩
instance Sub.thrB (w : World) (a b c : Nat) : Sub w (only c) (thr a b c) := ⟨fun _ _ h => .inr (.inr h)⟩
/-- the root that a rotation signs -/
def rtB (sd : H32) (g : Int) : List UInt8 := rootE g 1073741824 (roK (pubS (kSeed sd 0)) (pubS (kSeed sd g)))
def RtQ (sd f : H32) (g v : Int) (bt : Value) (X : Option Addr) (xn : Nat) (t0 t1 s0 s1 xg lg : Value) (xl : List EvC) (zr z0 : Nat) (used : Int) (w w' : World) : Prop :=
 ∃ (zk : Nat) (X' : Option Addr) (xc' : Nat) (ev : EvC) (lo hi : Nat), Step (tri z0 zr X) w w' ∧ KeyAt w' z0 (kSeed sd 0) (used + 1) ∧ KeyAt w' zk (kSeed sd (g + 1)) 0 ∧
     HB w' zr 73 (rpL sd (.pointer (some ⟨z0, 0, none⟩)) (.pointer (some ⟨zk, 0, none⟩)) f (g + 1) v [bt, .slice X' (xn + 1) xc', t0, t1, s0, s1, xg, lg]).toArray ∧ HO w' 32 2 X' (xn + 1) xc' (cellsOf (xl ++ [ev])) ∧
     Hid ((∀ ad, X' = some ad → X' = X ∨ hi ≤ ad.block) ∧ w.heap.size ≤ zk ∧ zk < lo ∧ lo ≤ hi ∧ hi ≤ w'.heap.size) ∧ Hid (EvX w' lo hi (rtB sd (g + 1)) (mkP (pubS (kSeed sd 0)) (kSeed sd 0) used (rtB sd (g + 1))) ev.v0 ev.v1)
end Go.Proofs.YtgjnjhhhbkidbaaGreat
end
