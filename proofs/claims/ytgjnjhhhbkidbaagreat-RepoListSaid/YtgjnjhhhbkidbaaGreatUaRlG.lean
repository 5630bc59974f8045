/- RsH, RlF, RlG -/
import Derived.Test.YtgjnjhhhbkidbaaGreatUaRsG
import Derived.Test.YtgjnjhhhbkidbaaGreatUaRlA
import Derived.Test.YtgjnjhhhbkidbaaGreatUaRlE
section
open Go Go.RowKit
namespace Go.Proofs.YtgjnjhhhbkidbaaGreat
instance zeroTSl : ZeroT Tryz.prog 78 (slL zeroH .nilFunc 0).toArray := ⟨.agg (slL zeroH .nilFunc 0).toArray, fun _ => by kernel_rfl, rfl⟩
theorem EvX.body {w : World} {lo hi : Nat} {m : List UInt8} {P : List MkV} {A : Option Addr} {n c : Nat} {v1 : Value} (h : EvX w lo hi m P (.slice A n c) v1) : Rd w A (bs m) ∧ m.length = n ∧ n ≤ c ∧ n ≤ 100000 := by
  obtain ⟨M, nb, cb, A, n, c1, l, e0, e1, h1, h2, h3, h3', _⟩ := h
  injection e0 with q1 q2 q3
  subst q1 q2 q3
  exact ⟨h1, h2, h3', h3⟩
theorem two_one (a b : Value) (h1 : a.oneCell' = true) (h2 : b.oneCell' = true) : (#[a, b] : Array Value).all (·.oneCell') = true := by
  rw [List.all_toArray, List.all_eq_true]
  intro u hu
  simp only [List.mem_cons, List.not_mem_nil, or_false] at hu
  rcases hu with rfl | rfl <;> assumption
theorem own_capR {w : World} {e : TypeId} {s n c : Nat} {A : Option Addr} {xs : List Value} (h : Own w e s A n c xs) : n ≤ c := by
  rcases h.form with ⟨_, h1, h2, _⟩ | ⟨_, _, _, _, h1, _⟩ <;> omega
theorem sl_one (pub : H32) (zk : Nat) (er : Int) : (slL pub (.func (.func 26) #[.pointer (some ⟨zk, 0, none⟩)] #[]) er).toArray.all (·.oneCell') = true := by
  rw [List.all_toArray, List.all_eq_true]
  intro u hu
  rcases List.mem_append.1 hu with h | h
  · exact bs_one pub.l u h
  · simp only [List.mem_cons, List.not_mem_nil, or_false] at h
    rcases h with rfl | rfl <;> rfl
def SgPost (sd f seed : H32) (p0 : Value) (g v : Int) (xr : Value) (C : Option Addr) (cn cc : Nat) (B : Option Addr) (d : Nat) (zr zk : Nat) (used : Int) (w w' : World) : Prop :=
  ∃ a b c d2 zE, ∃ (ev : EvC) (m1 m2 m3 : List UInt8) (P1 P2 P3 : List MkV), Step (two zk zr) w w' ∧ KeyAt w' zk seed (used + 3) ∧
      HB w' zr 73 (rpL sd p0 (.pointer (some ⟨zk, 0, none⟩)) f g (v + 1) [.slice B 0 d, xr, a, b, c, d2, .slice (some ⟨zE, 0, none⟩) 1 1, .slice C cn cc]).toArray ∧ Hid (EvV w' m1 P1 a b ∧ EvV w' m2 P2 c d2 ∧ EvV w' m3 P3 ev.v0 ev.v1) ∧ HR w' (some ⟨zE, 0, none⟩) (cellsOf [ev])
set_option maxRecDepth 100000 in
set_option maxHeartbeats 12800000 in
theorem sign0_calls {sd f seed : H32} {p0 : Value} {g v now life : Int} {xr t0 t1 s0 s1 xg : Value} {C : Option Addr} {cn cc : Nat} {B : Option Addr} {d : Nat} {zr zk : Nat} {used : Int} {w : World}
    [hb : HB w zr 73 (rpL sd p0 (.pointer (some ⟨zk, 0, none⟩)) f g v [.slice B 0 d, xr, t0, t1, s0, s1, xg, .slice C cn cc]).toArray] [hk : KeyAt w zk seed used]
    (hne : zk ≠ zr) (h0 : 0 ≤ used) (h13 : used ≤ 13) (hcc : cn ≤ cc) (hv0 : 0 ≤ v) (hv9 : v ≤ 1000000000) (hn0 : 0 ≤ now) (hl0 : 0 ≤ life) (hnl : now + life ≤ 1073741824)
    (hT : tgsOk mayL (v + 1) (now + life) [] [] = true) (hS : snapOk (v + 1) (now + life) [⟨mayL, v + 1⟩] = true) (hM : timB (v + 1) (now + life) (v + 1) = true)
    (hTl : (encAll [4] ++ tgsB mayL (v + 1) (now + life) 0 0 [] []).length ≤ 100000) (hSl : (snapE (v + 1) (now + life) [⟨mayL, v + 1⟩]).length ≤ 100000) (hMl : ∀ h : H32, (encAll [2] ++ (encAll [v + 1, now + life, v + 1] ++ h.l)).length ≤ 100000) :
    Calls Tryz.prog 8 #[.pointer (some ⟨zr, 0, none⟩), .int .i64 now, .int .i64 life] w fun e w' => e = .returned (.int .i64 0) ∧ SgPost sd f seed p0 g v xr C cn cc B d zr zk used w w' := by
  have HT := Lib.hid hT
  have HS := Lib.hid hS
  have HM := Lib.hid hM
  have HTl := Lib.hid hTl
  have HSl := Lib.hid hSl
  have HMl := Lib.hid hMl
  have hI1 : ¬ now < 0 := by omega
  have hI2 : ¬ 1073741824 < now := by omega
  have hI3 : ¬ life < 0 := by omega
  have hI4 : ¬ 1073741824 - now < life := by omega
  have hI5 : ¬ 13 < used := by omega
  clear hT hS hM hTl hSl hMl
  go_enter Tryz.func8, Tryz.ntmps8
  go_wp2_with (first | ((with_reducible apply (wpl_loadcellN (k := 33))); (exact rfl); (exact hb); (exact rp_33' _ _ _ _ _ _ _)))
  refine used_calls.mono ?_
  rintro e w1 ⟨rfl, st1⟩
  have hb1 : HB w1 zr 73 (rpL sd p0 (.pointer (some ⟨zk, 0, none⟩)) f g v [.slice B 0 d, xr, t0, t1, s0, s1, xg, .slice C cn cc]).toArray := inferInstance
  have hk1 : KeyAt w1 zk seed used := inferInstance
  go_wp2_with (first | ((with_reducible apply (wpl_loadcellN (k := 67))); (exact rfl); (exact hb1); (exact rp_67 _ _ _ _ _ _ _)))
  have hzrl := hb.out.lt
  have hzkl := hk.lt
  have orz : OffB (only zk) zr := ⟨fun e => hne (show zr = zk from e).symm⟩
  have hs1 : w.heap.size ≤ w1.heap.size := st1.chg.size
  have hslz := slL_len (pubS seed) (.func (.func 26) #[.pointer (some ⟨zk, 0, none⟩)] #[]) 0
  refine wp_region_N ((only zk)) (by kernel_rfl) (fun wd _ _ => ?_)
  refine' takeH (i := 0) (v := _) rfl (by kernel_rfl) (by kernel_rfl) (by kernel_rfl) (fun _ _ _ h => h) (yields_of (by rfl) (fun w' _ => ?_)) inferInstance ?_
  rotate_left
  · (go_simp; try with_reducible rfl)
  try simp only [Act.put, sA]; try simp only [sB, sC]
  refine' takeH (i := 1) (v := _) rfl (by kernel_rfl) (by kernel_rfl) (by kernel_rfl) (fun _ _ _ h => h) (yields_of (by rfl) (fun w' _ => ?_)) inferInstance ?_
  rotate_left
  · (go_simp; try with_reducible rfl)
  try simp only [Act.put, sA]; try simp only [sB, sC]
  refine' takeH (i := 2) (v := _) rfl (by kernel_rfl) (by kernel_rfl) (by kernel_rfl) (fun _ _ _ h => h) (yields_of (by rfl) (fun w' _ => ?_)) inferInstance ?_
  rotate_left
  · (go_simp; try with_reducible rfl)
  try simp only [Act.put, sA]; try simp only [sB, sC]
  refine' takeH (i := 3) (v := _) rfl (by kernel_rfl) (by kernel_rfl) (by kernel_rfl) (fun _ _ _ h => h) (yields_of (by rfl) (fun w' _ => ?_)) inferInstance ?_
  rotate_left
  · ((with_reducible apply (ev_loadcellN (k := 33))); (exact rfl); infer_instance; infer_instance; (exact rp_33' _ _ _ _ _ _ _))
  try simp only [Act.put, sA]; try simp only [sB, sC]
  refine' takeH (i := 5) (v := _) rfl (by kernel_rfl) (by kernel_rfl) (by kernel_rfl) (fun _ _ _ h => h) (yields_of (by rfl) (fun w' _ => ?_)) inferInstance ?_
  rotate_left
  · (go_simp; try with_reducible rfl)
  try simp only [Act.put, sA]; try simp only [sB, sC]
  refine' takeH (i := 6) (v := _) rfl (by kernel_rfl) (by kernel_rfl) (by kernel_rfl) (fun _ _ _ h => h) (yields_of (by rfl) (fun w' _ => ?_)) inferInstance ?_
  rotate_left
  · (go_simp; try with_reducible rfl)
  try simp only [Act.put, sA]; try simp only [sB, sC]
  refine' takeH (i := 7) (v := _) rfl (by kernel_rfl) (by kernel_rfl) (by kernel_rfl) (fun _ _ _ h => h) (yields_of (by rfl) (fun w' _ => ?_)) inferInstance ?_
  rotate_left
  · (go_simp; try with_reducible rfl)
  try simp only [Act.put, sA]; try simp only [sB, sC]
  refine' takeH (i := 8) (v := _) rfl (by kernel_rfl) (by kernel_rfl) (by kernel_rfl) (fun _ _ _ h => h) (yields_of (by rfl) (fun w' _ => ?_)) inferInstance ?_
  rotate_left
  · ((with_reducible apply (ev_loadcellN (k := 33))); (exact rfl); infer_instance; infer_instance; (exact rp_33' _ _ _ _ _ _ _))
  try simp only [Act.put, sA]; try simp only [sB, sC]
  refine' takeH (i := 9) (v := _) rfl (by kernel_rfl) (by kernel_rfl) (by kernel_rfl) (fun _ _ _ h => h) (yields_of (by rfl) (fun w' _ => ?_)) inferInstance ?_
  rotate_left
  · (go_simp; try with_reducible rfl)
  try simp only [Act.put, sA]; try simp only [sB, sC]
  refine wpAnyH_ready (rs := [4, 11]) (by kernel_rfl) (by simp) (AllReadyH.cons rfl (fun K_ hK_ => ?_) (AllReadyH.cons rfl (fun K_ hK_ => ?_) AllReadyH.nil))
  focus
    go_simp
    refine (kpublic_calls (zk := zk) (seed := seed) (used := used)).mono ?_
    rintro e w2 ⟨rfl, st2, hk2⟩
    refine hK_.out _ _ inferInstance (fun _ => ?_)
    clear hK_ K_
    try simp only [Act.put, sA]; try simp only [sB, sC]
    refine' takeH (i := 10) (v := _) rfl (by kernel_rfl) (by kernel_rfl) (by kernel_rfl) (fun _ _ _ h => h) (yields_of (by rfl) (fun w' _ => ?_)) inferInstance ?_
    rotate_left
    · ((with_reducible apply ev_build); exact run_seal0 _ _ _)
    try simp only [Act.put, sA]; try simp only [sB, sC]
    refine goH (i := 11) (by kernel_rfl) rfl (fun K_ hK_ => ?_)
    rw [if_pos (by kernel_rfl)]
    refine wpr_of_list ?_
    (first | ((with_reducible apply wpl_build); (exact run_seal0 _ _ _)) | ((with_reducible apply wpl_storerow); (exact rfl); (exact rfl); infer_instance; infer_instance; (exact hslz); (exact (slL_len _ _ _)); (exact sl_one _ _ _); intro wx stx hsx) | ((with_reducible apply (wpl_alloc (dst := some 9))); intro z9 wz9 _ _ _) | ((with_reducible apply wpl_alloc); intro z wz _ _ _))
    refine wpList_nil ?_
    unfold onlyN
    refine hK_.out _ _ inferInstance (fun _ => ?_)
    clear hK_ K_
    try simp only [Act.put, sA]; try simp only [sB, sC]
    refine goH (i := 12) (by kernel_rfl) rfl (fun K_ hK_ => ?_)
    rw [if_pos (by kernel_rfl)]
    refine wpr_of_list ?_
    (first | ((with_reducible apply wpl_build); (exact run_seal0 _ _ _)) | ((with_reducible apply wpl_storerow); (exact rfl); (exact rfl); infer_instance; infer_instance; (exact hslz); (exact (slL_len _ _ _)); (exact sl_one _ _ _); intro wx stx hsx) | ((with_reducible apply wpl_storerow); (exact rfl); (exact rfl); infer_instance; infer_instance; (first | (with_reducible assumption) | (with_reducible exact H32.size _) | kernel_rfl); (first | (with_reducible assumption) | (with_reducible exact H32.size _) | kernel_rfl); (first | (with_reducible exact u8s_one _) | (with_reducible assumption) | kernel_rfl); intro ws _ _) | ((with_reducible apply wpl_storecell); (exact rfl); (exact rfl); infer_instance; (exact rfl); (first | (with_reducible assumption) | omega | (focus (simp; done)) | (focus (simp; omega; done)) | decide); intro ws _ _) | ((with_reducible apply (wpl_storehash (t := 23))); (exact rfl); (exact rfl); infer_instance; infer_instance; (first | (with_reducible assumption) | omega | (focus (simp; done)) | (focus (simp; omega; done)) | decide); intro ws _ _) | ((with_reducible apply (wpl_storebyteH (t := 5))); (exact rfl); (exact rfl); infer_instance; (first | (with_reducible assumption) | omega); (first | (with_reducible assumption) | omega); (first | (constructor <;> omega) | exact xor_u8_in _ _); intro ws _ _) | ((with_reducible apply (wpl_storeint (t := 3))); (exact rfl); (exact rfl); infer_instance; (first | (with_reducible assumption) | omega); intro ws _ _) | ((with_reducible apply (wpl_storebyte (t := 5))); (exact rfl); (exact rfl); infer_instance; (first | (with_reducible assumption) | omega | (focus (simp; done)) | (focus (simp; omega; done)) | decide); (constructor <;> omega); intro ws _ _))
    refine wpList_nil ?_
    unfold onlyN
    refine hK_.out _ _ inferInstance (fun _ => ?_)
    clear hK_ K_
    try simp only [Act.put]
    refine wpAnyH_done (by kernel_rfl) ?_ _
  rotate_left 1
  focus
    rw [if_pos (by kernel_rfl)]
    refine wpr_of_list ?_
    (first | ((with_reducible apply wpl_build); (exact run_seal0 _ _ _)) | ((with_reducible apply wpl_storerow); (exact rfl); (exact rfl); infer_instance; infer_instance; (exact hslz); (exact (slL_len _ _ _)); (exact sl_one _ _ _); intro wx stx hsx) | ((with_reducible apply (wpl_alloc (dst := some 9))); intro z9 wz9 _ _ _) | ((with_reducible apply wpl_alloc); intro z wz _ _ _))
    refine wpList_nil ?_
    unfold onlyN
    refine hK_.out _ _ inferInstance (fun _ => ?_)
    clear hK_ K_
    try simp only [Act.put, sA]; try simp only [sB, sC]
    refine goH (i := 4) (by kernel_rfl) rfl (fun K_ hK_ => ?_)
    go_simp
    refine (kpublic_calls (zk := zk) (seed := seed) (used := used)).mono ?_
    rintro e w2 ⟨rfl, st2, hk2⟩
    refine hK_.out _ _ inferInstance (fun _ => ?_)
    clear hK_ K_
    try simp only [Act.put, sA]; try simp only [sB, sC]
    refine' takeH (i := 10) (v := _) rfl (by kernel_rfl) (by kernel_rfl) (by kernel_rfl) (fun _ _ _ h => h) (yields_of (by rfl) (fun w' _ => ?_)) inferInstance ?_
    rotate_left
    · ((with_reducible apply ev_build); exact run_seal0 _ _ _)
    try simp only [Act.put, sA]; try simp only [sB, sC]
    refine goH (i := 12) (by kernel_rfl) rfl (fun K_ hK_ => ?_)
    rw [if_pos (by kernel_rfl)]
    refine wpr_of_list ?_
    (first | ((with_reducible apply wpl_build); (exact run_seal0 _ _ _)) | ((with_reducible apply wpl_storerow); (exact rfl); (exact rfl); infer_instance; infer_instance; (exact hslz); (exact (slL_len _ _ _)); (exact sl_one _ _ _); intro wx stx hsx) | ((with_reducible apply wpl_storerow); (exact rfl); (exact rfl); infer_instance; infer_instance; (first | (with_reducible assumption) | (with_reducible exact H32.size _) | kernel_rfl); (first | (with_reducible assumption) | (with_reducible exact H32.size _) | kernel_rfl); (first | (with_reducible exact u8s_one _) | (with_reducible assumption) | kernel_rfl); intro ws _ _) | ((with_reducible apply wpl_storecell); (exact rfl); (exact rfl); infer_instance; (exact rfl); (first | (with_reducible assumption) | omega | (focus (simp; done)) | (focus (simp; omega; done)) | decide); intro ws _ _) | ((with_reducible apply (wpl_storehash (t := 23))); (exact rfl); (exact rfl); infer_instance; infer_instance; (first | (with_reducible assumption) | omega | (focus (simp; done)) | (focus (simp; omega; done)) | decide); intro ws _ _) | ((with_reducible apply (wpl_storebyteH (t := 5))); (exact rfl); (exact rfl); infer_instance; (first | (with_reducible assumption) | omega); (first | (with_reducible assumption) | omega); (first | (constructor <;> omega) | exact xor_u8_in _ _); intro ws _ _) | ((with_reducible apply (wpl_storeint (t := 3))); (exact rfl); (exact rfl); infer_instance; (first | (with_reducible assumption) | omega); intro ws _ _) | ((with_reducible apply (wpl_storebyte (t := 5))); (exact rfl); (exact rfl); infer_instance; (first | (with_reducible assumption) | omega | (focus (simp; done)) | (focus (simp; omega; done)) | decide); (constructor <;> omega); intro ws _ _))
    refine wpList_nil ?_
    unfold onlyN
    refine hK_.out _ _ inferInstance (fun _ => ?_)
    clear hK_ K_
    try simp only [Act.put]
    refine wpAnyH_done (by kernel_rfl) ?_ _
  rotate_left 1
  all_goals
    have hz9 : w1.heap.size ≤ z9 := by
      first
        | exact Nat.le_trans (inferInstance : SzLe w1 w2).out (Nat.le_of_eq (inferInstance : Born w2 z9).eq.symm)
        | exact Nat.le_trans (inferInstance : SzLe w1 wd).out (Nat.le_of_eq (inferInstance : Born wd z9).eq.symm)
    have hk9 : zk ≠ z9 := by omega
    have hr9 : zr ≠ z9 := by omega
    have o9k : OffB (only z9) zk := ⟨hk9⟩
    have ok9 : OffB (only zk) z9 := ⟨fun e => hk9 (show z9 = zk from e).symm⟩
    have o9r : OffB (only z9) zr := ⟨hr9⟩
    have ot9 : OffB (two zk z9) zr := ⟨fun h => by rcases h with h | h; exact hne h.symm; exact hr9 h⟩
    have hkx : KeyAt wx zk seed used := inferInstance
    have hbx : HB wx zr 73 (rpL sd p0 (.pointer (some ⟨zk, 0, none⟩)) f g v [.slice B 0 d, xr, t0, t1, s0, s1, xg, .slice C cn cc]).toArray := inferInstance
    have hcx1 : Chg (only zk) w1 wx := (inferInstance : Ch (only zk) w1 wx).out
    have hCwx : Hid (Chg (two zk zr) w wx) := Lib.hid ((st1.chg.mono (T := two zk zr) (fun _ _ h => h.elim)).trans hcx1 (fun _ _ h => .inl h))
    obtain ⟨LO, hLO⟩ : ∃ n, n = wx.heap.size := ⟨_, rfl⟩
    have hz9l := hsx.out.lt
    have hkl9 : zk < LO := by have := hkx.lt; omega
    have hrl9 : zr < LO := by have := hbx.out.lt; omega
    have hrB : ∀ w, HR w B (cellsOf ([] : List TargetR)) := fun w => ⟨Rd.nil _ _⟩
    have hrD : ∀ w, HR w none (cellsOf ([] : List DeleR)) := fun w => ⟨Rd.nil _ _⟩
    clear hb1 hk1 hk2 st2 stx hb hk hcx1 st1
    go_wp2_with (first | ((with_reducible apply (wpl_loadcellN (k := 68))); (exact rfl); (exact hbx); (exact rp_68 _ _ _ _ _ _ _ _)))
    refine (EncodeTargets_calls mayL (v + 1) (now + life) (P := []) (D := []) rfl rfl (fun k hk => by cases hk) (by decide) (by decide)).mono ?_
    unfold EncPost
    rw [HT.out]
    rintro e w3a ⟨st3a, A3, n3, c3, rfl, hn3, hO3, hN3⟩
    have HN3 := Lib.hid hn3
    clear hn3
    have hk3a : KeyAt w3a zk seed used := inferInstance
    have hs3a : HB w3a z9 78 (slL (pubS seed) (.func (.func 26) #[.pointer (some ⟨zk, 0, none⟩)] #[]) 0).toArray := inferInstance
    have hb3a : HB w3a zr 73 (rpL sd p0 (.pointer (some ⟨zk, 0, none⟩)) f g v [.slice B 0 d, xr, t0, t1, s0, s1, xg, .slice C cn cc]).toArray := inferInstance
    have hC3a : Hid (Chg (two zk zr) w w3a) := Lib.hid (hCwx.out.trans (stepN (w0 := wx) (w := w3a)).chg (fun _ _ h => h.elim))
    have hA3 : Hid (Chg nowhere wx w3a) := Lib.hid (stepN (w0 := wx) (w := w3a)).chg
    have sz3a : wx.heap.size ≤ w3a.heap.size := (stepN (w0 := wx) (w := w3a)).chg.size
    have hO3r : HR w3a A3 (bs _) := ⟨hO3.out.rd⟩
    go_wp2_with fail
    have qa3 := own_capR hO3.out
    have qb3 : n3 ≤ 100000 := by rw [HN3.out]; exact HTl.out
    have qc3 := seal_calls (zs := z9) (zk := zk) (pub := pubS seed) (seed := seed) (used := used) (w := w3a) HN3.out.symm qa3 qb3 (by omega) (by omega) hk9 (fun ad e => by have := hN3.out ad e; constructor <;> omega) LO (by omega) (fun ad e => ⟨by have := hN3.out ad e; omega, hO3.out.lt e⟩)
    refine qc3.mono ?_
    clear qc3
    rintro e w3b ⟨v3, P3, rfl, st3b, hk3b, hs3b, hE3⟩
    have o31 := hE3.out.v.one.2
    have hone3 : (#[.slice A3 n3 c3, v3] : Array Value).all (·.oneCell') = true := two_one _ _ rfl o31
    have szb3 := st3b.chg.size
    go_wp2_with (first | ((with_reducible apply wpl_build); (exact run_pinV _ _)) | ((with_reducible apply (stop_dst (dst := some 73))); (try simp only [Act.put, sA, sB, sC]); ((with_reducible apply (wpl_bslice (dst := some 73))); (exact run_pinS _ _); intro zp wb _ _ _)) | ((with_reducible apply wpl_build); (exact run_snapV _ _ _ _ _ _)) | ((with_reducible apply (wpl_alloc (dst := some 10))); intro z10 wz10 _ _ _) | ((with_reducible apply wpl_storerow); (exact rfl); (exact rfl); infer_instance; infer_instance; (first | (with_reducible assumption) | (with_reducible exact H32.size _) | kernel_rfl); (first | (with_reducible assumption) | (with_reducible exact H32.size _) | kernel_rfl); (first | (with_reducible exact u8s_one _) | (with_reducible assumption) | kernel_rfl); intro ws _ _))
    have hz10 : w3b.heap.size ≤ z10 := Nat.le_of_eq (inferInstance : Born w3b z10).eq.symm
    have hk3c : KeyAt wb zk seed (used + 1) := inferInstance
    have hs3c : HB wb z9 78 (slL (pubS seed) (.func (.func 26) #[.pointer (some ⟨zk, 0, none⟩)] #[]) 0).toArray := inferInstance
    have hb3c : HB wb zr 73 (rpL sd p0 (.pointer (some ⟨zk, 0, none⟩)) f g v [.slice B 0 d, xr, t0, t1, s0, s1, xg, .slice C cn cc]).toArray := inferInstance
    have he3c : HB wb z10 32 #[.slice A3 n3 c3, v3] := inferInstance
    have hcN3 : Chg nowhere w3b wb := (stepN (w0 := w3b) (w := wb)).chg
    have hCwb : Hid (Chg (two zk zr) w wb) := Lib.hid ((hC3a.out.trans st3b.chg (fun x hx h => by
      rcases h with h | h
      · exact .inl h
      · omega)).trans hcN3 (fun _ _ h => h.elim))
    have hX3 := Lib.hid (hE3.out.chg hcN3 (fun _ _ _ h => h))
    have szc3 := hcN3.size
    have ot3 : OffB (two zk z9) z10 := ⟨fun h => by rcases h with h | h <;> omega⟩
    have hrP : HR wb (some ⟨zp, 0, none⟩) (cellsOf [(⟨mayL, v + 1⟩ : PinR)]) := HB.cells inferInstance
    clear hk3a hs3a hb3a hk3b hs3b hcN3 hO3r hO3 hN3 qa3 qb3 HN3 hE3 st3a st3b
    skip
    refine (EncodeSnap_calls (v + 1) (now + life) (P := [⟨mayL, v + 1⟩]) rfl (show 1 ≤ 9223372036854775807 by decide)).mono ?_
    unfold EncPost
    rw [HS.out]
    rintro e w4a ⟨st4a, A4, n4, c4, rfl, hn4, hO4, hN4⟩
    have HN4 := Lib.hid hn4
    clear hn4
    have hk4a : KeyAt w4a zk seed (used + 1) := inferInstance
    have hs4a : HB w4a z9 78 (slL (pubS seed) (.func (.func 26) #[.pointer (some ⟨zk, 0, none⟩)] #[]) 0).toArray := inferInstance
    have hb4a : HB w4a zr 73 (rpL sd p0 (.pointer (some ⟨zk, 0, none⟩)) f g v [.slice B 0 d, xr, t0, t1, s0, s1, xg, .slice C cn cc]).toArray := inferInstance
    have hC4a : Hid (Chg (two zk zr) w w4a) := Lib.hid (hCwb.out.trans (stepN (w0 := wb) (w := w4a)).chg (fun _ _ h => h.elim))
    have hA4 : Hid (Chg nowhere wb w4a) := Lib.hid (stepN (w0 := wb) (w := w4a)).chg
    have sz4a : wb.heap.size ≤ w4a.heap.size := (stepN (w0 := wb) (w := w4a)).chg.size
    have hO4r : HR w4a A4 (bs _) := ⟨hO4.out.rd⟩
    go_wp2_with fail
    have qa4 := own_capR hO4.out
    have qb4 : n4 ≤ 100000 := by rw [HN4.out]; exact HSl.out
    have qc4 := seal_calls (zs := z9) (zk := zk) (pub := pubS seed) (seed := seed) (used := (used + 1)) (w := w4a) HN4.out.symm qa4 qb4 (by omega) (by omega) hk9 (fun ad e => by have := hN4.out ad e; constructor <;> omega) LO (by omega) (fun ad e => ⟨by have := hN4.out ad e; omega, hO4.out.lt e⟩)
    refine qc4.mono ?_
    clear qc4
    rintro e w4b ⟨v4, P4, rfl, st4b, hk4b, hs4b, hE4⟩
    have o41 := hE4.out.v.one.2
    have hone4 : (#[.slice A4 n4 c4, v4] : Array Value).all (·.oneCell') = true := two_one _ _ rfl o41
    have szb4 := st4b.chg.size
    go_wp2_with (first | ((with_reducible apply (wpl_alloc (dst := some 11))); intro z11 wz11 _ _ _) | ((with_reducible apply wpl_loadcellN); (exact rfl); infer_instance; (exact rfl)) | ((with_reducible apply wpl_storerow); (exact rfl); (exact rfl); infer_instance; infer_instance; (first | (with_reducible assumption) | (with_reducible exact H32.size _) | kernel_rfl); (first | (with_reducible assumption) | (with_reducible exact H32.size _) | kernel_rfl); (first | (with_reducible exact u8s_one _) | (with_reducible assumption) | kernel_rfl); intro ws _ _))
    have hz11 : w4b.heap.size ≤ z11 := Nat.le_of_eq (inferInstance : Born w4b z11).eq.symm
    have hk4c : KeyAt ws zk seed (used + 1 + 1) := inferInstance
    have hs4c : HB ws z9 78 (slL (pubS seed) (.func (.func 26) #[.pointer (some ⟨zk, 0, none⟩)] #[]) 0).toArray := inferInstance
    have hb4c : HB ws zr 73 (rpL sd p0 (.pointer (some ⟨zk, 0, none⟩)) f g v [.slice B 0 d, xr, t0, t1, s0, s1, xg, .slice C cn cc]).toArray := inferInstance
    have he4c : HB ws z11 32 #[.slice A4 n4 c4, v4] := inferInstance
    have hcN4 : Chg nowhere w4b ws := (stepN (w0 := w4b) (w := ws)).chg
    have hCws : Hid (Chg (two zk zr) w ws) := Lib.hid ((hC4a.out.trans st4b.chg (fun x hx h => by
      rcases h with h | h
      · exact .inl h
      · omega)).trans hcN4 (fun _ _ h => h.elim))
    have hX4 := Lib.hid (hE4.out.chg hcN4 (fun _ _ _ h => h))
    have szc4 := hcN4.size
    have ot4 : OffB (two zk z9) z11 := ⟨fun h => by rcases h with h | h <;> omega⟩
    have hX3_ := Lib.hid ((((hX3.out.chg hA4.out (fun _ _ _ h => h)).chg st4b.chg (fun y h1 h2 h => by rcases h with h | h <;> omega)).chg hcN4 (fun _ _ _ h => h)))
    have he3c_ : HB ws z10 32 #[.slice A3 n3 c3, v3] := inferInstance
    clear hX3 he3c
    have hbd4 := hX4.out.body
    clear hk4a hs4a hb4a hk4b hs4b hcN4 hO4r hO4 hN4 qa4 qb4 HN4 hE4 st4a st4b
    obtain ⟨wq, hwq⟩ : ∃ x : World, x = ws := ⟨_, rfl⟩
    subst hwq
    obtain ⟨M4, hM4⟩ : ∃ M, M = snapE (v + 1) (now + life) [(⟨mayL, v + 1⟩ : PinR)] := ⟨_, rfl⟩
    rw [← hM4] at hbd4 hX4
    have hR4 : HR wq A4 (bs M4) := ⟨hbd4.1⟩
    have hl4 := hbd4.2.1
    have hc4 := hbd4.2.2.1
    have hm4 := hbd4.2.2.2
    clear hM4 hbd4
    refine (sum_calls (xs := M4) hl4 hc4 (by omega)).mono ?_
    rintro e w5z ⟨rfl, st5z⟩
    have hCw5z : Hid (Chg (two zk zr) w w5z) := Lib.hid (hCws.out.trans st5z.chg (fun _ _ h => h.elim))
    have hX4z := Lib.hid (hX4.out.chg st5z.chg (fun _ _ _ h => h))
    have hX3z := Lib.hid (hX3_.out.chg st5z.chg (fun _ _ _ h => h))
    have he4z : HB w5z z11 32 #[.slice A4 n4 c4, v4] := inferInstance
    have he3z : HB w5z z10 32 #[.slice A3 n3 c3, v3] := inferInstance
    have sz5z := st5z.chg.size
    clear hX4 hX3_ he4c he3c_
    go_wp2_with (first | ((with_reducible apply wpl_build); (exact run_timV _ _ _ _ _)))
    refine (EncodeTime_calls (v + 1) (now + life) (v + 1) (shaH M4) _).mono ?_
    unfold EncPost
    rw [HM.out]
    rintro e w5a ⟨st5a, A5, n5, c5, rfl, hn5, hO5, hN5⟩
    have HN5 := Lib.hid hn5
    clear hn5
    have hk5a : KeyAt w5a zk seed (used + 1 + 1) := inferInstance
    have hs5a : HB w5a z9 78 (slL (pubS seed) (.func (.func 26) #[.pointer (some ⟨zk, 0, none⟩)] #[]) 0).toArray := inferInstance
    have hb5a : HB w5a zr 73 (rpL sd p0 (.pointer (some ⟨zk, 0, none⟩)) f g v [.slice B 0 d, xr, t0, t1, s0, s1, xg, .slice C cn cc]).toArray := inferInstance
    have hC5a : Hid (Chg (two zk zr) w w5a) := Lib.hid (hCw5z.out.trans (stepN (w0 := w5z) (w := w5a)).chg (fun _ _ h => h.elim))
    have hA5 : Hid (Chg nowhere w5z w5a) := Lib.hid (stepN (w0 := w5z) (w := w5a)).chg
    have sz5a : w5z.heap.size ≤ w5a.heap.size := (stepN (w0 := w5z) (w := w5a)).chg.size
    have hO5r : HR w5a A5 (bs _) := ⟨hO5.out.rd⟩
    go_wp2_with fail
    have qa5 := own_capR hO5.out
    have qb5 : n5 ≤ 100000 := by rw [HN5.out]; exact (HMl.out _)
    have qc5 := seal_calls (zs := z9) (zk := zk) (pub := pubS seed) (seed := seed) (used := (used + 1 + 1)) (w := w5a) HN5.out.symm qa5 qb5 (by omega) (by omega) hk9 (fun ad e => by have := hN5.out ad e; constructor <;> omega) LO (by omega) (fun ad e => ⟨by have := hN5.out ad e; omega, hO5.out.lt e⟩)
    refine qc5.mono ?_
    clear qc5
    rintro e w5b ⟨v5, P5, rfl, st5b, hk5b, hs5b, hE5⟩
    have o51 := hE5.out.v.one.2
    have hone5 : (#[.slice A5 n5 c5, v5] : Array Value).all (·.oneCell') = true := two_one _ _ rfl o51
    have szb5 := st5b.chg.size
    go_wp2_with (first | ((with_reducible apply (wpl_loadcellN (k := 33))); (exact rfl); infer_instance; (exact sl_33 _ _ _)) | ((with_reducible apply (wpl_alloc (dst := some 12))); intro z12 wz12 _ _ _) | ((with_reducible apply wpl_storerow); (exact rfl); (exact rfl); infer_instance; infer_instance; (first | (with_reducible assumption) | (with_reducible exact H32.size _) | kernel_rfl); (first | (with_reducible assumption) | (with_reducible exact H32.size _) | kernel_rfl); (first | (with_reducible exact u8s_one _) | (with_reducible assumption) | kernel_rfl); intro ws _ _))
    have hz12 : w5b.heap.size ≤ z12 := Nat.le_of_eq (inferInstance : Born w5b z12).eq.symm
    have hk5c : KeyAt ws zk seed (used + 1 + 1 + 1) := inferInstance
    have hs5c : HB ws z9 78 (slL (pubS seed) (.func (.func 26) #[.pointer (some ⟨zk, 0, none⟩)] #[]) 0).toArray := inferInstance
    have hb5c : HB ws zr 73 (rpL sd p0 (.pointer (some ⟨zk, 0, none⟩)) f g v [.slice B 0 d, xr, t0, t1, s0, s1, xg, .slice C cn cc]).toArray := inferInstance
    have he5c : HB ws z12 32 #[.slice A5 n5 c5, v5] := inferInstance
    have hcN5 : Chg nowhere w5b ws := (stepN (w0 := w5b) (w := ws)).chg
    have hCws : Hid (Chg (two zk zr) w ws) := Lib.hid ((hC5a.out.trans st5b.chg (fun x hx h => by
      rcases h with h | h
      · exact .inl h
      · omega)).trans hcN5 (fun _ _ h => h.elim))
    have hX5 := Lib.hid (hE5.out.chg hcN5 (fun _ _ _ h => h))
    have szc5 := hcN5.size
    have ot5 : OffB (two zk z9) z12 := ⟨fun h => by rcases h with h | h <;> omega⟩
    have hX3z_ := Lib.hid ((((hX3z.out.chg hA5.out (fun _ _ _ h => h)).chg st5b.chg (fun y h1 h2 h => by rcases h with h | h <;> omega)).chg hcN5 (fun _ _ _ h => h)))
    have he3z_ : HB ws z10 32 #[.slice A3 n3 c3, v3] := inferInstance
    clear hX3z he3z
    have hX4z_ := Lib.hid ((((hX4z.out.chg hA5.out (fun _ _ _ h => h)).chg st5b.chg (fun y h1 h2 h => by rcases h with h | h <;> omega)).chg hcN5 (fun _ _ _ h => h)))
    have he4z_ : HB ws z11 32 #[.slice A4 n4 c4, v4] := inferInstance
    clear hX4z he4z
    clear hk5a hs5a hb5a hk5b hs5b hcN5 hO5r hO5 hN5 qa5 qb5 HN5 hE5 st5a st5b
    obtain ⟨wy, hwy⟩ : ∃ x : World, x = ws := ⟨_, rfl⟩
    subst hwy
    have kbE := run_ev1 ⟨.slice A3 n3 c3, v3, rfl, o31⟩
    have HP1 : Hid ((rpL sd p0 (.pointer (some ⟨zk, 0, none⟩)) f g v [.slice B 0 d, xr, t0, t1, s0, s1, xg, .slice C cn cc]).toArray.toList.take 70 ++ (#[.slice A5 n5 c5, v5] : Array Value).toList ++ (rpL sd p0 (.pointer (some ⟨zk, 0, none⟩)) f g v [.slice B 0 d, xr, t0, t1, s0, s1, xg, .slice C cn cc]).toArray.toList.drop (70 + 2) = (rpL sd p0 (.pointer (some ⟨zk, 0, none⟩)) f g v [.slice B 0 d, xr, .slice A5 n5 c5, v5, s0, s1, xg, .slice C cn cc]).toArray.toList) := Lib.hid (rp_putn sd p0 _ f g v _ 2 2 _)
    have HP2 : Hid ((rpL sd p0 (.pointer (some ⟨zk, 0, none⟩)) f g v [.slice B 0 d, xr, .slice A5 n5 c5, v5, s0, s1, xg, .slice C cn cc]).toArray.toList.take 72 ++ (#[.slice A4 n4 c4, v4] : Array Value).toList ++ (rpL sd p0 (.pointer (some ⟨zk, 0, none⟩)) f g v [.slice B 0 d, xr, .slice A5 n5 c5, v5, s0, s1, xg, .slice C cn cc]).toArray.toList.drop (72 + 2) = (rpL sd p0 (.pointer (some ⟨zk, 0, none⟩)) f g v [.slice B 0 d, xr, .slice A5 n5 c5, v5, .slice A4 n4 c4, v4, xg, .slice C cn cc]).toArray.toList) := Lib.hid (rp_putn sd p0 _ f g v _ 4 2 _)
    have HZ1 : Hid (70 + 2 ≤ (rpL sd p0 (.pointer (some ⟨zk, 0, none⟩)) f g v [.slice B 0 d, xr, t0, t1, s0, s1, xg, .slice C cn cc]).toArray.size) := Lib.hid (by rw [rp_sz _ _ _ _ _ _ _ rfl]; decide)
    have HZ2 : Hid (72 + 2 ≤ (rpL sd p0 (.pointer (some ⟨zk, 0, none⟩)) f g v [.slice B 0 d, xr, .slice A5 n5 c5, v5, s0, s1, xg, .slice C cn cc]).toArray.size) := Lib.hid (by rw [rp_sz _ _ _ _ _ _ _ rfl]; decide)
    have HZ3 : Hid (74 < (rpL sd p0 (.pointer (some ⟨zk, 0, none⟩)) f g v [.slice B 0 d, xr, .slice A5 n5 c5, v5, .slice A4 n4 c4, v4, xg, .slice C cn cc]).toArray.size) := Lib.hid (by rw [rp_sz _ _ _ _ _ _ _ rfl]; decide)
    have or10 : OffB (only zr) z10 := ⟨fun e => by have e' : z10 = zr := e; omega⟩
    have or11 : OffB (only zr) z11 := ⟨fun e => by have e' : z11 = zr := e; omega⟩
    have or12 : OffB (only zr) z12 := ⟨fun e => by have e' : z12 = zr := e; omega⟩
    have ork : OffB (only zr) zk := ⟨hne⟩
    refine wp_region_N ((only zr)) (by kernel_rfl) (fun wd _ _ => ?_)
    refine' takeH (i := 0) (v := _) rfl (by kernel_rfl) (by kernel_rfl) (by kernel_rfl) (fun _ _ _ h => h) (yields_of (by rfl) (fun w' _ => ?_)) inferInstance ?_
    rotate_left
    · (go_simp; try with_reducible rfl)
    try simp only [Act.put, sA]; try simp only [sB, sC]
    refine' takeH (i := 1) (v := _) rfl (by kernel_rfl) (by kernel_rfl) (by kernel_rfl) (fun _ _ _ h => h) (yields_of (by rfl) (fun w' _ => ?_)) inferInstance ?_
    rotate_left
    · (go_simp; try with_reducible rfl)
    try simp only [Act.put, sA]; try simp only [sB, sC]
    refine' takeH (i := 2) (v := _) rfl (by kernel_rfl) (by kernel_rfl) (by kernel_rfl) (fun _ _ _ h => h) (yields_of (by rfl) (fun w' _ => ?_)) inferInstance ?_
    rotate_left
    · (go_simp; try with_reducible rfl)
    try simp only [Act.put, sA]; try simp only [sB, sC]
    refine' takeH (i := 3) (v := _) rfl (by kernel_rfl) (by kernel_rfl) (by kernel_rfl) (fun _ _ _ h => h) (yields_of (by rfl) (fun w' _ => ?_)) inferInstance ?_
    rotate_left
    · ((with_reducible apply ev_loadrow); (exact rfl); infer_instance; infer_instance; (first | (with_reducible assumption) | (with_reducible exact H32.size _) | kernel_rfl))
    try simp only [Act.put, sA]; try simp only [sB, sC]
    refine' takeH (i := 4) (v := _) rfl (by kernel_rfl) (by kernel_rfl) (by kernel_rfl) (fun _ _ _ h => h) (yields_of (by rfl) (fun w' _ => ?_)) inferInstance ?_
    rotate_left
    · ((with_reducible apply ev_loadrow); (exact rfl); infer_instance; infer_instance; (first | (with_reducible assumption) | (with_reducible exact H32.size _) | kernel_rfl))
    try simp only [Act.put, sA]; try simp only [sB, sC]
    refine' takeH (i := 5) (v := _) rfl (by kernel_rfl) (by kernel_rfl) (by kernel_rfl) (fun _ _ _ h => h) (yields_of (by rfl) (fun w' _ => ?_)) inferInstance ?_
    rotate_left
    · ((with_reducible apply ev_loadrow); (exact rfl); infer_instance; infer_instance; (first | (with_reducible assumption) | (with_reducible exact H32.size _) | kernel_rfl))
    try simp only [Act.put, sA]; try simp only [sB, sC]
    refine' takeH (i := 7) (v := _) rfl (by kernel_rfl) (by kernel_rfl) (by kernel_rfl) (fun _ _ _ h => h) (yields_of (by rfl) (fun w' _ => ?_)) inferInstance ?_
    rotate_left
    · (go_simp; try with_reducible rfl)
    try simp only [Act.put, sA]; try simp only [sB, sC]
    refine' takeH (i := 8) (v := _) rfl (by kernel_rfl) (by kernel_rfl) (by kernel_rfl) (fun _ _ _ h => h) (yields_of (by rfl) (fun w' _ => ?_)) inferInstance ?_
    rotate_left
    · (go_simp; try with_reducible rfl)
    try simp only [Act.put, sA]; try simp only [sB, sC]
    refine' takeH (i := 9) (v := _) rfl (by kernel_rfl) (by kernel_rfl) (by kernel_rfl) (fun _ _ _ h => h) (yields_of (by rfl) (fun w' _ => ?_)) inferInstance ?_
    rotate_left
    · (go_simp; try with_reducible rfl)
    try simp only [Act.put, sA]; try simp only [sB, sC]
    refine wpAnyH_ready (rs := [6, 10]) (by kernel_rfl) (by simp) (AllReadyH.cons rfl (fun K_ hK_ => ?_) (AllReadyH.cons rfl (fun K_ hK_ => ?_) AllReadyH.nil))
    focus
      rw [if_pos (by kernel_rfl)]
      refine wpr_of_list ?_
      (first | ((with_reducible apply (stop_dst (dst := some 101))); (try simp only [Act.put, sA, sB, sC]); ((with_reducible apply (wpl_bslice (dst := some 101))); (exact kbE _); intro ze wb _ _ _)) | ((with_reducible apply (wpl_storepart (k := 70) (n := 2))); (exact rfl); (exact rfl); infer_instance; infer_instance; (exact rfl); (decide); (exact HZ1.out); (exact hone5); (exact HP1.out); intro wA stA hbA) | ((with_reducible apply (wpl_storepart (k := 72) (n := 2))); (exact rfl); (exact rfl); infer_instance; infer_instance; (exact rfl); (decide); (exact HZ2.out); (exact hone4); (exact HP2.out); intro wB stB hbB) | ((with_reducible apply (wpl_storecell (k := 74))); (exact rfl); (exact rfl); infer_instance; (exact rfl); (exact HZ3.out); intro wC stC hbC))
      refine wpList_nil ?_
      unfold onlyN
      refine hK_.out _ _ inferInstance (fun _ => ?_)
      clear hK_ K_
      try simp only [Act.put, sA]; try simp only [sB, sC]
      refine goH (i := 10) (by kernel_rfl) rfl (fun K_ hK_ => ?_)
      rw [if_pos (by kernel_rfl)]
      refine wpr_of_list ?_
      (first | ((with_reducible apply (stop_dst (dst := some 101))); (try simp only [Act.put, sA, sB, sC]); ((with_reducible apply (wpl_bslice (dst := some 101))); (exact kbE _); intro ze wb _ _ _)) | ((with_reducible apply (wpl_storepart (k := 70) (n := 2))); (exact rfl); (exact rfl); infer_instance; infer_instance; (exact rfl); (decide); (exact HZ1.out); (exact hone5); (exact HP1.out); intro wA stA hbA) | ((with_reducible apply (wpl_storepart (k := 72) (n := 2))); (exact rfl); (exact rfl); infer_instance; infer_instance; (exact rfl); (decide); (exact HZ2.out); (exact hone4); (exact HP2.out); intro wB stB hbB) | ((with_reducible apply (wpl_storecell (k := 74))); (exact rfl); (exact rfl); infer_instance; (exact rfl); (exact HZ3.out); intro wC stC hbC) | ((with_reducible apply wpl_storerow); (exact rfl); (exact rfl); infer_instance; infer_instance; (first | (with_reducible assumption) | (with_reducible exact H32.size _) | kernel_rfl); (first | (with_reducible assumption) | (with_reducible exact H32.size _) | kernel_rfl); (first | (with_reducible exact u8s_one _) | (with_reducible assumption) | kernel_rfl); intro ws _ _) | ((with_reducible apply wpl_storecell); (exact rfl); (exact rfl); infer_instance; (exact rfl); (first | (with_reducible assumption) | omega | (focus (simp; done)) | (focus (simp; omega; done)) | decide); intro ws _ _) | ((with_reducible apply (wpl_storehash (t := 23))); (exact rfl); (exact rfl); infer_instance; infer_instance; (first | (with_reducible assumption) | omega | (focus (simp; done)) | (focus (simp; omega; done)) | decide); intro ws _ _) | ((with_reducible apply (wpl_storebyteH (t := 5))); (exact rfl); (exact rfl); infer_instance; (first | (with_reducible assumption) | omega); (first | (with_reducible assumption) | omega); (first | (constructor <;> omega) | exact xor_u8_in _ _); intro ws _ _) | ((with_reducible apply (wpl_storeint (t := 3))); (exact rfl); (exact rfl); infer_instance; (first | (with_reducible assumption) | omega); intro ws _ _) | ((with_reducible apply (wpl_storebyte (t := 5))); (exact rfl); (exact rfl); infer_instance; (first | (with_reducible assumption) | omega | (focus (simp; done)) | (focus (simp; omega; done)) | decide); (constructor <;> omega); intro ws _ _))
      refine wpList_nil ?_
      unfold onlyN
      refine hK_.out _ _ inferInstance (fun _ => ?_)
      clear hK_ K_
      try simp only [Act.put]
      refine' takeH (i := 11) (v := _) rfl (by kernel_rfl) (by kernel_rfl) (by kernel_rfl) (fun _ _ _ h => h) (yields_of (by rfl) (fun w' _ => ?_)) inferInstance ?_
      rotate_left
      · (go_simp; try with_reducible rfl)
      try simp only [Act.put, sA]; try simp only [sB, sC]
      refine' takeH (i := 12) (v := _) rfl (by kernel_rfl) (by kernel_rfl) (by kernel_rfl) (fun _ _ _ h => h) (yields_of (by rfl) (fun w' _ => ?_)) inferInstance ?_
      rotate_left
      · (go_simp; try with_reducible rfl)
      try simp only [Act.put, sA]; try simp only [sB, sC]
      refine' takeH (i := 13) (v := _) rfl (by kernel_rfl) (by kernel_rfl) (by kernel_rfl) (fun _ _ _ h => h) (yields_of (by rfl) (fun w' _ => ?_)) inferInstance ?_
      rotate_left
      · (go_simp; try with_reducible rfl)
      try simp only [Act.put, sA]; try simp only [sB, sC]
      refine goH (i := 14) (by kernel_rfl) rfl (fun K_ hK_ => ?_)
      rw [if_pos (by kernel_rfl)]
      refine wpr_of_list ?_
      (first | ((with_reducible apply (stop_dst (dst := some 101))); (try simp only [Act.put, sA, sB, sC]); ((with_reducible apply (wpl_bslice (dst := some 101))); (exact kbE _); intro ze wb _ _ _)) | ((with_reducible apply (wpl_storepart (k := 70) (n := 2))); (exact rfl); (exact rfl); infer_instance; infer_instance; (exact rfl); (decide); (exact HZ1.out); (exact hone5); (exact HP1.out); intro wA stA hbA) | ((with_reducible apply (wpl_storepart (k := 72) (n := 2))); (exact rfl); (exact rfl); infer_instance; infer_instance; (exact rfl); (decide); (exact HZ2.out); (exact hone4); (exact HP2.out); intro wB stB hbB) | ((with_reducible apply (wpl_storecell (k := 74))); (exact rfl); (exact rfl); infer_instance; (exact rfl); (exact HZ3.out); intro wC stC hbC) | ((with_reducible apply wpl_storerow); (exact rfl); (exact rfl); infer_instance; infer_instance; (first | (with_reducible assumption) | (with_reducible exact H32.size _) | kernel_rfl); (first | (with_reducible assumption) | (with_reducible exact H32.size _) | kernel_rfl); (first | (with_reducible exact u8s_one _) | (with_reducible assumption) | kernel_rfl); intro ws _ _) | ((with_reducible apply wpl_storecell); (exact rfl); (exact rfl); infer_instance; (exact rfl); (first | (with_reducible assumption) | omega | (focus (simp; done)) | (focus (simp; omega; done)) | decide); intro ws _ _) | ((with_reducible apply (wpl_storehash (t := 23))); (exact rfl); (exact rfl); infer_instance; infer_instance; (first | (with_reducible assumption) | omega | (focus (simp; done)) | (focus (simp; omega; done)) | decide); intro ws _ _) | ((with_reducible apply (wpl_storebyteH (t := 5))); (exact rfl); (exact rfl); infer_instance; (first | (with_reducible assumption) | omega); (first | (with_reducible assumption) | omega); (first | (constructor <;> omega) | exact xor_u8_in _ _); intro ws _ _) | ((with_reducible apply (wpl_storeint (t := 3))); (exact rfl); (exact rfl); infer_instance; (first | (with_reducible assumption) | omega); intro ws _ _) | ((with_reducible apply (wpl_storebyte (t := 5))); (exact rfl); (exact rfl); infer_instance; (first | (with_reducible assumption) | omega | (focus (simp; done)) | (focus (simp; omega; done)) | decide); (constructor <;> omega); intro ws _ _))
      refine wpList_nil ?_
      unfold onlyN
      refine hK_.out _ _ inferInstance (fun _ => ?_)
      clear hK_ K_
      try simp only [Act.put]
      refine' takeH (i := 15) (v := _) rfl (by kernel_rfl) (by kernel_rfl) (by kernel_rfl) (fun _ _ _ h => h) (yields_of (by rfl) (fun w' _ => ?_)) inferInstance ?_
      rotate_left
      · (go_simp; try with_reducible rfl)
      try simp only [Act.put, sA]; try simp only [sB, sC]
      refine' takeH (i := 16) (v := _) rfl (by kernel_rfl) (by kernel_rfl) (by kernel_rfl) (fun _ _ _ h => h) (yields_of (by rfl) (fun w' _ => ?_)) inferInstance ?_
      rotate_left
      · (go_simp; try with_reducible rfl)
      try simp only [Act.put, sA]; try simp only [sB, sC]
      refine' takeH (i := 17) (v := _) rfl (by kernel_rfl) (by kernel_rfl) (by kernel_rfl) (fun _ _ _ h => h) (yields_of (by rfl) (fun w' _ => ?_)) inferInstance ?_
      rotate_left
      · (go_simp; try with_reducible rfl)
      try simp only [Act.put, sA]; try simp only [sB, sC]
      refine goH (i := 18) (by kernel_rfl) rfl (fun K_ hK_ => ?_)
      rw [if_pos (by kernel_rfl)]
      refine wpr_of_list ?_
      (first | ((with_reducible apply (stop_dst (dst := some 101))); (try simp only [Act.put, sA, sB, sC]); ((with_reducible apply (wpl_bslice (dst := some 101))); (exact kbE _); intro ze wb _ _ _)) | ((with_reducible apply (wpl_storepart (k := 70) (n := 2))); (exact rfl); (exact rfl); infer_instance; infer_instance; (exact rfl); (decide); (exact HZ1.out); (exact hone5); (exact HP1.out); intro wA stA hbA) | ((with_reducible apply (wpl_storepart (k := 72) (n := 2))); (exact rfl); (exact rfl); infer_instance; infer_instance; (exact rfl); (decide); (exact HZ2.out); (exact hone4); (exact HP2.out); intro wB stB hbB) | ((with_reducible apply (wpl_storecell (k := 74))); (exact rfl); (exact rfl); infer_instance; (exact rfl); (exact HZ3.out); intro wC stC hbC) | ((with_reducible apply wpl_storerow); (exact rfl); (exact rfl); infer_instance; infer_instance; (first | (with_reducible assumption) | (with_reducible exact H32.size _) | kernel_rfl); (first | (with_reducible assumption) | (with_reducible exact H32.size _) | kernel_rfl); (first | (with_reducible exact u8s_one _) | (with_reducible assumption) | kernel_rfl); intro ws _ _) | ((with_reducible apply wpl_storecell); (exact rfl); (exact rfl); infer_instance; (exact rfl); (first | (with_reducible assumption) | omega | (focus (simp; done)) | (focus (simp; omega; done)) | decide); intro ws _ _) | ((with_reducible apply (wpl_storehash (t := 23))); (exact rfl); (exact rfl); infer_instance; infer_instance; (first | (with_reducible assumption) | omega | (focus (simp; done)) | (focus (simp; omega; done)) | decide); intro ws _ _) | ((with_reducible apply (wpl_storebyteH (t := 5))); (exact rfl); (exact rfl); infer_instance; (first | (with_reducible assumption) | omega); (first | (with_reducible assumption) | omega); (first | (constructor <;> omega) | exact xor_u8_in _ _); intro ws _ _) | ((with_reducible apply (wpl_storeint (t := 3))); (exact rfl); (exact rfl); infer_instance; (first | (with_reducible assumption) | omega); intro ws _ _) | ((with_reducible apply (wpl_storebyte (t := 5))); (exact rfl); (exact rfl); infer_instance; (first | (with_reducible assumption) | omega | (focus (simp; done)) | (focus (simp; omega; done)) | decide); (constructor <;> omega); intro ws _ _))
      refine wpList_nil ?_
      unfold onlyN
      refine hK_.out _ _ inferInstance (fun _ => ?_)
      clear hK_ K_
      try simp only [Act.put]
      refine wpAnyH_done (by kernel_rfl) ?_ _
    rotate_left 1
    focus
      rw [if_pos (by kernel_rfl)]
      refine wpr_of_list ?_
      (first | ((with_reducible apply (stop_dst (dst := some 101))); (try simp only [Act.put, sA, sB, sC]); ((with_reducible apply (wpl_bslice (dst := some 101))); (exact kbE _); intro ze wb _ _ _)) | ((with_reducible apply (wpl_storepart (k := 70) (n := 2))); (exact rfl); (exact rfl); infer_instance; infer_instance; (exact rfl); (decide); (exact HZ1.out); (exact hone5); (exact HP1.out); intro wA stA hbA) | ((with_reducible apply (wpl_storepart (k := 72) (n := 2))); (exact rfl); (exact rfl); infer_instance; infer_instance; (exact rfl); (decide); (exact HZ2.out); (exact hone4); (exact HP2.out); intro wB stB hbB) | ((with_reducible apply (wpl_storecell (k := 74))); (exact rfl); (exact rfl); infer_instance; (exact rfl); (exact HZ3.out); intro wC stC hbC) | ((with_reducible apply wpl_storerow); (exact rfl); (exact rfl); infer_instance; infer_instance; (first | (with_reducible assumption) | (with_reducible exact H32.size _) | kernel_rfl); (first | (with_reducible assumption) | (with_reducible exact H32.size _) | kernel_rfl); (first | (with_reducible exact u8s_one _) | (with_reducible assumption) | kernel_rfl); intro ws _ _) | ((with_reducible apply wpl_storecell); (exact rfl); (exact rfl); infer_instance; (exact rfl); (first | (with_reducible assumption) | omega | (focus (simp; done)) | (focus (simp; omega; done)) | decide); intro ws _ _) | ((with_reducible apply (wpl_storehash (t := 23))); (exact rfl); (exact rfl); infer_instance; infer_instance; (first | (with_reducible assumption) | omega | (focus (simp; done)) | (focus (simp; omega; done)) | decide); intro ws _ _) | ((with_reducible apply (wpl_storebyteH (t := 5))); (exact rfl); (exact rfl); infer_instance; (first | (with_reducible assumption) | omega); (first | (with_reducible assumption) | omega); (first | (constructor <;> omega) | exact xor_u8_in _ _); intro ws _ _) | ((with_reducible apply (wpl_storeint (t := 3))); (exact rfl); (exact rfl); infer_instance; (first | (with_reducible assumption) | omega); intro ws _ _) | ((with_reducible apply (wpl_storebyte (t := 5))); (exact rfl); (exact rfl); infer_instance; (first | (with_reducible assumption) | omega | (focus (simp; done)) | (focus (simp; omega; done)) | decide); (constructor <;> omega); intro ws _ _))
      refine wpList_nil ?_
      unfold onlyN
      refine hK_.out _ _ inferInstance (fun _ => ?_)
      clear hK_ K_
      try simp only [Act.put]
      refine' takeH (i := 11) (v := _) rfl (by kernel_rfl) (by kernel_rfl) (by kernel_rfl) (fun _ _ _ h => h) (yields_of (by rfl) (fun w' _ => ?_)) inferInstance ?_
      rotate_left
      · (go_simp; try with_reducible rfl)
      try simp only [Act.put, sA]; try simp only [sB, sC]
      refine' takeH (i := 12) (v := _) rfl (by kernel_rfl) (by kernel_rfl) (by kernel_rfl) (fun _ _ _ h => h) (yields_of (by rfl) (fun w' _ => ?_)) inferInstance ?_
      rotate_left
      · (go_simp; try with_reducible rfl)
      try simp only [Act.put, sA]; try simp only [sB, sC]
      refine' takeH (i := 13) (v := _) rfl (by kernel_rfl) (by kernel_rfl) (by kernel_rfl) (fun _ _ _ h => h) (yields_of (by rfl) (fun w' _ => ?_)) inferInstance ?_
      rotate_left
      · (go_simp; try with_reducible rfl)
      try simp only [Act.put, sA]; try simp only [sB, sC]
      refine wpAnyH_ready (rs := [6, 14]) (by kernel_rfl) (by simp) (AllReadyH.cons rfl (fun K_ hK_ => ?_) (AllReadyH.cons rfl (fun K_ hK_ => ?_) AllReadyH.nil))
      focus
        rw [if_pos (by kernel_rfl)]
        refine wpr_of_list ?_
        (first | ((with_reducible apply (stop_dst (dst := some 101))); (try simp only [Act.put, sA, sB, sC]); ((with_reducible apply (wpl_bslice (dst := some 101))); (exact kbE _); intro ze wb _ _ _)) | ((with_reducible apply (wpl_storepart (k := 70) (n := 2))); (exact rfl); (exact rfl); infer_instance; infer_instance; (exact rfl); (decide); (exact HZ1.out); (exact hone5); (exact HP1.out); intro wA stA hbA) | ((with_reducible apply (wpl_storepart (k := 72) (n := 2))); (exact rfl); (exact rfl); infer_instance; infer_instance; (exact rfl); (decide); (exact HZ2.out); (exact hone4); (exact HP2.out); intro wB stB hbB) | ((with_reducible apply (wpl_storecell (k := 74))); (exact rfl); (exact rfl); infer_instance; (exact rfl); (exact HZ3.out); intro wC stC hbC))
        refine wpList_nil ?_
        unfold onlyN
        refine hK_.out _ _ inferInstance (fun _ => ?_)
        clear hK_ K_
        try simp only [Act.put, sA]; try simp only [sB, sC]
        refine goH (i := 14) (by kernel_rfl) rfl (fun K_ hK_ => ?_)
        rw [if_pos (by kernel_rfl)]
        refine wpr_of_list ?_
        (first | ((with_reducible apply (stop_dst (dst := some 101))); (try simp only [Act.put, sA, sB, sC]); ((with_reducible apply (wpl_bslice (dst := some 101))); (exact kbE _); intro ze wb _ _ _)) | ((with_reducible apply (wpl_storepart (k := 70) (n := 2))); (exact rfl); (exact rfl); infer_instance; infer_instance; (exact rfl); (decide); (exact HZ1.out); (exact hone5); (exact HP1.out); intro wA stA hbA) | ((with_reducible apply (wpl_storepart (k := 72) (n := 2))); (exact rfl); (exact rfl); infer_instance; infer_instance; (exact rfl); (decide); (exact HZ2.out); (exact hone4); (exact HP2.out); intro wB stB hbB) | ((with_reducible apply (wpl_storecell (k := 74))); (exact rfl); (exact rfl); infer_instance; (exact rfl); (exact HZ3.out); intro wC stC hbC) | ((with_reducible apply wpl_storerow); (exact rfl); (exact rfl); infer_instance; infer_instance; (first | (with_reducible assumption) | (with_reducible exact H32.size _) | kernel_rfl); (first | (with_reducible assumption) | (with_reducible exact H32.size _) | kernel_rfl); (first | (with_reducible exact u8s_one _) | (with_reducible assumption) | kernel_rfl); intro ws _ _) | ((with_reducible apply wpl_storecell); (exact rfl); (exact rfl); infer_instance; (exact rfl); (first | (with_reducible assumption) | omega | (focus (simp; done)) | (focus (simp; omega; done)) | decide); intro ws _ _) | ((with_reducible apply (wpl_storehash (t := 23))); (exact rfl); (exact rfl); infer_instance; infer_instance; (first | (with_reducible assumption) | omega | (focus (simp; done)) | (focus (simp; omega; done)) | decide); intro ws _ _) | ((with_reducible apply (wpl_storebyteH (t := 5))); (exact rfl); (exact rfl); infer_instance; (first | (with_reducible assumption) | omega); (first | (with_reducible assumption) | omega); (first | (constructor <;> omega) | exact xor_u8_in _ _); intro ws _ _) | ((with_reducible apply (wpl_storeint (t := 3))); (exact rfl); (exact rfl); infer_instance; (first | (with_reducible assumption) | omega); intro ws _ _) | ((with_reducible apply (wpl_storebyte (t := 5))); (exact rfl); (exact rfl); infer_instance; (first | (with_reducible assumption) | omega | (focus (simp; done)) | (focus (simp; omega; done)) | decide); (constructor <;> omega); intro ws _ _))
        refine wpList_nil ?_
        unfold onlyN
        refine hK_.out _ _ inferInstance (fun _ => ?_)
        clear hK_ K_
        try simp only [Act.put]
        refine' takeH (i := 15) (v := _) rfl (by kernel_rfl) (by kernel_rfl) (by kernel_rfl) (fun _ _ _ h => h) (yields_of (by rfl) (fun w' _ => ?_)) inferInstance ?_
        rotate_left
        · (go_simp; try with_reducible rfl)
        try simp only [Act.put, sA]; try simp only [sB, sC]
        refine' takeH (i := 16) (v := _) rfl (by kernel_rfl) (by kernel_rfl) (by kernel_rfl) (fun _ _ _ h => h) (yields_of (by rfl) (fun w' _ => ?_)) inferInstance ?_
        rotate_left
        · (go_simp; try with_reducible rfl)
        try simp only [Act.put, sA]; try simp only [sB, sC]
        refine' takeH (i := 17) (v := _) rfl (by kernel_rfl) (by kernel_rfl) (by kernel_rfl) (fun _ _ _ h => h) (yields_of (by rfl) (fun w' _ => ?_)) inferInstance ?_
        rotate_left
        · (go_simp; try with_reducible rfl)
        try simp only [Act.put, sA]; try simp only [sB, sC]
        refine goH (i := 18) (by kernel_rfl) rfl (fun K_ hK_ => ?_)
        rw [if_pos (by kernel_rfl)]
        refine wpr_of_list ?_
        (first | ((with_reducible apply (stop_dst (dst := some 101))); (try simp only [Act.put, sA, sB, sC]); ((with_reducible apply (wpl_bslice (dst := some 101))); (exact kbE _); intro ze wb _ _ _)) | ((with_reducible apply (wpl_storepart (k := 70) (n := 2))); (exact rfl); (exact rfl); infer_instance; infer_instance; (exact rfl); (decide); (exact HZ1.out); (exact hone5); (exact HP1.out); intro wA stA hbA) | ((with_reducible apply (wpl_storepart (k := 72) (n := 2))); (exact rfl); (exact rfl); infer_instance; infer_instance; (exact rfl); (decide); (exact HZ2.out); (exact hone4); (exact HP2.out); intro wB stB hbB) | ((with_reducible apply (wpl_storecell (k := 74))); (exact rfl); (exact rfl); infer_instance; (exact rfl); (exact HZ3.out); intro wC stC hbC) | ((with_reducible apply wpl_storerow); (exact rfl); (exact rfl); infer_instance; infer_instance; (first | (with_reducible assumption) | (with_reducible exact H32.size _) | kernel_rfl); (first | (with_reducible assumption) | (with_reducible exact H32.size _) | kernel_rfl); (first | (with_reducible exact u8s_one _) | (with_reducible assumption) | kernel_rfl); intro ws _ _) | ((with_reducible apply wpl_storecell); (exact rfl); (exact rfl); infer_instance; (exact rfl); (first | (with_reducible assumption) | omega | (focus (simp; done)) | (focus (simp; omega; done)) | decide); intro ws _ _) | ((with_reducible apply (wpl_storehash (t := 23))); (exact rfl); (exact rfl); infer_instance; infer_instance; (first | (with_reducible assumption) | omega | (focus (simp; done)) | (focus (simp; omega; done)) | decide); intro ws _ _) | ((with_reducible apply (wpl_storebyteH (t := 5))); (exact rfl); (exact rfl); infer_instance; (first | (with_reducible assumption) | omega); (first | (with_reducible assumption) | omega); (first | (constructor <;> omega) | exact xor_u8_in _ _); intro ws _ _) | ((with_reducible apply (wpl_storeint (t := 3))); (exact rfl); (exact rfl); infer_instance; (first | (with_reducible assumption) | omega); intro ws _ _) | ((with_reducible apply (wpl_storebyte (t := 5))); (exact rfl); (exact rfl); infer_instance; (first | (with_reducible assumption) | omega | (focus (simp; done)) | (focus (simp; omega; done)) | decide); (constructor <;> omega); intro ws _ _))
        refine wpList_nil ?_
        unfold onlyN
        refine hK_.out _ _ inferInstance (fun _ => ?_)
        clear hK_ K_
        try simp only [Act.put]
        refine wpAnyH_done (by kernel_rfl) ?_ _
      rotate_left 1
      focus
        rw [if_pos (by kernel_rfl)]
        refine wpr_of_list ?_
        (first | ((with_reducible apply (stop_dst (dst := some 101))); (try simp only [Act.put, sA, sB, sC]); ((with_reducible apply (wpl_bslice (dst := some 101))); (exact kbE _); intro ze wb _ _ _)) | ((with_reducible apply (wpl_storepart (k := 70) (n := 2))); (exact rfl); (exact rfl); infer_instance; infer_instance; (exact rfl); (decide); (exact HZ1.out); (exact hone5); (exact HP1.out); intro wA stA hbA) | ((with_reducible apply (wpl_storepart (k := 72) (n := 2))); (exact rfl); (exact rfl); infer_instance; infer_instance; (exact rfl); (decide); (exact HZ2.out); (exact hone4); (exact HP2.out); intro wB stB hbB) | ((with_reducible apply (wpl_storecell (k := 74))); (exact rfl); (exact rfl); infer_instance; (exact rfl); (exact HZ3.out); intro wC stC hbC) | ((with_reducible apply wpl_storerow); (exact rfl); (exact rfl); infer_instance; infer_instance; (first | (with_reducible assumption) | (with_reducible exact H32.size _) | kernel_rfl); (first | (with_reducible assumption) | (with_reducible exact H32.size _) | kernel_rfl); (first | (with_reducible exact u8s_one _) | (with_reducible assumption) | kernel_rfl); intro ws _ _) | ((with_reducible apply wpl_storecell); (exact rfl); (exact rfl); infer_instance; (exact rfl); (first | (with_reducible assumption) | omega | (focus (simp; done)) | (focus (simp; omega; done)) | decide); intro ws _ _) | ((with_reducible apply (wpl_storehash (t := 23))); (exact rfl); (exact rfl); infer_instance; infer_instance; (first | (with_reducible assumption) | omega | (focus (simp; done)) | (focus (simp; omega; done)) | decide); intro ws _ _) | ((with_reducible apply (wpl_storebyteH (t := 5))); (exact rfl); (exact rfl); infer_instance; (first | (with_reducible assumption) | omega); (first | (with_reducible assumption) | omega); (first | (constructor <;> omega) | exact xor_u8_in _ _); intro ws _ _) | ((with_reducible apply (wpl_storeint (t := 3))); (exact rfl); (exact rfl); infer_instance; (first | (with_reducible assumption) | omega); intro ws _ _) | ((with_reducible apply (wpl_storebyte (t := 5))); (exact rfl); (exact rfl); infer_instance; (first | (with_reducible assumption) | omega | (focus (simp; done)) | (focus (simp; omega; done)) | decide); (constructor <;> omega); intro ws _ _))
        refine wpList_nil ?_
        unfold onlyN
        refine hK_.out _ _ inferInstance (fun _ => ?_)
        clear hK_ K_
        try simp only [Act.put]
        refine goH (i := 6) (by kernel_rfl) rfl (fun K_ hK_ => ?_)
        rw [if_pos (by kernel_rfl)]
        refine wpr_of_list ?_
        (first | ((with_reducible apply (stop_dst (dst := some 101))); (try simp only [Act.put, sA, sB, sC]); ((with_reducible apply (wpl_bslice (dst := some 101))); (exact kbE _); intro ze wb _ _ _)) | ((with_reducible apply (wpl_storepart (k := 70) (n := 2))); (exact rfl); (exact rfl); infer_instance; infer_instance; (exact rfl); (decide); (exact HZ1.out); (exact hone5); (exact HP1.out); intro wA stA hbA) | ((with_reducible apply (wpl_storepart (k := 72) (n := 2))); (exact rfl); (exact rfl); infer_instance; infer_instance; (exact rfl); (decide); (exact HZ2.out); (exact hone4); (exact HP2.out); intro wB stB hbB) | ((with_reducible apply (wpl_storecell (k := 74))); (exact rfl); (exact rfl); infer_instance; (exact rfl); (exact HZ3.out); intro wC stC hbC))
        refine wpList_nil ?_
        unfold onlyN
        refine hK_.out _ _ inferInstance (fun _ => ?_)
        clear hK_ K_
        try simp only [Act.put, sA]; try simp only [sB, sC]
        refine' takeH (i := 15) (v := _) rfl (by kernel_rfl) (by kernel_rfl) (by kernel_rfl) (fun _ _ _ h => h) (yields_of (by rfl) (fun w' _ => ?_)) inferInstance ?_
        rotate_left
        · (go_simp; try with_reducible rfl)
        try simp only [Act.put, sA]; try simp only [sB, sC]
        refine' takeH (i := 16) (v := _) rfl (by kernel_rfl) (by kernel_rfl) (by kernel_rfl) (fun _ _ _ h => h) (yields_of (by rfl) (fun w' _ => ?_)) inferInstance ?_
        rotate_left
        · (go_simp; try with_reducible rfl)
        try simp only [Act.put, sA]; try simp only [sB, sC]
        refine' takeH (i := 17) (v := _) rfl (by kernel_rfl) (by kernel_rfl) (by kernel_rfl) (fun _ _ _ h => h) (yields_of (by rfl) (fun w' _ => ?_)) inferInstance ?_
        rotate_left
        · (go_simp; try with_reducible rfl)
        try simp only [Act.put, sA]; try simp only [sB, sC]
        refine goH (i := 18) (by kernel_rfl) rfl (fun K_ hK_ => ?_)
        rw [if_pos (by kernel_rfl)]
        refine wpr_of_list ?_
        (first | ((with_reducible apply (stop_dst (dst := some 101))); (try simp only [Act.put, sA, sB, sC]); ((with_reducible apply (wpl_bslice (dst := some 101))); (exact kbE _); intro ze wb _ _ _)) | ((with_reducible apply (wpl_storepart (k := 70) (n := 2))); (exact rfl); (exact rfl); infer_instance; infer_instance; (exact rfl); (decide); (exact HZ1.out); (exact hone5); (exact HP1.out); intro wA stA hbA) | ((with_reducible apply (wpl_storepart (k := 72) (n := 2))); (exact rfl); (exact rfl); infer_instance; infer_instance; (exact rfl); (decide); (exact HZ2.out); (exact hone4); (exact HP2.out); intro wB stB hbB) | ((with_reducible apply (wpl_storecell (k := 74))); (exact rfl); (exact rfl); infer_instance; (exact rfl); (exact HZ3.out); intro wC stC hbC) | ((with_reducible apply wpl_storerow); (exact rfl); (exact rfl); infer_instance; infer_instance; (first | (with_reducible assumption) | (with_reducible exact H32.size _) | kernel_rfl); (first | (with_reducible assumption) | (with_reducible exact H32.size _) | kernel_rfl); (first | (with_reducible exact u8s_one _) | (with_reducible assumption) | kernel_rfl); intro ws _ _) | ((with_reducible apply wpl_storecell); (exact rfl); (exact rfl); infer_instance; (exact rfl); (first | (with_reducible assumption) | omega | (focus (simp; done)) | (focus (simp; omega; done)) | decide); intro ws _ _) | ((with_reducible apply (wpl_storehash (t := 23))); (exact rfl); (exact rfl); infer_instance; infer_instance; (first | (with_reducible assumption) | omega | (focus (simp; done)) | (focus (simp; omega; done)) | decide); intro ws _ _) | ((with_reducible apply (wpl_storebyteH (t := 5))); (exact rfl); (exact rfl); infer_instance; (first | (with_reducible assumption) | omega); (first | (with_reducible assumption) | omega); (first | (constructor <;> omega) | exact xor_u8_in _ _); intro ws _ _) | ((with_reducible apply (wpl_storeint (t := 3))); (exact rfl); (exact rfl); infer_instance; (first | (with_reducible assumption) | omega); intro ws _ _) | ((with_reducible apply (wpl_storebyte (t := 5))); (exact rfl); (exact rfl); infer_instance; (first | (with_reducible assumption) | omega | (focus (simp; done)) | (focus (simp; omega; done)) | decide); (constructor <;> omega); intro ws _ _))
        refine wpList_nil ?_
        unfold onlyN
        refine hK_.out _ _ inferInstance (fun _ => ?_)
        clear hK_ K_
        try simp only [Act.put]
        refine wpAnyH_done (by kernel_rfl) ?_ _
      rotate_left 1
    rotate_left 2
    all_goals
      have hzeb : wy.heap.size ≤ ze := by
        first
          | exact Nat.le_trans (inferInstance : SzLe wy wd).out (Nat.le_of_eq (inferInstance : Born wd ze).eq.symm)
          | exact Nat.le_trans (inferInstance : SzLe wy wA).out (Nat.le_of_eq (inferInstance : Born wA ze).eq.symm)
          | exact Nat.le_trans (inferInstance : SzLe wy wB).out (Nat.le_of_eq (inferInstance : Born wB ze).eq.symm)
      have oze : OffB (only zr) ze := ⟨fun e => by have e' : ze = zr := e; omega⟩
      have hb1 : HB wC zr 73 (rpL sd p0 (.pointer (some ⟨zk, 0, none⟩)) f g v [.slice B 0 d, xr, .slice A5 n5 c5, v5, .slice A4 n4 c4, v4, .slice (some ⟨ze, 0, none⟩) 1 1, .slice C cn cc]).toArray := HB.row_eqS hbC (rp_setn sd p0 _ f g v _ 6 _)
      have hbE : HB wC ze 32 (cellsOf [(⟨.slice A3 n3 c3, v3, rfl, o31⟩ : EvC)]).toArray := inferInstance
      have hkC : KeyAt wC zk seed (used + 1 + 1 + 1) := inferInstance
      have hcC : Chg (only zr) wy wC := (inferInstance : Ch (only zr) wy wC).out
      have hY3 := Lib.hid (hX3z_.out.chg hcC (fun y h1 h2 h => by have h' : y = zr := h; omega))
      have hY4 := Lib.hid (hX4z_.out.chg hcC (fun y h1 h2 h => by have h' : y = zr := h; omega))
      have hY5 := Lib.hid (hX5.out.chg hcC (fun y h1 h2 h => by have h' : y = zr := h; omega))
      have hCC : Hid (Chg (two zk zr) w wC) := Lib.hid (hCws.out.trans hcC (fun _ _ h => .inr h))
      have HZ67 : Hid (67 < (rpL sd p0 (.pointer (some ⟨zk, 0, none⟩)) f g v [.slice B 0 d, xr, .slice A5 n5 c5, v5, .slice A4 n4 c4, v4, .slice (some ⟨ze, 0, none⟩) 1 1, .slice C cn cc]).toArray.size) := Lib.hid (by rw [rp_sz _ _ _ _ _ _ _ rfl]; decide)
      have HZ75 : Hid (75 < (rpL sd p0 (.pointer (some ⟨zk, 0, none⟩)) f g (v + 1) [.slice B 0 d, xr, .slice A5 n5 c5, v5, .slice A4 n4 c4, v4, .slice (some ⟨ze, 0, none⟩) 1 1, .slice C cn cc]).toArray.size) := Lib.hid (by rw [rp_sz _ _ _ _ _ _ _ rfl]; decide)
      clear hbC hX3z_ hX4z_ hX5 hcC
      go_wp2_with (first | ((with_reducible apply (wpl_storecell (k := 67))); (exact rfl); (exact rfl); (exact hb1); (exact rfl); (exact HZ67.out); intro wD stD hbD0; have hbD : HB wD zr 73 (rpL sd p0 (.pointer (some ⟨zk, 0, none⟩)) f g (v + 1) [.slice B 0 d, xr, .slice A5 n5 c5, v5, .slice A4 n4 c4, v4, .slice (some ⟨ze, 0, none⟩) 1 1, .slice C cn cc]).toArray := HB.row_eqS hbD0 (rp_set67 _ _ _ _ _ _ _ _); clear hbD0))
      have hc75 : nth (rpL sd p0 (.pointer (some ⟨zk, 0, none⟩)) f g (v + 1) [.slice B 0 d, xr, .slice A5 n5 c5, v5, .slice A4 n4 c4, v4, .slice (some ⟨ze, 0, none⟩) 1 1, .slice C cn cc]).toArray.toList 75 = some (.slice C cn cc) := by
        rw [← nth_get]
        exact rp_get68 sd p0 _ f g (v + 1) _ 7
      refine wp_region_N ((only zr)) (by kernel_rfl) (fun wd _ _ => ?_)
      refine' takeH (i := 0) (v := _) rfl (by kernel_rfl) (by kernel_rfl) (by kernel_rfl) (fun _ _ _ h => h) (yields_of (by rfl) (fun w' _ => ?_)) inferInstance ?_
      rotate_left
      · (go_simp; try with_reducible rfl)
      try simp only [Act.put, sA]; try simp only [sB, sC]
      refine' takeH (i := 1) (v := _) rfl (by kernel_rfl) (by kernel_rfl) (by kernel_rfl) (fun _ _ _ h => h) (yields_of (by rfl) (fun w' _ => ?_)) inferInstance ?_
      rotate_left
      · (go_simp; try with_reducible rfl)
      try simp only [Act.put, sA]; try simp only [sB, sC]
      refine' takeH (i := 2) (v := _) rfl (by kernel_rfl) (by kernel_rfl) (by kernel_rfl) (fun _ _ _ h => h) (yields_of (by rfl) (fun w' _ => ?_)) inferInstance ?_
      rotate_left
      · (go_simp; try with_reducible rfl)
      try simp only [Act.put, sA]; try simp only [sB, sC]
      refine' takeH (i := 3) (v := _) rfl (by kernel_rfl) (by kernel_rfl) (by kernel_rfl) (fun _ _ _ h => h) (yields_of (by rfl) (fun w' _ => ?_)) inferInstance ?_
      rotate_left
      · (go_simp; try with_reducible rfl)
      try simp only [Act.put, sA]; try simp only [sB, sC]
      refine' takeH (i := 5) (v := _) rfl (by kernel_rfl) (by kernel_rfl) (by kernel_rfl) (fun _ _ _ h => h) (yields_of (by rfl) (fun w' _ => ?_)) inferInstance ?_
      rotate_left
      · (go_simp; try with_reducible rfl)
      try simp only [Act.put, sA]; try simp only [sB, sC]
      refine' takeH (i := 6) (v := _) rfl (by kernel_rfl) (by kernel_rfl) (by kernel_rfl) (fun _ _ _ h => h) (yields_of (by rfl) (fun w' _ => ?_)) inferInstance ?_
      rotate_left
      · (go_simp; try with_reducible rfl)
      try simp only [Act.put, sA]; try simp only [sB, sC]
      refine' takeH (i := 7) (v := _) rfl (by kernel_rfl) (by kernel_rfl) (by kernel_rfl) (fun _ _ _ h => h) (yields_of (by rfl) (fun w' _ => ?_)) inferInstance ?_
      rotate_left
      · (go_simp; try with_reducible rfl)
      try simp only [Act.put, sA]; try simp only [sB, sC]
      refine wpAnyH_ready (rs := [4, 8]) (by kernel_rfl) (by simp) (AllReadyH.cons rfl (fun K_ hK_ => ?_) (AllReadyH.cons rfl (fun K_ hK_ => ?_) AllReadyH.nil))
      focus
        rw [if_pos (by kernel_rfl)]
        refine wpr_of_list ?_
        (first | ((with_reducible apply (wpl_loadcellN (k := 75))); (exact rfl); infer_instance; (exact hc75)) | ((with_reducible apply (wpl_loadcellN (k := 68))); (exact rfl); infer_instance; (exact rp_68 _ _ _ _ _ _ _ _)) | ((with_reducible apply wpl_appendNil); (exact rfl); (exact rfl); (exact hcc)) | ((with_reducible apply (wpl_storecell (k := 75))); (exact rfl); (exact rfl); infer_instance; (exact rfl); (exact HZ75.out); intro wE stE hbE5) | ((with_reducible apply wpl_loadrow); (exact rfl); infer_instance; infer_instance; (first | (with_reducible assumption) | (with_reducible exact H32.size _) | kernel_rfl)) | ((with_reducible apply wpl_loadcellN); (exact rfl); infer_instance; (exact rfl)) | ((with_reducible apply (wpl_loadhash (t := 23))); (exact rfl); infer_instance; infer_instance; (first | (with_reducible assumption) | omega)) | ((with_reducible apply (wpl_loadbyteH (t := 5))); (exact rfl); infer_instance; (first | (with_reducible assumption) | omega); (first | (with_reducible assumption) | omega)) | ((with_reducible apply (wpl_loadint (t := 3))); (exact rfl); infer_instance; infer_instance; (first | (with_reducible assumption) | omega)) | ((with_reducible apply (wpl_loadbyte (t := 5))); (exact rfl); infer_instance; infer_instance; (first | (with_reducible assumption) | omega)))
        refine wpList_nil ?_
        unfold onlyN
        refine hK_.out _ _ inferInstance (fun _ => ?_)
        clear hK_ K_
        try simp only [Act.put, sA]; try simp only [sB, sC]
        refine goH (i := 8) (by kernel_rfl) rfl (fun K_ hK_ => ?_)
        rw [if_pos (by kernel_rfl)]
        refine wpr_of_list ?_
        (first | ((with_reducible apply (wpl_loadcellN (k := 75))); (exact rfl); infer_instance; (exact hc75)) | ((with_reducible apply (wpl_loadcellN (k := 68))); (exact rfl); infer_instance; (exact rp_68 _ _ _ _ _ _ _ _)) | ((with_reducible apply wpl_appendNil); (exact rfl); (exact rfl); (exact hcc)) | ((with_reducible apply (wpl_storecell (k := 75))); (exact rfl); (exact rfl); infer_instance; (exact rfl); (exact HZ75.out); intro wE stE hbE5) | ((with_reducible apply wpl_loadrow); (exact rfl); infer_instance; infer_instance; (first | (with_reducible assumption) | (with_reducible exact H32.size _) | kernel_rfl)) | ((with_reducible apply wpl_loadcellN); (exact rfl); infer_instance; (exact rfl)) | ((with_reducible apply (wpl_loadhash (t := 23))); (exact rfl); infer_instance; infer_instance; (first | (with_reducible assumption) | omega)) | ((with_reducible apply (wpl_loadbyteH (t := 5))); (exact rfl); infer_instance; (first | (with_reducible assumption) | omega); (first | (with_reducible assumption) | omega)) | ((with_reducible apply (wpl_loadint (t := 3))); (exact rfl); infer_instance; infer_instance; (first | (with_reducible assumption) | omega)) | ((with_reducible apply (wpl_loadbyte (t := 5))); (exact rfl); infer_instance; infer_instance; (first | (with_reducible assumption) | omega)))
        refine wpList_nil ?_
        unfold onlyN
        refine hK_.out _ _ inferInstance (fun _ => ?_)
        clear hK_ K_
        try simp only [Act.put, sA]; try simp only [sB, sC]
        refine goH (i := 9) (by kernel_rfl) rfl (fun K_ hK_ => ?_)
        rw [if_pos (by kernel_rfl)]
        refine wpr_of_list ?_
        (first | ((with_reducible apply (wpl_loadcellN (k := 75))); (exact rfl); infer_instance; (exact hc75)) | ((with_reducible apply (wpl_loadcellN (k := 68))); (exact rfl); infer_instance; (exact rp_68 _ _ _ _ _ _ _ _)) | ((with_reducible apply wpl_appendNil); (exact rfl); (exact rfl); (exact hcc)) | ((with_reducible apply (wpl_storecell (k := 75))); (exact rfl); (exact rfl); infer_instance; (exact rfl); (exact HZ75.out); intro wE stE hbE5) | ((with_reducible apply wpl_appendB); (exact rfl); (exact rfl); infer_instance; (first | exact inferInstance | exact ⟨Own.nil _ _ _⟩); infer_instance; (first | (with_reducible assumption) | (with_reducible exact H32.len _) | (focus (simp; done)) | omega); (first | (with_reducible assumption) | omega); intro A' c' wa _ _ _ hcap) | ((with_reducible apply wpl_appendH); (exact rfl); (exact rfl); infer_instance; (first | exact inferInstance | exact ⟨Own.nil _ _ _⟩); infer_instance; (first | (with_reducible assumption) | omega); intro A' c' wa _ _ _ hcap) | ((with_reducible apply (wpl_appendR (α := H32))); (exact rfl); (exact rfl); infer_instance; (first | exact inferInstance | exact ⟨Own.nil _ _ _⟩); infer_instance; (exact rfl); (first | (with_reducible assumption) | (with_reducible exact H32.len _) | (focus (simp; done)) | omega); (first | (with_reducible assumption) | omega); (decide); (decide); intro A' c' wa _ _ _ hcap))
        refine wpList_nil ?_
        unfold onlyN
        refine hK_.out _ _ inferInstance (fun _ => ?_)
        clear hK_ K_
        try simp only [Act.put, sA]; try simp only [sB, sC]
        refine' takeH (i := 10) (v := _) rfl (by kernel_rfl) (by kernel_rfl) (by kernel_rfl) (fun _ _ _ h => h) (yields_of (by rfl) (fun w' _ => ?_)) inferInstance ?_
        rotate_left
        · (go_simp; try with_reducible rfl)
        try simp only [Act.put, sA]; try simp only [sB, sC]
        refine' takeH (i := 11) (v := _) rfl (by kernel_rfl) (by kernel_rfl) (by kernel_rfl) (fun _ _ _ h => h) (yields_of (by rfl) (fun w' _ => ?_)) inferInstance ?_
        rotate_left
        · (go_simp; try with_reducible rfl)
        try simp only [Act.put, sA]; try simp only [sB, sC]
        refine goH (i := 12) (by kernel_rfl) rfl (fun K_ hK_ => ?_)
        rw [if_pos (by kernel_rfl)]
        refine wpr_of_list ?_
        (first | ((with_reducible apply (wpl_loadcellN (k := 75))); (exact rfl); infer_instance; (exact hc75)) | ((with_reducible apply (wpl_loadcellN (k := 68))); (exact rfl); infer_instance; (exact rp_68 _ _ _ _ _ _ _ _)) | ((with_reducible apply wpl_appendNil); (exact rfl); (exact rfl); (exact hcc)) | ((with_reducible apply (wpl_storecell (k := 75))); (exact rfl); (exact rfl); infer_instance; (exact rfl); (exact HZ75.out); intro wE stE hbE5) | ((with_reducible apply wpl_storerow); (exact rfl); (exact rfl); infer_instance; infer_instance; (first | (with_reducible assumption) | (with_reducible exact H32.size _) | kernel_rfl); (first | (with_reducible assumption) | (with_reducible exact H32.size _) | kernel_rfl); (first | (with_reducible exact u8s_one _) | (with_reducible assumption) | kernel_rfl); intro ws _ _) | ((with_reducible apply wpl_storecell); (exact rfl); (exact rfl); infer_instance; (exact rfl); (first | (with_reducible assumption) | omega | (focus (simp; done)) | (focus (simp; omega; done)) | decide); intro ws _ _) | ((with_reducible apply (wpl_storehash (t := 23))); (exact rfl); (exact rfl); infer_instance; infer_instance; (first | (with_reducible assumption) | omega | (focus (simp; done)) | (focus (simp; omega; done)) | decide); intro ws _ _) | ((with_reducible apply (wpl_storebyteH (t := 5))); (exact rfl); (exact rfl); infer_instance; (first | (with_reducible assumption) | omega); (first | (with_reducible assumption) | omega); (first | (constructor <;> omega) | exact xor_u8_in _ _); intro ws _ _) | ((with_reducible apply (wpl_storeint (t := 3))); (exact rfl); (exact rfl); infer_instance; (first | (with_reducible assumption) | omega); intro ws _ _) | ((with_reducible apply (wpl_storebyte (t := 5))); (exact rfl); (exact rfl); infer_instance; (first | (with_reducible assumption) | omega | (focus (simp; done)) | (focus (simp; omega; done)) | decide); (constructor <;> omega); intro ws _ _))
        refine wpList_nil ?_
        unfold onlyN
        refine hK_.out _ _ inferInstance (fun _ => ?_)
        clear hK_ K_
        try simp only [Act.put]
        refine wpAnyH_done (by kernel_rfl) ?_ _
      rotate_left 1
      focus
        rw [if_pos (by kernel_rfl)]
        refine wpr_of_list ?_
        (first | ((with_reducible apply (wpl_loadcellN (k := 75))); (exact rfl); infer_instance; (exact hc75)) | ((with_reducible apply (wpl_loadcellN (k := 68))); (exact rfl); infer_instance; (exact rp_68 _ _ _ _ _ _ _ _)) | ((with_reducible apply wpl_appendNil); (exact rfl); (exact rfl); (exact hcc)) | ((with_reducible apply (wpl_storecell (k := 75))); (exact rfl); (exact rfl); infer_instance; (exact rfl); (exact HZ75.out); intro wE stE hbE5) | ((with_reducible apply wpl_loadrow); (exact rfl); infer_instance; infer_instance; (first | (with_reducible assumption) | (with_reducible exact H32.size _) | kernel_rfl)) | ((with_reducible apply wpl_loadcellN); (exact rfl); infer_instance; (exact rfl)) | ((with_reducible apply (wpl_loadhash (t := 23))); (exact rfl); infer_instance; infer_instance; (first | (with_reducible assumption) | omega)) | ((with_reducible apply (wpl_loadbyteH (t := 5))); (exact rfl); infer_instance; (first | (with_reducible assumption) | omega); (first | (with_reducible assumption) | omega)) | ((with_reducible apply (wpl_loadint (t := 3))); (exact rfl); infer_instance; infer_instance; (first | (with_reducible assumption) | omega)) | ((with_reducible apply (wpl_loadbyte (t := 5))); (exact rfl); infer_instance; infer_instance; (first | (with_reducible assumption) | omega)))
        refine wpList_nil ?_
        unfold onlyN
        refine hK_.out _ _ inferInstance (fun _ => ?_)
        clear hK_ K_
        try simp only [Act.put, sA]; try simp only [sB, sC]
        refine goH (i := 4) (by kernel_rfl) rfl (fun K_ hK_ => ?_)
        rw [if_pos (by kernel_rfl)]
        refine wpr_of_list ?_
        (first | ((with_reducible apply (wpl_loadcellN (k := 75))); (exact rfl); infer_instance; (exact hc75)) | ((with_reducible apply (wpl_loadcellN (k := 68))); (exact rfl); infer_instance; (exact rp_68 _ _ _ _ _ _ _ _)) | ((with_reducible apply wpl_appendNil); (exact rfl); (exact rfl); (exact hcc)) | ((with_reducible apply (wpl_storecell (k := 75))); (exact rfl); (exact rfl); infer_instance; (exact rfl); (exact HZ75.out); intro wE stE hbE5) | ((with_reducible apply wpl_loadrow); (exact rfl); infer_instance; infer_instance; (first | (with_reducible assumption) | (with_reducible exact H32.size _) | kernel_rfl)) | ((with_reducible apply wpl_loadcellN); (exact rfl); infer_instance; (exact rfl)) | ((with_reducible apply (wpl_loadhash (t := 23))); (exact rfl); infer_instance; infer_instance; (first | (with_reducible assumption) | omega)) | ((with_reducible apply (wpl_loadbyteH (t := 5))); (exact rfl); infer_instance; (first | (with_reducible assumption) | omega); (first | (with_reducible assumption) | omega)) | ((with_reducible apply (wpl_loadint (t := 3))); (exact rfl); infer_instance; infer_instance; (first | (with_reducible assumption) | omega)) | ((with_reducible apply (wpl_loadbyte (t := 5))); (exact rfl); infer_instance; infer_instance; (first | (with_reducible assumption) | omega)))
        refine wpList_nil ?_
        unfold onlyN
        refine hK_.out _ _ inferInstance (fun _ => ?_)
        clear hK_ K_
        try simp only [Act.put, sA]; try simp only [sB, sC]
        refine goH (i := 9) (by kernel_rfl) rfl (fun K_ hK_ => ?_)
        rw [if_pos (by kernel_rfl)]
        refine wpr_of_list ?_
        (first | ((with_reducible apply (wpl_loadcellN (k := 75))); (exact rfl); infer_instance; (exact hc75)) | ((with_reducible apply (wpl_loadcellN (k := 68))); (exact rfl); infer_instance; (exact rp_68 _ _ _ _ _ _ _ _)) | ((with_reducible apply wpl_appendNil); (exact rfl); (exact rfl); (exact hcc)) | ((with_reducible apply (wpl_storecell (k := 75))); (exact rfl); (exact rfl); infer_instance; (exact rfl); (exact HZ75.out); intro wE stE hbE5) | ((with_reducible apply wpl_appendB); (exact rfl); (exact rfl); infer_instance; (first | exact inferInstance | exact ⟨Own.nil _ _ _⟩); infer_instance; (first | (with_reducible assumption) | (with_reducible exact H32.len _) | (focus (simp; done)) | omega); (first | (with_reducible assumption) | omega); intro A' c' wa _ _ _ hcap) | ((with_reducible apply wpl_appendH); (exact rfl); (exact rfl); infer_instance; (first | exact inferInstance | exact ⟨Own.nil _ _ _⟩); infer_instance; (first | (with_reducible assumption) | omega); intro A' c' wa _ _ _ hcap) | ((with_reducible apply (wpl_appendR (α := H32))); (exact rfl); (exact rfl); infer_instance; (first | exact inferInstance | exact ⟨Own.nil _ _ _⟩); infer_instance; (exact rfl); (first | (with_reducible assumption) | (with_reducible exact H32.len _) | (focus (simp; done)) | omega); (first | (with_reducible assumption) | omega); (decide); (decide); intro A' c' wa _ _ _ hcap))
        refine wpList_nil ?_
        unfold onlyN
        refine hK_.out _ _ inferInstance (fun _ => ?_)
        clear hK_ K_
        try simp only [Act.put, sA]; try simp only [sB, sC]
        refine' takeH (i := 10) (v := _) rfl (by kernel_rfl) (by kernel_rfl) (by kernel_rfl) (fun _ _ _ h => h) (yields_of (by rfl) (fun w' _ => ?_)) inferInstance ?_
        rotate_left
        · (go_simp; try with_reducible rfl)
        try simp only [Act.put, sA]; try simp only [sB, sC]
        refine' takeH (i := 11) (v := _) rfl (by kernel_rfl) (by kernel_rfl) (by kernel_rfl) (fun _ _ _ h => h) (yields_of (by rfl) (fun w' _ => ?_)) inferInstance ?_
        rotate_left
        · (go_simp; try with_reducible rfl)
        try simp only [Act.put, sA]; try simp only [sB, sC]
        refine goH (i := 12) (by kernel_rfl) rfl (fun K_ hK_ => ?_)
        rw [if_pos (by kernel_rfl)]
        refine wpr_of_list ?_
        (first | ((with_reducible apply (wpl_loadcellN (k := 75))); (exact rfl); infer_instance; (exact hc75)) | ((with_reducible apply (wpl_loadcellN (k := 68))); (exact rfl); infer_instance; (exact rp_68 _ _ _ _ _ _ _ _)) | ((with_reducible apply wpl_appendNil); (exact rfl); (exact rfl); (exact hcc)) | ((with_reducible apply (wpl_storecell (k := 75))); (exact rfl); (exact rfl); infer_instance; (exact rfl); (exact HZ75.out); intro wE stE hbE5) | ((with_reducible apply wpl_storerow); (exact rfl); (exact rfl); infer_instance; infer_instance; (first | (with_reducible assumption) | (with_reducible exact H32.size _) | kernel_rfl); (first | (with_reducible assumption) | (with_reducible exact H32.size _) | kernel_rfl); (first | (with_reducible exact u8s_one _) | (with_reducible assumption) | kernel_rfl); intro ws _ _) | ((with_reducible apply wpl_storecell); (exact rfl); (exact rfl); infer_instance; (exact rfl); (first | (with_reducible assumption) | omega | (focus (simp; done)) | (focus (simp; omega; done)) | decide); intro ws _ _) | ((with_reducible apply (wpl_storehash (t := 23))); (exact rfl); (exact rfl); infer_instance; infer_instance; (first | (with_reducible assumption) | omega | (focus (simp; done)) | (focus (simp; omega; done)) | decide); intro ws _ _) | ((with_reducible apply (wpl_storebyteH (t := 5))); (exact rfl); (exact rfl); infer_instance; (first | (with_reducible assumption) | omega); (first | (with_reducible assumption) | omega); (first | (constructor <;> omega) | exact xor_u8_in _ _); intro ws _ _) | ((with_reducible apply (wpl_storeint (t := 3))); (exact rfl); (exact rfl); infer_instance; (first | (with_reducible assumption) | omega); intro ws _ _) | ((with_reducible apply (wpl_storebyte (t := 5))); (exact rfl); (exact rfl); infer_instance; (first | (with_reducible assumption) | omega | (focus (simp; done)) | (focus (simp; omega; done)) | decide); (constructor <;> omega); intro ws _ _))
        refine wpList_nil ?_
        unfold onlyN
        refine hK_.out _ _ inferInstance (fun _ => ?_)
        clear hK_ K_
        try simp only [Act.put]
        refine wpAnyH_done (by kernel_rfl) ?_ _
      rotate_left 1
      all_goals
        go_wp2_with fail
        go_ret
        have hbF : HB wE zr 73 (rpL sd p0 (.pointer (some ⟨zk, 0, none⟩)) f g (v + 1) [.slice B 0 d, xr, .slice A5 n5 c5, v5, .slice A4 n4 c4, v4, .slice (some ⟨ze, 0, none⟩) 1 1, .slice C cn cc]).toArray := HB.row_eqS hbE5 (rp_setn sd p0 _ f g (v + 1) _ 7 _)
        have hbG : HB wE ze 32 (cellsOf [(⟨.slice A3 n3 c3, v3, rfl, o31⟩ : EvC)]).toArray := inferInstance
        have hkF0 : KeyAt wE zk seed (used + 1 + 1 + 1) := inferInstance
        have hkF : KeyAt wE zk seed (used + 3) := by rwa [show used + 1 + 1 + 1 = used + 3 by omega] at hkF0
        have hcE : Chg (only zr) wC wE := (inferInstance : Ch (only zr) wC wE).out
        have hCF : Chg (two zk zr) w wE := hCC.out.trans hcE (fun _ _ h => .inr h)
        have hG3 := (hY3.out.chg hcE (fun y h1 h2 h => by have h' : y = zr := h; omega)).v
        have hG4 := (hY4.out.chg hcE (fun y h1 h2 h => by have h' : y = zr := h; omega)).v
        have hG5 := (hY5.out.chg hcE (fun y h1 h2 h => by have h' : y = zr := h; omega)).v
        clear hbE5 hY3 hY4 hY5
        exact ⟨rfl, ⟨_, _, _, _, ze, ⟨.slice A3 n3 c3, v3, rfl, o31⟩, _, _, _, _, _, _, ⟨hCF⟩, hkF, hbF, Lib.hid ⟨hG5, hG4, hG3⟩, HB.cells hbG⟩⟩
end Go.Proofs.YtgjnjhhhbkidbaaGreat
end
section
open Go Go.RowKit
namespace Go.Proofs.YtgjnjhhhbkidbaaGreat
/-- what is signed: targets, snapshot, time -/
def sgT (v x : Int) (T : List TargetR) : List UInt8 := encAll [4] ++ tgsB mayL v x T.length 0 T []
def sgS (v x : Int) : List UInt8 := snapE v x [⟨mayL, v⟩]
def sgM (v x : Int) : List UInt8 := encAll [2] ++ (encAll [v, x, v] ++ (shaH (sgS v x)).l)
def tri (zk zr : Nat) (C : Option Addr) : Nat → Prop := fun x => x = zk ∨ x = zr ∨ rowOf C x
def SgQ (sd f seed : H32) (p0 : Value) (g v x : Int) (xr : Value) (C : Option Addr) (cn : Nat) (B : Option Addr) (m d : Nat) (T D : List TargetR) (zr zk : Nat) (used : Int) (w w' : World) : Prop :=
  ∃ a b c d2 zE, ∃ (ev : EvC) (C' : Option Addr) (cc' lo hi : Nat), Step (tri zk zr C) w w' ∧ KeyAt w' zk seed (used + 3) ∧
      HB w' zr 73 (rpL sd p0 (.pointer (some ⟨zk, 0, none⟩)) f g (v + 1) [.slice B m d, xr, a, b, c, d2, .slice (some ⟨zE, 0, none⟩) 1 1, .slice C' (cn + m) cc']).toArray ∧ HO w' 42 37 B m d (cellsOf T) ∧ HO w' 42 37 C' (cn + m) cc' (cellsOf (D ++ T)) ∧
      Hid ((∀ ad, C' = some ad → C' = C ∨ hi ≤ ad.block) ∧ w.heap.size ≤ lo ∧ hi ≤ w'.heap.size ∧ lo ≤ zE ∧ zE < hi) ∧
      Hid (EvX w' lo hi (sgM (v + 1) x) (mkP (pubS seed) seed (used + 1 + 1) (sgM (v + 1) x)) a b ∧ EvX w' lo hi (sgS (v + 1) x) (mkP (pubS seed) seed (used + 1) (sgS (v + 1) x)) c d2 ∧ EvX w' lo hi (sgT (v + 1) x T) (mkP (pubS seed) seed used (sgT (v + 1) x T)) ev.v0 ev.v1) ∧ HR w' (some ⟨zE, 0, none⟩) (cellsOf [ev])
end Go.Proofs.YtgjnjhhhbkidbaaGreat
end
section
open Go Go.RowKit
namespace Go.Proofs.YtgjnjhhhbkidbaaGreat
def thr (a b c : Nat) : Nat → Prop := fun x => x = a ∨ x = b ∨ x = c
instance Sub.thrA (w : World) (a b c : Nat) : Sub w (two a b) (thr a b c) := ⟨fun _ _ h => by
  rcases h with h | h
  · exact .inl h
  · exact .inr (.inl h)⟩
instance Sub.thrB (w : World) (a b c : Nat) : Sub w (only c) (thr a b c) := ⟨fun _ _ h => .inr (.inr h)⟩
/-- the root that a rotation signs -/
def rtB (sd : H32) (g : Int) : List UInt8 := rootE g 1073741824 (roK (pubS (kSeed sd 0)) (pubS (kSeed sd g)))
def RtQ (sd f : H32) (g v : Int) (bt : Value) (X : Option Addr) (xn : Nat) (t0 t1 s0 s1 xg lg : Value) (xl : List EvC) (zr z0 : Nat) (used : Int) (w w' : World) : Prop :=
  ∃ (zk : Nat) (X' : Option Addr) (xc' : Nat) (ev : EvC) (lo hi : Nat), Step (tri z0 zr X) w w' ∧ KeyAt w' z0 (kSeed sd 0) (used + 1) ∧ KeyAt w' zk (kSeed sd (g + 1)) 0 ∧
      HB w' zr 73 (rpL sd (.pointer (some ⟨z0, 0, none⟩)) (.pointer (some ⟨zk, 0, none⟩)) f (g + 1) v [bt, .slice X' (xn + 1) xc', t0, t1, s0, s1, xg, lg]).toArray ∧ HO w' 32 2 X' (xn + 1) xc' (cellsOf (xl ++ [ev])) ∧
      Hid ((∀ ad, X' = some ad → X' = X ∨ hi ≤ ad.block) ∧ w.heap.size ≤ zk ∧ zk < lo ∧ lo ≤ hi ∧ hi ≤ w'.heap.size) ∧ Hid (EvX w' lo hi (rtB sd (g + 1)) (mkP (pubS (kSeed sd 0)) (kSeed sd 0) used (rtB sd (g + 1))) ev.v0 ev.v1)
end Go.Proofs.YtgjnjhhhbkidbaaGreat
end
