/- CkL -/
import Derived.Test.YtcgbgeheiklhhaaGreatTfCkI
import Derived.Test.YtcgbgeheiklhhaaGreatTfKyJ
import Derived.Test.YtcgbgeheiklhhaaGreatTfOcRfB
open Go Go.RowKit
namespace Go.Proofs.YtcgbgeheiklhhaaGreat
section
variable {P : Program} {a : Act} {w : World} {dst : Option Tmp} {ty : TypeId} {pos : String} {after : Array Edge} {gd : Option (Nat × Bool)}
theorem ev_loadpartH {t : TypeId} {x : Operand} {g k : Nat} (hx : a.eval x = .pointer (some ⟨g, k, none⟩)) {tb : TypeId} {cs : Array Value} (hb : HB w g tb cs) (ht : RowT P t 32) {hh : H32} (hv : (cs.toList.drop k).take 32 = bs hh.l) :
    (execOp a.eval ⟨dst, .load t x, ty, pos, after, gd⟩).run P w = .ok (.value (.agg (u8s hh.l))) w := ev_loadpart hx hb ht (by decide) hv (by rw [bs_length, hh.len])
end
set_option maxRecDepth 100000 in
theorem rsignUsed_calls {zk : Nat} {seed pub : H32} {used : Int} {L : Option Addr} {lc : Nat} (A : Option Addr) (n c : Nat) (w : World) [hk : HB w zk 32 (refL seed L 16 lc pub used).toArray] (hu : 16 ≤ used) :
    Calls Tryz.prog 22 #[.pointer (some ⟨zk, 0, none⟩), .slice A n c] w fun e w' => e = .returned (.tuple #[.agg #[.int .i64 0, .slice none 0 0, .slice none 0 0], .int .i64 3]) ∧ Step nowhere w w' := by
  have kb0 : ∀ w, (Instr.build 63 #[]).run Tryz.prog w = .ok (.agg #[.int .i64 0, .slice none 0 0, .slice none 0 0]) w := fun _ => by kernel_rfl
  go_enter Tryz.func22, Tryz.ntmps22
  go_wp2_with (first | ((with_reducible apply wpl_build); (exact kb0 _)) | ((with_reducible apply (wpl_rN (t := 3))); (exact rfl); infer_instance; infer_instance) | ((with_reducible apply (wpl_alloc (dst := some 4))); intro zo wzo _ _ _) | ((with_reducible apply wpl_storerow); (exact rfl); (exact rfl); infer_instance; infer_instance; (first | (with_reducible assumption) | (with_reducible exact H32.size _) | (with_reducible exact enc_sz _ rfl) | kernel_rfl); (first | (with_reducible assumption) | (with_reducible exact H32.size _) | (with_reducible exact enc_sz _ rfl) | kernel_rfl); (first | (with_reducible exact u8s_one _) | (with_reducible assumption) | (with_reducible exact enc_one _) | kernel_rfl); intro ws _ _))
  exact ret_row_ rfl rfl rfl (n := 3) rfl rfl ⟨rfl, stepN⟩
instance ckCellR : CellT Tryz.prog 33 := ⟨fun _ => by kernel_rfl, fun _ => by kernel_rfl⟩
set_option maxRecDepth 100000 in
theorem rckNew_calls (seed : H32) (w : World) :
    Calls Tryz.prog 5 #[.agg (u8s seed.l)] w fun e w' => ∃ zc zk L lc, e = .returned (.pointer (some ⟨zc, 0, none⟩)) ∧ Step nowhere w w' ∧ NewB w zc ∧ NewB w zk ∧ NewA w L ∧ OffB (rowOf L) zk ∧ 16 ≤ lc ∧ HB w' zc 35 #[.pointer (some ⟨zk, 0, none⟩)] ∧ HB w' zk 32 (refL seed L 16 lc (pubS seed) 0).toArray ∧ HO w' 23 32 L 16 lc (cellsOf (leavesS seed)) ∧ OffB (only zk) zc := by
  have kb : ∀ (g : Nat) w, (Instr.build 35 #[(0, .pointer (some ⟨g, 0, none⟩))]).run Tryz.prog w = .ok (.agg #[.pointer (some ⟨g, 0, none⟩)]) w := fun _ _ => by kernel_rfl
  obtain ⟨N, hN⟩ : ∃ N, N = pubS seed := ⟨_, rfl⟩
  obtain ⟨T, hT⟩ : ∃ T, T = leavesS seed := ⟨_, rfl⟩
  have HN := Lib.hid hN
  have HT := Lib.hid hT
  rw [← hN, ← hT]
  clear hN hT
  go_enter Tryz.func5, Tryz.ntmps5
  go_wp2_with (first | ((with_reducible apply (wpl_box_agg (dst := some 1))); (exact rfl); intro zs wzs _ _ _) | ((with_reducible apply wpl_loadrow); (exact rfl); infer_instance; infer_instance; (first | (with_reducible assumption) | (with_reducible exact H32.size _) | (with_reducible exact enc_sz _ rfl) | kernel_rfl)))
  refine (rnew_calls seed 0 _).mono ?_
  rw [← HN.out, ← HT.out, show min (max (0 : Int) 0) 16 = 0 by decide]
  rintro e w1 ⟨zk, L, lc, rfl, _, hnk, hnL, hLk, hlc, hbk, hoL⟩
  have n1 : Nw w w1 := inferInstance
  have hs : w.heap.size ≤ wzs.heap.size := (stepN (w0 := w) (w := wzs)).chg.size
  have hkz : NewB w zk := ⟨by
    have h1 := hnk.out
    omega⟩
  have hLn : NewA w L := NewA.monoS hnL
  go_wp2_with (first | ((with_reducible apply wpl_build); (exact kb _ _)) | ((with_reducible apply (wpl_box_agg (dst := some 6))); (exact rfl); intro zc wzc _ _ _))
  have hcn : NewB w zc := ⟨by
    have h1 := (inferInstance : Born w1 zc).eq
    have h2 := n1.out.size
    omega⟩
  have ho : OffB (only zk) zc := ⟨fun e => by
    have e' : zc = zk := e
    have h1 := (inferInstance : Born w1 zc).eq
    have h2 := hbk.out.lt
    omega⟩
  go_ret
  exact ⟨zc, zk, L, lc, rfl, stepN, hcn, hkz, hLn, hLk, hlc, inferInstance, inferInstance, inferInstance, ho⟩
set_option maxRecDepth 100000 in
theorem rckBody_calls (nonce now : Int) (w : World) :
    Calls Tryz.prog 21 #[.int .i64 nonce, .int .i64 now] w fun e w' => ∃ M n c, e = .returned (.slice M n c) ∧ (bodyS nonce now).length = n ∧ n ≤ c ∧ HO w' 5 1 M n c (bs (bodyS nonce now)) ∧ NewA w M ∧ Step nowhere w w' := by
  go_enter Tryz.func21, Tryz.ntmps21
  go_wp2_with (first | ((with_reducible apply (stop_dst (dst := some 7))); (try simp only [Act.put, sA, sB, sC]); ((with_reducible apply (wpl_bslice (dst := some 7))); (exact run_int3 _ _ _ _); intro zi wb _ _ _)))
  have hzi : HB wb zi 3 #[.int .i64 7, .int .i64 nonce, .int .i64 now] := inferInstance
  have nb0 : Nw w wb := inferInstance
  refine (refNums_calls (some ⟨zi, 0, none⟩) 3 3 [7, nonce, now] wb hzi.rdL rfl (by decide)).mono ?_
  rintro e w1 ⟨M, n, c, rfl, hf⟩
  have s1 : Step nowhere wb w1 := ⟨hf.out.chg⟩
  go_wp2_with fail
  go_ret
  exact ⟨M, n, c, rfl, hf.out.len.symm, own_cap hf.out.own, ⟨hf.out.own⟩, ⟨fun ad e => Nat.le_trans nb0.out.size (hf.out.new ad e)⟩, stepN⟩
section
variable {zc zk : Nat} {seed : H32} {used : Int} {w : World} {L : Option Addr} {lc : Nat}
set_option maxRecDepth 100000 in
theorem rattest_no (nonce now : Int) (h : (numC nonce && numC now) = false) :
    Calls Tryz.prog 8 #[.pointer (some ⟨zc, 0, none⟩), .int .i64 nonce, .int .i64 now] w fun e w' => e = .returned (.tuple #[.agg #[.slice none 0 0, .slice none 0 0], .int .i64 1]) ∧ Step nowhere w w' := by
  have kb0 : ∀ w, (Instr.build 39 #[]).run Tryz.prog w = .ok (.agg #[.slice none 0 0, .slice none 0 0]) w := fun _ => by kernel_rfl
  obtain ⟨a, ha⟩ : ∃ a, a = numC nonce := ⟨_, rfl⟩
  obtain ⟨b, hb⟩ : ∃ b, b = numC now := ⟨_, rfl⟩
  rw [← ha, ← hb] at h
  have HNA := Lib.hid ha
  have HNB := Lib.hid hb
  clear ha hb
  go_enter Tryz.func8, Tryz.ntmps8
  go_wp2_with (first | ((with_reducible apply (wpl_alloc (dst := some 6))); intro zo wzo _ _ _))
  refine (rckNum_calls nonce _).mono ?_
  rw [← HNA.out]
  rintro e w1 ⟨rfl, _⟩
  cases a with
  | false =>
    go_wp2_with (first | ((with_reducible apply wpl_build); (exact kb0 _)) | ((with_reducible apply wpl_storerow); (exact rfl); (exact rfl); infer_instance; infer_instance; (first | (with_reducible assumption) | (with_reducible exact H32.size _) | (with_reducible exact enc_sz _ rfl) | kernel_rfl); (first | (with_reducible assumption) | (with_reducible exact H32.size _) | (with_reducible exact enc_sz _ rfl) | kernel_rfl); (first | (with_reducible exact u8s_one _) | (with_reducible assumption) | (with_reducible exact enc_one _) | kernel_rfl); intro ws _ _))
    exact ret_row_ rfl rfl rfl (n := 2) rfl rfl ⟨rfl, stepN⟩
  | true =>
    obtain rfl : b = false := by simpa using h
    clear h
    go_wp2_with (first | ((with_reducible apply (wpl_guard (op := .call _))); (exact rfl)))
    refine (rckNum_calls now _).mono ?_
    rw [← HNB.out]
    rintro e w2 ⟨rfl, _⟩
    go_wp2_with (first | ((with_reducible apply wpl_build); (exact kb0 _)) | ((with_reducible apply wpl_storerow); (exact rfl); (exact rfl); infer_instance; infer_instance; (first | (with_reducible assumption) | (with_reducible exact H32.size _) | (with_reducible exact enc_sz _ rfl) | kernel_rfl); (first | (with_reducible assumption) | (with_reducible exact H32.size _) | (with_reducible exact enc_sz _ rfl) | kernel_rfl); (first | (with_reducible exact u8s_one _) | (with_reducible assumption) | (with_reducible exact enc_one _) | kernel_rfl); intro ws _ _))
    exact ret_row_ rfl rfl rfl (n := 2) rfl rfl ⟨rfl, stepN⟩
/-- what the reference's Attest tells -/
def RAttPost (zk : Nat) (seed pub : H32) (L : Option Addr) (lc : Nat) (used nonce now : Int) (w w' : World) (e : Ending) : Prop :=
  ∃ (M : Option Addr) (n c za : Nat) (r : MarkR), e = .returned (.tuple #[.agg #[.slice M n c, .slice (some ⟨za, 0, none⟩) 1 1], .int .i64 0]) ∧ Step (only zk) w w' ∧ HB w' zk 32 (refL seed L 16 lc pub (used + 1)).toArray ∧ (bodyS nonce now).length = n ∧ n ≤ c ∧
    HR w' M (bs (bodyS nonce now)) ∧ HR w' (some ⟨za, 0, none⟩) (cellsOf [r]) ∧ HR w' r.A (cellsOf r.l) ∧ HR w' r.B (cellsOf r.p) ∧ r.key = pub ∧ r.leaf = used ∧ r.l = signS seed used (bodyS nonce now) ∧ r.p = pathA (leavesS seed) used
set_option maxRecDepth 100000 in
set_option maxHeartbeats 1600000 in
theorem rattest_calls (nonce now : Int) {pub : H32} [hz : HB w zc 35 #[.pointer (some ⟨zk, 0, none⟩)]] [hk : HB w zk 32 (refL seed L 16 lc pub used).toArray] [hL : HR w L (cellsOf (leavesS seed))] [ho : OffB (only zk) zc] (hlc : 16 ≤ lc) (hn : numC nonce = true) (hw : numC now = true) (h0 : 0 ≤ used) :
    Calls Tryz.prog 8 #[.pointer (some ⟨zc, 0, none⟩), .int .i64 nonce, .int .i64 now] w fun e w' => (16 ≤ used ∧ e = .returned (.tuple #[.agg #[.slice none 0 0, .slice none 0 0], .int .i64 3]) ∧ Step nowhere w w') ∨ (used < 16 ∧ RAttPost zk seed pub L lc used nonce now w w' e) := by
  have kb0 : ∀ w, (Instr.build 39 #[]).run Tryz.prog w = .ok (.agg #[.slice none 0 0, .slice none 0 0]) w := fun _ => by kernel_rfl
  have kbE : ∀ (M : Option Addr) (n c z : Nat) w, (Instr.build 39 #[(0, .slice M n c), (1, .slice (some ⟨z, 0, none⟩) 1 1)]).run Tryz.prog w = .ok (.agg #[.slice M n c, .slice (some ⟨z, 0, none⟩) 1 1]) w := fun _ _ _ _ _ => by kernel_rfl
  obtain ⟨T, hT⟩ : ∃ T, T = leavesS seed := ⟨_, rfl⟩
  have HTT := Lib.hid hT
  obtain ⟨bd, hbd⟩ : ∃ bd, bd = bodyS nonce now := ⟨_, rfl⟩
  have HBD := Lib.hid hbd
  have HNA := Lib.hid hn
  have HNB := Lib.hid hw
  have hl3 : bd.length ≤ 27 := by rw [hbd]; exact body_len nonce now
  clear hn hw hT hbd
  go_enter Tryz.func8, Tryz.ntmps8
  go_wp2_with (first | ((with_reducible apply (wpl_alloc (dst := some 6))); intro zo wzo _ _ _))
  refine (rckNum_calls nonce _).mono ?_
  rw [HNA.out]
  rintro e w1 ⟨rfl, _⟩
  go_wp2_with (first | ((with_reducible apply (wpl_guard (op := .call _))); (exact rfl)))
  refine (rckNum_calls now _).mono ?_
  rw [HNB.out]
  rintro e w2 ⟨rfl, _⟩
  go_wp2_with fail
  refine (rckBody_calls nonce now _).mono ?_
  rw [← HBD.out]
  rintro e w3 ⟨M, n, c, rfl, hlen, hcap, hoM, hnM, _⟩
  have HLEN := Lib.hid hlen
  clear hlen
  have n3 : Nw w w3 := inferInstance
  by_cases h16 : 16 ≤ used
  · go_wp2_with (first | ((with_reducible apply wpl_loadcellN); (exact rfl); infer_instance; (exact rfl)))
    refine (rsignUsed_calls (zk := zk) M n c w3 h16).mono ?_
    rintro e w5 ⟨rfl, _⟩
    go_wp2_with (first | ((with_reducible apply wpl_build); (exact kb0 _)) | ((with_reducible apply (wpl_alloc (dst := some 9))); intro zs wzs _ _ _) | ((with_reducible apply wpl_storerow); (exact rfl); (exact rfl); infer_instance; infer_instance; (first | (with_reducible assumption) | (with_reducible exact H32.size _) | (with_reducible exact enc_sz _ rfl) | kernel_rfl); (first | (with_reducible assumption) | (with_reducible exact H32.size _) | (with_reducible exact enc_sz _ rfl) | kernel_rfl); (first | (with_reducible exact u8s_one _) | (with_reducible assumption) | (with_reducible exact enc_one _) | kernel_rfl); intro ws _ _))
    exact ret_row_ rfl rfl rfl (n := 2) rfl rfl (.inl ⟨h16, rfl, stepN⟩)
  · have h16' : used < 16 := by omega
    have hp4 : (pathA (leavesS seed) used).length = 4 := path_len4 seed used h0 h16'
    go_wp2_with (first | ((with_reducible apply wpl_loadcellN); (exact rfl); infer_instance; (exact rfl)))
    refine (rksign_calls (zk := zk) (m := bd) HLEN.out (by have := HLEN.out; omega) hlc h0 h16').mono ?_
    rw [hp4]
    rintro e w5 ⟨B5, b5, A5, c5, rfl, _, hk5, hB5, hA5, hS5, hP5⟩
    obtain ⟨S5, hS⟩ : ∃ S, S = signS seed used bd := ⟨_, rfl⟩
    obtain ⟨P5, hP⟩ : ∃ Pa, Pa = pathA (leavesS seed) used := ⟨_, rfl⟩
    rw [← hS] at hS5
    rw [← hP] at hP5
    have HS := Lib.hid hS
    have HP := Lib.hid hP
    have hSL : S5.length = 36 := by rw [hS, signS_len]
    have hPL : P5.length = 4 := by rw [hP]; exact hp4
    have kb7 := run_mark ⟨pub, used, B5, b5, S5, A5, c5, P5⟩
    have kc7 := run_oneM ⟨pub, used, B5, b5, S5, A5, c5, P5⟩
    simp only [hSL, hPL] at kb7
    have okM : OffA (only zk) M := ⟨fun ad e h => by
      have h1 := hnM.out ad e
      have h2 := hk.out.lt
      have h3 : ad.block = zk := h
      have h4 := (inferInstance : Nw w w2).out.size
      omega⟩
    have hoM5 : HO w5 5 1 M n c (bs bd) := inferInstance
    clear hS hP hp4 hSL hPL
    go_wp2_with (first | ((with_reducible apply (wpl_alloc (dst := some 9))); intro zs wzs _ _ _) | ((with_reducible apply wpl_storerow); (exact rfl); (exact rfl); infer_instance; infer_instance; (first | (with_reducible assumption) | (with_reducible exact H32.size _) | (with_reducible exact enc_sz _ rfl) | kernel_rfl); (first | (with_reducible assumption) | (with_reducible exact H32.size _) | (with_reducible exact enc_sz _ rfl) | kernel_rfl); (first | (with_reducible exact u8s_one _) | (with_reducible assumption) | (with_reducible exact enc_one _) | kernel_rfl); intro ws _ _))
    refine wp_region_N ((only zo)) (by kernel_rfl) (fun wd _ _ => ?_)
    refine' takeH (i := 0) (v := _) rfl (by kernel_rfl) (by kernel_rfl) (by kernel_rfl) (fun _ _ _ h => h) (yields_of (by rfl) (fun w' _ => ?_)) inferInstance ?_
    rotate_left
    · (go_simp; try with_reducible rfl)
    try simp only [Act.put, sA]; try simp only [sB, sC]
    refine' takeH (i := 1) (v := _) rfl (by kernel_rfl) (by kernel_rfl) (by kernel_rfl) (fun _ _ _ h => h) (yields_of (by rfl) (fun w' _ => ?_)) inferInstance ?_
    rotate_left
    · (go_simp; try with_reducible rfl)
    try simp only [Act.put, sA]; try simp only [sB, sC]
    refine' takeH (i := 2) (v := _) rfl (by kernel_rfl) (by kernel_rfl) (by kernel_rfl) (fun _ _ _ h => h) (yields_of (by rfl) (fun w' _ => ?_)) inferInstance ?_
    rotate_left
    · (go_simp; try with_reducible rfl)
    try simp only [Act.put, sA]; try simp only [sB, sC]
    refine' takeH (i := 3) (v := _) rfl (by kernel_rfl) (by kernel_rfl) (by kernel_rfl) (fun _ _ _ h => h) (yields_of (by rfl) (fun w' _ => ?_)) inferInstance ?_
    rotate_left
    · (go_simp; try with_reducible rfl)
    try simp only [Act.put, sA]; try simp only [sB, sC]
    refine' takeH (i := 4) (v := _) rfl (by kernel_rfl) (by kernel_rfl) (by kernel_rfl) (fun _ _ _ h => h) (yields_of (by rfl) (fun w' _ => ?_)) inferInstance ?_
    rotate_left
    · ((with_reducible apply ev_loadcellN); (exact rfl); infer_instance; infer_instance; (exact rfl))
    try simp only [Act.put, sA]; try simp only [sB, sC]
    refine' takeH (i := 5) (v := _) rfl (by kernel_rfl) (by kernel_rfl) (by kernel_rfl) (fun _ _ _ h => h) (yields_of (by rfl) (fun w' _ => ?_)) inferInstance ?_
    rotate_left
    · (go_simp; try with_reducible rfl)
    try simp only [Act.put, sA]; try simp only [sB, sC]
    refine' takeH (i := 6) (v := _) rfl (by kernel_rfl) (by kernel_rfl) (by kernel_rfl) (fun _ _ _ h => h) (yields_of (by rfl) (fun w' _ => ?_)) inferInstance ?_
    rotate_left
    · (go_simp; try with_reducible rfl)
    try simp only [Act.put, sA]; try simp only [sB, sC]
    refine' takeH (i := 7) (v := _) rfl (by kernel_rfl) (by kernel_rfl) (by kernel_rfl) (fun _ _ _ h => h) (yields_of (by rfl) (fun w' _ => ?_)) inferInstance ?_
    rotate_left
    · ((with_reducible apply (ev_loadpartH (t := 23) (k := 33))); (exact rfl); infer_instance; infer_instance; (exact ref_pub))
    try simp only [Act.put, sA]; try simp only [sB, sC]
    refine' takeH (i := 8) (v := _) rfl (by kernel_rfl) (by kernel_rfl) (by kernel_rfl) (fun _ _ _ h => h) (yields_of (by rfl) (fun w' _ => ?_)) inferInstance ?_
    rotate_left
    · ((with_reducible apply ev_loadrow); (exact rfl); infer_instance; infer_instance; (first | (with_reducible assumption) | (with_reducible exact H32.size _) | (with_reducible exact enc_sz _ rfl) | kernel_rfl))
    try simp only [Act.put, sA]; try simp only [sB, sC]
    refine' takeH (i := 9) (v := _) rfl (by kernel_rfl) (by kernel_rfl) (by kernel_rfl) (fun _ _ _ h => h) (yields_of (by rfl) (fun w' _ => ?_)) inferInstance ?_
    rotate_left
    · ((with_reducible apply ev_build); exact kb7 _)
    try simp only [Act.put, sA]; try simp only [sB, sC]
    refine goH (i := 10) (by kernel_rfl) rfl (fun K_ hK_ => ?_)
    rw [if_pos (by kernel_rfl)]
    refine wpr_of_list ?_
    (first | ((with_reducible apply (stop_dst (dst := some 45))); (try simp only [Act.put, sA, sB, sC]); ((with_reducible apply (wpl_build (dst := some 45))); (exact kb7 _))) | ((with_reducible apply (stop_dst (dst := some 46))); (try simp only [Act.put, sA, sB, sC]); ((with_reducible apply (wpl_bslice (dst := some 46))); (exact kc7 _); intro zm wb _ _ _)) | ((with_reducible apply (stop_dst (dst := some 47))); (try simp only [Act.put, sA, sB, sC]); ((with_reducible apply (wpl_build (dst := some 47))); (exact kbE _ _ _ _ _))))
    refine wpList_nil ?_
    unfold onlyN
    refine hK_.out _ _ inferInstance (fun _ => ?_)
    clear hK_ K_
    try simp only [Act.put, sA]; try simp only [sB, sC]
    refine' takeH (i := 11) (v := _) rfl (by kernel_rfl) (by kernel_rfl) (by kernel_rfl) (fun _ _ _ h => h) (yields_of (by rfl) (fun w' _ => ?_)) inferInstance ?_
    rotate_left
    · ((with_reducible apply ev_build); exact kbE _ _ _ _ _)
    try simp only [Act.put, sA]; try simp only [sB, sC]
    refine goH (i := 12) (by kernel_rfl) rfl (fun K_ hK_ => ?_)
    rw [if_pos (by kernel_rfl)]
    refine wpr_of_list ?_
    (first | ((with_reducible apply (stop_dst (dst := some 45))); (try simp only [Act.put, sA, sB, sC]); ((with_reducible apply (wpl_build (dst := some 45))); (exact kb7 _))) | ((with_reducible apply (stop_dst (dst := some 46))); (try simp only [Act.put, sA, sB, sC]); ((with_reducible apply (wpl_bslice (dst := some 46))); (exact kc7 _); intro zm wb _ _ _)) | ((with_reducible apply (stop_dst (dst := some 47))); (try simp only [Act.put, sA, sB, sC]); ((with_reducible apply (wpl_build (dst := some 47))); (exact kbE _ _ _ _ _))) | ((with_reducible apply wpl_storerow); (exact rfl); (exact rfl); infer_instance; infer_instance; (first | (with_reducible assumption) | (with_reducible exact H32.size _) | (with_reducible exact enc_sz _ rfl) | kernel_rfl); (first | (with_reducible assumption) | (with_reducible exact H32.size _) | (with_reducible exact enc_sz _ rfl) | kernel_rfl); (first | (with_reducible exact u8s_one _) | (with_reducible assumption) | (with_reducible exact enc_one _) | kernel_rfl); intro ws _ _) | ((with_reducible apply wpl_storecell); (exact rfl); (exact rfl); infer_instance; (exact rfl); (first | (with_reducible assumption) | omega | (focus (simp; done)) | (focus (simp; omega; done)) | decide); intro ws _ _) | ((with_reducible apply (wpl_storehash (t := 23))); (exact rfl); (exact rfl); infer_instance; infer_instance; (first | (with_reducible assumption) | omega | (focus (simp; done)) | (focus (simp; omega; done)) | decide); intro ws _ _) | ((with_reducible apply (wpl_storeint (t := 3))); (exact rfl); (exact rfl); infer_instance; (first | (with_reducible assumption) | omega); intro ws _ _) | ((with_reducible apply (wpl_storebyte (t := 5))); (exact rfl); (exact rfl); infer_instance; (first | (with_reducible assumption) | omega | (focus (simp; done)) | (focus (simp; omega; done)) | decide); (constructor <;> omega); intro ws _ _))
    refine wpList_nil ?_
    unfold onlyN
    refine hK_.out _ _ inferInstance (fun _ => ?_)
    clear hK_ K_
    try simp only [Act.put]
    refine' takeH (i := 13) (v := _) rfl (by kernel_rfl) (by kernel_rfl) (by kernel_rfl) (fun _ _ _ h => h) (yields_of (by rfl) (fun w' _ => ?_)) inferInstance ?_
    rotate_left
    · (go_simp; try with_reducible rfl)
    try simp only [Act.put, sA]; try simp only [sB, sC]
    refine wpAnyH_done (by kernel_rfl) ?_ _
    go_wp2_with fail
    have hbm : HB ws zm 67 (RowC.enc (⟨pub, used, B5, b5, S5, A5, c5, P5⟩ : MarkR)).toArray := inferInstance
    have hoW : HR ws M (bs bd) := inferInstance
    have hlW : HR ws B5 (cellsOf S5) := inferInstance
    have hpW : HR ws A5 (cellsOf P5) := inferInstance
    refine ret_row_ rfl rfl rfl (n := 2) rfl rfl (.inr ⟨h16', M, n, c, _, ⟨pub, used, B5, b5, S5, A5, c5, P5⟩, rfl, stepC, inferInstance, ?_, hcap, ?_, markRow hbm, hlW, hpW, rfl, rfl, ?_, HP.out⟩)
    · rw [← HBD.out]
      exact HLEN.out
    · rw [← HBD.out]
      exact hoW
    · rw [← HBD.out]
      exact HS.out
end
end Go.Proofs.YtcgbgeheiklhhaaGreat
