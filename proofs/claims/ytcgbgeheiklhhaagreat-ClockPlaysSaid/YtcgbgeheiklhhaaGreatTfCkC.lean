/- CkC -/
import Derived.Test.YtcgbgeheiklhhaaGreatTfCkB
open Go Go.RowKit
namespace Go.Proofs.YtcgbgeheiklhhaaGreat
theorem run_int3 (a b c : Int) (w : World) : (Instr.buildSlice 24 3 #[(0, .int .i64 a), (1, .int .i64 b), (2, .int .i64 c)]).run Tryz.prog w = .ok (.slice (some ⟨w.heap.size, 0, none⟩) 3 3) (w.alloc (.cells #[.int .i64 a, .int .i64 b, .int .i64 c] 3)) := by kernel_rfl
theorem wfz {zw x : Nat} (h : Wf zw none x) : x = zw := by
  rcases h with h | ⟨ad, e, _⟩
  · exact h
  · cases e
theorem own_cap {w : World} {e : TypeId} {size : Nat} {A : Option Addr} {n c : Nat} {xs : List Value} (h : Own w e size A n c xs) : n ≤ c := by
  rcases h.form with ⟨_, rfl, rfl, _⟩ | ⟨_, _, _, _, h, _⟩
  · exact Nat.le_refl _
  · exact h
theorem markRow {w : World} {z : Nat} {t : TypeId} {r : MarkR} (h : HB w z t (RowC.enc r).toArray) : HR w (some ⟨z, 0, none⟩) (cellsOf [r]) := by
  have h1 := HR.ofBlkL h
  have e : cellsOf [r] = (RowC.enc r).toArray.toList := by simp [cellsOf]
  rw [e]
  exact h1
instance (w : World) (a b : Nat) : Sub w (only a) (both a b) := ⟨fun _ _ h => .inl h⟩
instance (w : World) (a b : Nat) : Sub w (only b) (both a b) := ⟨fun _ _ h => .inr h⟩
instance OffA.both_ (a b : Nat) (A : Option Addr) [x : OffA (only a) A] [y : OffA (only b) A] : OffA (both a b) A := ⟨fun ad e h => h.elim (x.out ad e) (y.out ad e)⟩
instance (priority := 400) OffR.ofA_ (S : Nat → Prop) (A : Option Addr) (vs : List Value) [o : OffA S A] : OffR S A vs := ⟨fun _ ad e h => o.out ad e h⟩
theorem offKey {w : World} {zk : Nat} {seed : H32} {used : Int} {A : Option Addr} (h : KeyAt w zk seed used) (b : NewA w A) : OffA (only zk) A := ⟨fun ad e hk => by
  have h1 := b.out ad e
  have h2 := h.lt
  have h3 : ad.block = zk := hk
  omega⟩
/-- what a mark and its envelope hold, in rows of their own, off the body's -/
structure Apart1 (w : World) (zk : Nat) (M A : Option Addr) (r : MarkR) : Prop where
  m : NewA w M
  a : NewA w A
  l : NewA w r.A
  p : NewA w r.B
  ma : OffA (rowOf M) A
  ml : OffA (rowOf M) r.A
  mp : OffA (rowOf M) r.B
  km : OffA (only zk) M
  ka : OffA (only zk) A
  kl : OffA (only zk) r.A
  kp : OffA (only zk) r.B
/-- an envelope with a body of this seed's clock and one mark is told -/
def AttPost (zk : Nat) (seed : H32) (used nonce now : Int) (w w' : World) (e : Ending) : Prop :=
  ∃ M n c za r, e = .returned (.tuple #[.agg #[.slice M n c, .slice (some ⟨za, 0, none⟩) 1 1], .int .i64 0]) ∧ Step (only zk) w w' ∧ KeyAt w' zk seed (used + 1) ∧ (bodyS nonce now).length = n ∧ n ≤ c ∧
    HO w' 5 1 M n c (bs (bodyS nonce now)) ∧ HR w' (some ⟨za, 0, none⟩) (cellsOf [r]) ∧ HR w' r.A (cellsOf r.l) ∧ HR w' r.B (cellsOf r.p) ∧ ByKey r seed used (bodyS nonce now) ∧ Apart1 w zk M (some ⟨za, 0, none⟩) r ∧ HB w' za 67 (RowC.enc r).toArray
section
variable {zc zk : Nat} {seed : H32} {used : Int} {w : World}
set_option maxRecDepth 100000 in
set_option maxHeartbeats 1600000 in
theorem attest_calls (nonce now : Int) [hz : HB w zc 55 #[.pointer (some ⟨zk, 0, none⟩)]] [hk : KeyAt w zk seed used] [ho : OffB (only zk) zc] (hn : numC nonce = true) (hw : numC now = true) (h0 : 0 ≤ used) :
    Calls Tryz.prog 7 #[.pointer (some ⟨zc, 0, none⟩), .int .i64 nonce, .int .i64 now] w fun e w' => (16 ≤ used ∧ e = .returned (.tuple #[.agg #[.slice none 0 0, .slice none 0 0], .int .i64 3]) ∧ Step nowhere w w') ∨ (used < 16 ∧ AttPost zk seed used nonce now w w' e) := by
  have kb0 : ∀ w, (Instr.build 39 #[]).run Tryz.prog w = .ok (.agg #[.slice none 0 0, .slice none 0 0]) w := fun _ => by kernel_rfl
  have kbE : ∀ (M : Option Addr) (n c z : Nat) w, (Instr.build 39 #[(0, .slice M n c), (1, .slice (some ⟨z, 0, none⟩) 1 1)]).run Tryz.prog w = .ok (.agg #[.slice M n c, .slice (some ⟨z, 0, none⟩) 1 1]) w := fun _ _ _ _ _ => by kernel_rfl
  obtain ⟨N, hN⟩ : ∃ N, N = pubS seed := ⟨_, rfl⟩
  have HN := Lib.hid hN
  obtain ⟨bd, hbd⟩ : ∃ bd, bd = bodyS nonce now := ⟨_, rfl⟩
  have HBD := Lib.hid hbd
  have HNA := Lib.hid hn
  have HNB := Lib.hid hw
  have hzl : zc < w.heap.size := hz.out.lt
  have hkl := hk.lt
  clear hN hn hw
  go_enter Tryz.func7, Tryz.ntmps7
  go_wp2_with (first | ((with_reducible apply (wpl_guard (op := .call _))); (exact rfl)) | ((with_reducible apply (wpl_alloc (dst := some 6))); intro zo wzo _ _ _))
  refine (ckNumber_calls nonce _).mono ?_
  rw [HNA.out]
  rintro e w1 ⟨rfl, _⟩
  go_wp2_with (first | ((with_reducible apply (wpl_guard (op := .call _))); (exact rfl)))
  refine (ckNumber_calls now _).mono ?_
  rw [HNB.out]
  rintro e w2 ⟨rfl, _⟩
  go_wp2_with (first | ((with_reducible apply (stop_dst (dst := some 27))); (try simp only [Act.put, sA, sB, sC]); ((with_reducible apply (wpl_bslice (dst := some 27))); (exact run_int3 _ _ _ _); intro zi wb _ _ _)) | ((with_reducible apply (wpl_alloc (dst := some 8))); intro zw wzw _ _ _))
  have hw0 : WrAt wb zw none [] := ⟨⟨0, 0, rfl, (inferInstance : HB wb zw 59 #[.slice none 0 0]).out, Own.nil _ _ _⟩, fun ad h => by cases h⟩
  have hzi : HB wb zi 3 #[.int .i64 7, .int .i64 nonce, .int .i64 now] := inferInstance
  have hne : zi ≠ zw := fun e => (inferInstance : OffB (only zi) zw).out e.symm
  have hzw : w.heap.size ≤ zw := (NewA.monoS (w0 := w) (NewA.of_born (z := zw) 0)).out ⟨zw, 0, none⟩ rfl
  have stb : Step nowhere w wb := stepN
  have n5 : Nw w wb := inferInstance
  have hob : HB wb zo 39 #[.slice none 0 0, .slice none 0 0] := inferInstance
  have hzo : zo ≠ zw := fun e => (inferInstance : OffB (only zw) zo).out e
  have hzob : w.heap.size ≤ zo := (NewA.monoS (w0 := w) (NewA.of_born (z := zo) 0)).out ⟨zo, 0, none⟩ rfl
  refine (Nums_calls zw none [] (some ⟨zi, 0, none⟩) 3 3 [7, nonce, now] wb hw0 hzi.rdL rfl (fun _ ad e hk => by
    injection e with e
    subst e
    rcases hk with hk | ⟨ad, e, _⟩
    · exact hne hk
    · cases e) (by simp)).mono ?_
  rintro e w3 ⟨rfl, A3, h3, c3, m3⟩
  have s3 : Step (only zw) wb w3 := ⟨c3.mono (fun x _ hx => wfz hx)⟩
  have HW3 := Lib.hid h3
  have oz : OffB (only zw) zc := ⟨fun e => by have e' : zc = zw := e; omega⟩
  have ok3 : OffB (only zw) zk := ⟨fun e => by have e' : zk = zw := e; omega⟩
  have ozo : OffB (only zw) zo := ⟨fun e => hzo e⟩
  have hx3 : ([] ++ encAll [7, nonce, now] : List UInt8) = bd := by rw [hbd]; rfl
  have hl3 : bd.length ≤ 27 := by rw [hbd]; exact body_len nonce now
  rw [hx3] at HW3
  clear c3 m3 h3 hx3 hw0 hbd
  go_wp2_with fail
  refine (Out_calls zw A3 bd w3 HW3.out (by omega)).mono ?_
  rintro e w4 ⟨M, n, c, rfl, hln, hown, hc4, hnew⟩
  have s4 : Step nowhere w3 w4 := ⟨hc4.out⟩
  have hnM : NewA w3 M := ⟨hnew.out⟩
  have hoM : HO w4 5 1 M n c (bs bd) := ⟨hown.out⟩
  have hrM : HR w4 M (bs bd) := ⟨hown.out.rd⟩
  have hcap : n ≤ c := own_cap hown.out
  have hlen : bd.length = n := hln.out.symm
  have HLEN := Lib.hid hlen
  clear hnew hown hc4 hln hlen
  have n4 : Nw w w4 := inferInstance
  by_cases h16 : 16 ≤ used
  · go_wp2_with (first | ((with_reducible apply wpl_loadcellN); (exact rfl); infer_instance; (exact rfl)))
    refine (signUsed_calls M n c w4 h16).mono ?_
    rintro e w5 ⟨rfl, _⟩
    go_wp2_with (first | ((with_reducible apply wpl_build); (exact kb0 _)) | ((with_reducible apply (wpl_alloc (dst := some 10))); intro zs wzs _ _ _) | ((with_reducible apply wpl_storerow); (exact rfl); (exact rfl); infer_instance; infer_instance; (first | (with_reducible assumption) | (with_reducible exact H32.size _) | (with_reducible exact enc_sz _ rfl) | kernel_rfl); (first | (with_reducible assumption) | (with_reducible exact H32.size _) | (with_reducible exact enc_sz _ rfl) | kernel_rfl); (first | (with_reducible exact u8s_one _) | (with_reducible assumption) | (with_reducible exact enc_one _) | kernel_rfl); intro ws _ _))
    exact ret_row_ rfl rfl rfl (n := 2) rfl rfl (.inl ⟨h16, rfl, stepN⟩)
  · have h16' : used < 16 := by omega
    have hp4 : (pathA (leavesS seed) used).length = 4 := path_len4 seed used h0 h16'
    go_wp2_with (first | ((with_reducible apply wpl_loadcellN); (exact rfl); infer_instance; (exact rfl)))
    refine (ksignD_calls (m := bd) HLEN.out hcap (by have := HLEN.out; omega) h0 h16').mono ?_
    rw [hp4]
    rintro e w5 ⟨z5, A5, c5, rfl, _, hk5, hz5, hA5, hS5, hP5, hd1, hd2⟩
    obtain ⟨S5, hS⟩ : ∃ S, S = signS seed used bd := ⟨_, rfl⟩
    obtain ⟨P5, hP⟩ : ∃ Pa, Pa = pathA (leavesS seed) used := ⟨_, rfl⟩
    rw [← hS] at hS5
    rw [← hP] at hP5
    have HS := Lib.hid hS
    have HP := Lib.hid hP
    have hSL : S5.length = 36 := by rw [hS, signS_len]
    have hPL : P5.length = 4 := by rw [hP]; exact hp4
    have kb7 := run_mark ⟨N, used, some ⟨z5, 0, none⟩, 36, S5, A5, c5, P5⟩
    have kc7 := run_oneM ⟨N, used, some ⟨z5, 0, none⟩, 36, S5, A5, c5, P5⟩
    simp only [hSL, hPL] at kb7
    have hnM' : NewA w M := NewA.monoS hnM
    have hz' : NewA w (some ⟨z5, 0, none⟩) := NewA.monoS hz5
    have hA' : NewA w A5 := NewA.monoS hA5
    have m1 : OffA (rowOf M) (some ⟨z5, 0, none⟩) := inferInstance
    have m2 : OffA (rowOf M) A5 := inferInstance
    clear hS hP hp4 hSL hPL
    go_wp2_with (first | ((with_reducible apply (wpl_alloc (dst := some 10))); intro zs wzs _ _ _) | ((with_reducible apply wpl_storerow); (exact rfl); (exact rfl); infer_instance; infer_instance; (first | (with_reducible assumption) | (with_reducible exact H32.size _) | (with_reducible exact enc_sz _ rfl) | kernel_rfl); (first | (with_reducible assumption) | (with_reducible exact H32.size _) | (with_reducible exact enc_sz _ rfl) | kernel_rfl); (first | (with_reducible exact u8s_one _) | (with_reducible assumption) | (with_reducible exact enc_one _) | kernel_rfl); intro ws _ _))
    refine wp_region_I (KI zk seed (used + 1)) ((both zk zo)) (by kernel_rfl) inferInstance (fun wd _ _ => ?_)
    refine' takeH (i := 0) (v := _) rfl (by kernel_rfl) (by kernel_rfl) (by kernel_rfl) (fun _ _ _ h => h) (yields_ofI (by rfl) (fun w' _ => ?_)) inferInstance ?_
    rotate_left
    · (go_simp; try with_reducible rfl)
    try simp only [Act.put, sA]; try simp only [sB, sC]
    refine' takeH (i := 1) (v := _) rfl (by kernel_rfl) (by kernel_rfl) (by kernel_rfl) (fun _ _ _ h => h) (yields_ofI (by rfl) (fun w' _ => ?_)) inferInstance ?_
    rotate_left
    · (go_simp; try with_reducible rfl)
    try simp only [Act.put, sA]; try simp only [sB, sC]
    refine' takeH (i := 2) (v := _) rfl (by kernel_rfl) (by kernel_rfl) (by kernel_rfl) (fun _ _ _ h => h) (yields_ofI (by rfl) (fun w' _ => ?_)) inferInstance ?_
    rotate_left
    · (go_simp; try with_reducible rfl)
    try simp only [Act.put, sA]; try simp only [sB, sC]
    refine' takeH (i := 3) (v := _) rfl (by kernel_rfl) (by kernel_rfl) (by kernel_rfl) (fun _ _ _ h => h) (yields_ofI (by rfl) (fun w' _ => ?_)) inferInstance ?_
    rotate_left
    · (go_simp; try with_reducible rfl)
    try simp only [Act.put, sA]; try simp only [sB, sC]
    refine' takeH (i := 4) (v := _) rfl (by kernel_rfl) (by kernel_rfl) (by kernel_rfl) (fun _ _ _ h => h) (yields_ofI (by rfl) (fun w' _ => ?_)) inferInstance ?_
    rotate_left
    · ((with_reducible apply ev_loadcellN); (exact rfl); infer_instance; infer_instance; (exact rfl))
    try simp only [Act.put, sA]; try simp only [sB, sC]
    refine' takeH (i := 6) (v := _) rfl (by kernel_rfl) (by kernel_rfl) (by kernel_rfl) (fun _ _ _ h => h) (yields_ofI (by rfl) (fun w' _ => ?_)) inferInstance ?_
    rotate_left
    · ((with_reducible apply ev_loadrow); (exact rfl); infer_instance; infer_instance; (first | (with_reducible assumption) | (with_reducible exact H32.size _) | (with_reducible exact enc_sz _ rfl) | kernel_rfl))
    try simp only [Act.put, sA]; try simp only [sB, sC]
    refine goH (i := 5) (by kernel_rfl) rfl (fun K_ hK_ => ?_)
    go_simp
    refine (kpublic_calls (zk := zk)).mono ?_
    rw [← HN.out]
    rintro e w6 ⟨rfl, _, _⟩
    refine hK_.out _ _ inferInstance (fun _ => ?_)
    clear hK_ K_
    try simp only [Act.put, sA]; try simp only [sB, sC]
    refine' takeH (i := 7) (v := _) rfl (by kernel_rfl) (by kernel_rfl) (by kernel_rfl) (fun _ _ _ h => h) (yields_ofI (by rfl) (fun w' _ => ?_)) inferInstance ?_
    rotate_left
    · ((with_reducible apply ev_build); exact kb7 _)
    try simp only [Act.put, sA]; try simp only [sB, sC]
    refine goH (i := 8) (by kernel_rfl) rfl (fun K_ hK_ => ?_)
    rw [if_pos (by kernel_rfl)]
    refine wpr_of_list ?_
    (first | ((with_reducible apply (stop_dst (dst := some 50))); (try simp only [Act.put, sA, sB, sC]); ((with_reducible apply (wpl_build (dst := some 50))); (exact kb7 _))) | ((with_reducible apply (stop_dst (dst := some 51))); (try simp only [Act.put, sA, sB, sC]); ((with_reducible apply (wpl_bslice (dst := some 51))); (exact kc7 _); intro zm wb _ _ _)) | ((with_reducible apply (stop_dst (dst := some 52))); (try simp only [Act.put, sA, sB, sC]); ((with_reducible apply (wpl_build (dst := some 52))); (exact kbE _ _ _ _ _))))
    refine wpList_nil ?_
    unfold onlyN
    refine hK_.out _ _ inferInstance (fun _ => ?_)
    clear hK_ K_
    try simp only [Act.put, sA]; try simp only [sB, sC]
    refine' takeH (i := 9) (v := _) rfl (by kernel_rfl) (by kernel_rfl) (by kernel_rfl) (fun _ _ _ h => h) (yields_ofI (by rfl) (fun w' _ => ?_)) inferInstance ?_
    rotate_left
    · ((with_reducible apply ev_build); exact kbE _ _ _ _ _)
    try simp only [Act.put, sA]; try simp only [sB, sC]
    refine goH (i := 10) (by kernel_rfl) rfl (fun K_ hK_ => ?_)
    rw [if_pos (by kernel_rfl)]
    refine wpr_of_list ?_
    (first | ((with_reducible apply (stop_dst (dst := some 50))); (try simp only [Act.put, sA, sB, sC]); ((with_reducible apply (wpl_build (dst := some 50))); (exact kb7 _))) | ((with_reducible apply (stop_dst (dst := some 51))); (try simp only [Act.put, sA, sB, sC]); ((with_reducible apply (wpl_bslice (dst := some 51))); (exact kc7 _); intro zm wb _ _ _)) | ((with_reducible apply (stop_dst (dst := some 52))); (try simp only [Act.put, sA, sB, sC]); ((with_reducible apply (wpl_build (dst := some 52))); (exact kbE _ _ _ _ _))) | ((with_reducible apply wpl_storerow); (exact rfl); (exact rfl); infer_instance; infer_instance; (first | (with_reducible assumption) | (with_reducible exact H32.size _) | (with_reducible exact enc_sz _ rfl) | kernel_rfl); (first | (with_reducible assumption) | (with_reducible exact H32.size _) | (with_reducible exact enc_sz _ rfl) | kernel_rfl); (first | (with_reducible exact u8s_one _) | (with_reducible assumption) | (with_reducible exact enc_one _) | kernel_rfl); intro ws _ _) | ((with_reducible apply wpl_storecell); (exact rfl); (exact rfl); infer_instance; (exact rfl); (first | (with_reducible assumption) | omega | (focus (simp; done)) | (focus (simp; omega; done)) | decide); intro ws _ _) | ((with_reducible apply (wpl_storehash (t := 23))); (exact rfl); (exact rfl); infer_instance; infer_instance; (first | (with_reducible assumption) | omega | (focus (simp; done)) | (focus (simp; omega; done)) | decide); intro ws _ _) | ((with_reducible apply (wpl_storeint (t := 3))); (exact rfl); (exact rfl); infer_instance; (first | (with_reducible assumption) | omega); intro ws _ _) | ((with_reducible apply (wpl_storebyte (t := 5))); (exact rfl); (exact rfl); infer_instance; (first | (with_reducible assumption) | omega | (focus (simp; done)) | (focus (simp; omega; done)) | decide); (constructor <;> omega); intro ws _ _))
    refine wpList_nil ?_
    unfold onlyN
    refine hK_.out _ _ inferInstance (fun _ => ?_)
    clear hK_ K_
    try simp only [Act.put]
    refine' takeH (i := 11) (v := _) rfl (by kernel_rfl) (by kernel_rfl) (by kernel_rfl) (fun _ _ _ h => h) (yields_ofI (by rfl) (fun w' _ => ?_)) inferInstance ?_
    rotate_left
    · (go_simp; try with_reducible rfl)
    try simp only [Act.put, sA]; try simp only [sB, sC]
    refine wpAnyH_done (by kernel_rfl) ?_ _
    go_wp2_with fail
    have hbm : HB ws zm 67 (RowC.enc (⟨N, used, some ⟨z5, 0, none⟩, 36, S5, A5, c5, P5⟩ : MarkR)).toArray := inferInstance
    have hza : NewA w (some ⟨zm, 0, none⟩) := NewA.monoS (NewA.of_born 0)
    have hma : OffA (rowOf M) (some ⟨zm, 0, none⟩) := inferInstance
    have hoW : HO ws 5 1 M n c (bs bd) := inferInstance
    have hlW : HR ws (some ⟨z5, 0, none⟩) (cellsOf S5) := inferInstance
    have hpW : HR ws A5 (cellsOf P5) := inferInstance
    refine ret_row_ rfl rfl rfl (n := 2) rfl rfl (.inr ⟨h16', M, n, c, _, ⟨N, used, some ⟨z5, 0, none⟩, 36, S5, A5, c5, P5⟩, rfl, stepC, inferInstance, ?_, hcap, ?_, markRow hbm, hlW, hpW, ?_, ?_, hbm⟩)
    · rw [← HBD.out]
      exact HLEN.out
    · rw [← HBD.out]
      exact hoW
    · rw [← HBD.out]
      exact ⟨HN.out, rfl, HS.out, HP.out⟩
    · exact ⟨hnM', hza, hz', hA', hma, m1, m2, offKey hk hnM', offKey hk hza, offKey hk hz', offKey hk hA'⟩
end
end Go.Proofs.YtcgbgeheiklhhaaGreat
