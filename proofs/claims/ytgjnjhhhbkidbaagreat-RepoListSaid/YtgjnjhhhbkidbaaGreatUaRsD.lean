/- RsD -/
import Derived.Test.YtgjnjhhhbkidbaaGreatUaRsC
open Go Go.RowKit
namespace Go.Proofs.YtgjnjhhhbkidbaaGreat
theorem rp_drop68 (sd : H32) (p0 p1 : Value) (f : H32) (g v : Int) (tl : List Value) (i : Nat) : (rpL sd p0 p1 f g v tl).toArray.toList.drop (68 + i) = tl.drop i := by
  have e1 : rpL sd p0 p1 f g v tl = (bs sd.l ++ [p0, p1] ++ bs f.l ++ [Value.int .i64 g, Value.int .i64 v]) ++ tl := by simp [rpL]
  have e2 : (bs sd.l ++ [p0, p1] ++ bs f.l ++ [Value.int .i64 g, Value.int .i64 v]).length = 68 := by simp [bs_length]
  show (rpL sd p0 p1 f g v tl).drop (68 + i) = _
  rw [e1, List.drop_append, List.drop_of_length_le (by rw [e2]; omega), e2, List.nil_append, Nat.add_sub_cancel_left]
theorem run_bun (a : Option Addr) (n c : Nat) (t0 t1 s0 s1 : Value) (b : Option Addr) (m d : Nat) (w : World) : (Instr.build 34 #[(0, .slice a n c), (1, .agg #[t0, t1]), (2, .agg #[s0, s1]), (3, .slice b m d)]).run Tryz.prog w = .ok (.agg #[.slice a n c, t0, t1, s0, s1, .slice b m d]) w := by kernel_rfl
instance rowTBun : RowT Tryz.prog 34 6 := ⟨by kernel_rfl, _, Tryz.underlying34, rfl⟩
instance zeroTBun : ZeroT Tryz.prog 34 #[.slice none 0 0, .slice none 0 0, .slice none 0 0, .slice none 0 0, .slice none 0 0, .slice none 0 0] := ⟨.agg #[.slice none 0 0, .slice none 0 0, .slice none 0 0, .slice none 0 0, .slice none 0 0, .slice none 0 0], fun _ => by kernel_rfl, rfl⟩
instance cellEvs : CellT Tryz.prog 28 := ⟨fun _ => by kernel_rfl, fun _ => by kernel_rfl⟩
theorem clones1x_calls {A : Option Addr} {c : Nat} (x : EvC) {m : List UInt8} {P : List MkV} {w : World} (h : Rd w A (cellsOf [x])) (hx : EvV w m P x.v0 x.v1) :
    Calls Tryz.prog 32 #[.slice A 1 c] w fun e w' => ∃ A' c', e = .returned (.slice A' 1 c') ∧ Step nowhere w w' := by
  have h' : HR w A (cellsOf [x]) := ⟨h⟩
  exact clones1_calls x hx
theorem six_one (a b c d e f : Value) (h1 : a.oneCell' = true) (h2 : b.oneCell' = true) (h3 : c.oneCell' = true) (h4 : d.oneCell' = true) (h5 : e.oneCell' = true) (h6 : f.oneCell' = true) : (#[a, b, c, d, e, f] : Array Value).all (·.oneCell') = true := by
  rw [List.all_toArray, List.all_eq_true]
  intro u hu
  simp only [List.mem_cons, List.not_mem_nil, or_false] at hu
  rcases hu with rfl | rfl | rfl | rfl | rfl | rfl <;> assumption
theorem evV_nil (w : World) : EvV w [] [] (.slice none 0 0) (.slice none 0 0) := ⟨none, 0, 0, none, 0, 0, [], rfl, rfl, Rd.nil _ _, rfl, Nat.zero_le _, Rd.nil _ _, rfl, Nat.zero_le _, rfl, fun x hx => by cases hx⟩
set_option maxRecDepth 100000 in
set_option maxHeartbeats 3200000 in
theorem bundle0_calls {sd f : H32} {p0 p1 x : Value} {g v : Int} {t0 t1 s0 s1 lg : Value} {mt ms : List UInt8} {Pt Ps : List MkV} {zr : Nat} {w : World} [hb : HB w zr 73 (rpL sd p0 p1 f g v (x :: [.slice none 0 0, t0, t1, s0, s1, .slice none 0 0, lg])).toArray] (ht : EvV w mt Pt t0 t1) (hs : EvV w ms Ps s0 s1) :
    Calls Tryz.prog 9 #[.pointer (some ⟨zr, 0, none⟩)] w fun e w' => ∃ a b c d A' c', e = .returned (.agg #[.slice none 0 0, a, b, c, d, .slice A' 0 c']) ∧ Step nowhere w w' := by
  have HT := Lib.hid ht
  have HS := Lib.hid hs

  have hc69 : nth (rpL sd p0 p1 f g v (x :: [.slice none 0 0, t0, t1, s0, s1, .slice none 0 0, lg])).toArray.toList 69 = some (.slice none 0 0) := by
    rw [← nth_get]
    exact rp_get68 sd p0 p1 f g v _ 1
  have hc74 : nth (rpL sd p0 p1 f g v (x :: [.slice none 0 0, t0, t1, s0, s1, .slice none 0 0, lg])).toArray.toList 74 = some (.slice none 0 0) := by
    rw [← nth_get]
    exact rp_get68 sd p0 p1 f g v _ 6
  have hc70 : ((rpL sd p0 p1 f g v (x :: [.slice none 0 0, t0, t1, s0, s1, .slice none 0 0, lg])).toArray.toList.drop 70).take 2 = [t0, t1] := by
    rw [show 70 = 68 + 2 from rfl, rp_drop68]
    rfl
  have hc72 : ((rpL sd p0 p1 f g v (x :: [.slice none 0 0, t0, t1, s0, s1, .slice none 0 0, lg])).toArray.toList.drop 72).take 2 = [s0, s1] := by
    rw [show 72 = 68 + 4 from rfl, rp_drop68]
    rfl
  clear ht hs
  go_enter Tryz.func9, Tryz.ntmps9
  go_wp2_with (first | ((with_reducible apply (wpl_alloc (dst := some 2))); intro zo wzo _ _ _))
  have hzo : w.heap.size ≤ zo := Nat.le_of_eq (inferInstance : Born w zo).eq.symm
  have hzr := hb.out.lt
  have hOo : HB wzo zo 34 #[.slice none 0 0, .slice none 0 0, .slice none 0 0, .slice none 0 0, .slice none 0 0, .slice none 0 0] := inferInstance
  have oz : OffB (only zo) zr := ⟨fun e => by have e' : zr = zo := e; omega⟩
  have nwo : Nw w wzo := ⟨(stepN (w0 := w) (w := wzo)).chg⟩

  refine wp_region_N ((only zo)) (by kernel_rfl) (fun wd _ _ => ?_)
  refine' takeH (i := 0) (v := _) rfl (by kernel_rfl) (by kernel_rfl) (by kernel_rfl) (fun _ _ _ h => h) (yields_of (by rfl) (fun w' _ => ?_)) inferInstance ?_
  rotate_left
  · (go_simp; try with_reducible rfl)
  try simp only [Act.put, sA]; try simp only [sB, sC]
  refine' takeH (i := 1) (v := _) rfl (by kernel_rfl) (by kernel_rfl) (by kernel_rfl) (fun _ _ _ h => h) (yields_of (by rfl) (fun w' _ => ?_)) inferInstance ?_
  rotate_left
  · (go_simp; try with_reducible rfl)
  try simp only [Act.put, sA]; try simp only [sB, sC]
  refine' takeH (i := 2) (v := _) rfl (by kernel_rfl) (by kernel_rfl) (by kernel_rfl) (fun _ _ _ h => h) (yields_of (by rfl) (fun w' _ => ?_)) inferInstance ?_
  rotate_left
  · (go_simp; try with_reducible rfl)
  try simp only [Act.put, sA]; try simp only [sB, sC]
  refine' takeH (i := 3) (v := _) rfl (by kernel_rfl) (by kernel_rfl) (by kernel_rfl) (fun _ _ _ h => h) (yields_of (by rfl) (fun w' _ => ?_)) inferInstance ?_
  rotate_left
  · (go_simp; try with_reducible rfl)
  try simp only [Act.put, sA]; try simp only [sB, sC]
  refine' takeH (i := 4) (v := _) rfl (by kernel_rfl) (by kernel_rfl) (by kernel_rfl) (fun _ _ _ h => h) (yields_of (by rfl) (fun w' _ => ?_)) inferInstance ?_
  rotate_left
  · ((with_reducible apply (ev_loadcellN (k := 69))); (exact rfl); infer_instance; infer_instance; (exact hc69))
  try simp only [Act.put, sA]; try simp only [sB, sC]
  refine' takeH (i := 6) (v := _) rfl (by kernel_rfl) (by kernel_rfl) (by kernel_rfl) (fun _ _ _ h => h) (yields_of (by rfl) (fun w' _ => ?_)) inferInstance ?_
  rotate_left
  · (go_simp; try with_reducible rfl)
  try simp only [Act.put, sA]; try simp only [sB, sC]
  refine' takeH (i := 7) (v := _) rfl (by kernel_rfl) (by kernel_rfl) (by kernel_rfl) (fun _ _ _ h => h) (yields_of (by rfl) (fun w' _ => ?_)) inferInstance ?_
  rotate_left
  · (go_simp; try with_reducible rfl)
  try simp only [Act.put, sA]; try simp only [sB, sC]
  refine' takeH (i := 8) (v := _) rfl (by kernel_rfl) (by kernel_rfl) (by kernel_rfl) (fun _ _ _ h => h) (yields_of (by rfl) (fun w' _ => ?_)) inferInstance ?_
  rotate_left
  · (go_simp; try with_reducible rfl)
  try simp only [Act.put, sA]; try simp only [sB, sC]
  refine' takeH (i := 9) (v := _) rfl (by kernel_rfl) (by kernel_rfl) (by kernel_rfl) (fun _ _ _ h => h) (yields_of (by rfl) (fun w' _ => ?_)) inferInstance ?_
  rotate_left
  · (go_simp; try with_reducible rfl)
  try simp only [Act.put, sA]; try simp only [sB, sC]
  refine' takeH (i := 10) (v := _) rfl (by kernel_rfl) (by kernel_rfl) (by kernel_rfl) (fun _ _ _ h => h) (yields_of (by rfl) (fun w' _ => ?_)) inferInstance ?_
  rotate_left
  · ((with_reducible apply (ev_loadpart (k := 70) (n := 2))); (exact rfl); infer_instance; infer_instance; (decide); (exact hc70); (exact rfl))
  try simp only [Act.put, sA]; try simp only [sB, sC]
  refine' takeH (i := 12) (v := _) rfl (by kernel_rfl) (by kernel_rfl) (by kernel_rfl) (fun _ _ _ h => h) (yields_of (by rfl) (fun w' _ => ?_)) inferInstance ?_
  rotate_left
  · (go_simp; try with_reducible rfl)
  try simp only [Act.put, sA]; try simp only [sB, sC]
  refine' takeH (i := 13) (v := _) rfl (by kernel_rfl) (by kernel_rfl) (by kernel_rfl) (fun _ _ _ h => h) (yields_of (by rfl) (fun w' _ => ?_)) inferInstance ?_
  rotate_left
  · (go_simp; try with_reducible rfl)
  try simp only [Act.put, sA]; try simp only [sB, sC]
  refine' takeH (i := 14) (v := _) rfl (by kernel_rfl) (by kernel_rfl) (by kernel_rfl) (fun _ _ _ h => h) (yields_of (by rfl) (fun w' _ => ?_)) inferInstance ?_
  rotate_left
  · (go_simp; try with_reducible rfl)
  try simp only [Act.put, sA]; try simp only [sB, sC]
  refine' takeH (i := 15) (v := _) rfl (by kernel_rfl) (by kernel_rfl) (by kernel_rfl) (fun _ _ _ h => h) (yields_of (by rfl) (fun w' _ => ?_)) inferInstance ?_
  rotate_left
  · (go_simp; try with_reducible rfl)
  try simp only [Act.put, sA]; try simp only [sB, sC]
  refine' takeH (i := 16) (v := _) rfl (by kernel_rfl) (by kernel_rfl) (by kernel_rfl) (fun _ _ _ h => h) (yields_of (by rfl) (fun w' _ => ?_)) inferInstance ?_
  rotate_left
  · ((with_reducible apply (ev_loadpart (k := 72) (n := 2))); (exact rfl); infer_instance; infer_instance; (decide); (exact hc72); (exact rfl))
  try simp only [Act.put, sA]; try simp only [sB, sC]
  refine' takeH (i := 18) (v := _) rfl (by kernel_rfl) (by kernel_rfl) (by kernel_rfl) (fun _ _ _ h => h) (yields_of (by rfl) (fun w' _ => ?_)) inferInstance ?_
  rotate_left
  · (go_simp; try with_reducible rfl)
  try simp only [Act.put, sA]; try simp only [sB, sC]
  refine' takeH (i := 19) (v := _) rfl (by kernel_rfl) (by kernel_rfl) (by kernel_rfl) (fun _ _ _ h => h) (yields_of (by rfl) (fun w' _ => ?_)) inferInstance ?_
  rotate_left
  · (go_simp; try with_reducible rfl)
  try simp only [Act.put, sA]; try simp only [sB, sC]
  refine' takeH (i := 20) (v := _) rfl (by kernel_rfl) (by kernel_rfl) (by kernel_rfl) (fun _ _ _ h => h) (yields_of (by rfl) (fun w' _ => ?_)) inferInstance ?_
  rotate_left
  · (go_simp; try with_reducible rfl)
  try simp only [Act.put, sA]; try simp only [sB, sC]
  refine' takeH (i := 21) (v := _) rfl (by kernel_rfl) (by kernel_rfl) (by kernel_rfl) (fun _ _ _ h => h) (yields_of (by rfl) (fun w' _ => ?_)) inferInstance ?_
  rotate_left
  · (go_simp; try with_reducible rfl)
  try simp only [Act.put, sA]; try simp only [sB, sC]
  refine' takeH (i := 22) (v := _) rfl (by kernel_rfl) (by kernel_rfl) (by kernel_rfl) (fun _ _ _ h => h) (yields_of (by rfl) (fun w' _ => ?_)) inferInstance ?_
  rotate_left
  · ((with_reducible apply (ev_loadcellN (k := 74))); (exact rfl); infer_instance; infer_instance; (exact hc74))
  try simp only [Act.put, sA]; try simp only [sB, sC]
  refine goH (i := 5) (by kernel_rfl) rfl (fun K_ hK_ => ?_)
  go_simp
  refine (clones0_calls _).mono ?_
  rintro e w5 ⟨rfl, rfl⟩
  refine hK_.out _ _ inferInstance (fun _ => ?_)
  clear hK_ K_
  try simp only [Act.put, sA]; try simp only [sB, sC]
  refine goH (i := 11) (by kernel_rfl) rfl (fun K_ hK_ => ?_)
  go_simp
  refine (cloneEv_calls (HT.out.nw (stepN (w0 := w)).chg)).mono ?_
  rintro e w6 ⟨a, b, rfl, st6, hab⟩
  refine hK_.out _ _ inferInstance (fun _ => ?_)
  clear hK_ K_
  try simp only [Act.put, sA]; try simp only [sB, sC]
  refine goH (i := 17) (by kernel_rfl) rfl (fun K_ hK_ => ?_)
  go_simp
  refine (cloneEv_calls (HS.out.nw (stepN (w0 := w)).chg)).mono ?_
  rintro e w7 ⟨c, d, rfl, st7, hcd⟩
  refine hK_.out _ _ inferInstance (fun _ => ?_)
  clear hK_ K_
  try simp only [Act.put, sA]; try simp only [sB, sC]
  refine goH (i := 23) (by kernel_rfl) rfl (fun K_ hK_ => ?_)
  go_simp
  refine (clones0_calls _).mono ?_
  rintro e w8 ⟨rfl, rfl⟩
  have hone : Hid ((#[.slice none 0 0, a, b, c, d, .slice none 0 0] : Array Value).all (·.oneCell') = true) := Lib.hid (six_one _ _ _ _ _ _ rfl hab.out.one.1 hab.out.one.2 hcd.out.one.1 hcd.out.one.2 rfl)
  refine hK_.out _ _ inferInstance (fun _ => ?_)
  clear hK_ K_
  try simp only [Act.put, sA]; try simp only [sB, sC]
  refine' takeH (i := 24) (v := _) rfl (by kernel_rfl) (by kernel_rfl) (by kernel_rfl) (fun _ _ _ h => h) (yields_of (by rfl) (fun w' _ => ?_)) inferInstance ?_
  rotate_left
  · (go_simp; try with_reducible rfl)
  try simp only [Act.put, sA]; try simp only [sB, sC]
  refine goH (i := 25) (by kernel_rfl) rfl (fun K_ hK_ => ?_)
  rw [if_pos (by kernel_rfl)]
  refine wpr_of_list ?_
  (first | ((with_reducible apply wpl_build); (exact run_bun _ _ _ _ _ _ _ _ _ _ _ _)) | ((with_reducible apply wpl_storerow); (exact rfl); (exact rfl); infer_instance; infer_instance; (exact rfl); (exact rfl); (exact hone.out); intro wz stz hz) | ((with_reducible apply wpl_storerow); (exact rfl); (exact rfl); infer_instance; infer_instance; (first | (with_reducible assumption) | (with_reducible exact H32.size _) | kernel_rfl); (first | (with_reducible assumption) | (with_reducible exact H32.size _) | kernel_rfl); (first | (with_reducible exact u8s_one _) | (with_reducible assumption) | kernel_rfl); intro ws _ _) | ((with_reducible apply wpl_storecell); (exact rfl); (exact rfl); infer_instance; (exact rfl); (first | (with_reducible assumption) | omega | (focus (simp; done)) | (focus (simp; omega; done)) | decide); intro ws _ _) | ((with_reducible apply (wpl_storehash (t := 23))); (exact rfl); (exact rfl); infer_instance; infer_instance; (first | (with_reducible assumption) | omega | (focus (simp; done)) | (focus (simp; omega; done)) | decide); intro ws _ _) | ((with_reducible apply (wpl_storebyteH (t := 5))); (exact rfl); (exact rfl); infer_instance; (first | (with_reducible assumption) | omega); (first | (with_reducible assumption) | omega); (first | (constructor <;> omega) | exact xor_u8_in _ _); intro ws _ _) | ((with_reducible apply (wpl_storeint (t := 3))); (exact rfl); (exact rfl); infer_instance; (first | (with_reducible assumption) | omega); intro ws _ _) | ((with_reducible apply (wpl_storebyte (t := 5))); (exact rfl); (exact rfl); infer_instance; (first | (with_reducible assumption) | omega | (focus (simp; done)) | (focus (simp; omega; done)) | decide); (constructor <;> omega); intro ws _ _))
  refine wpList_nil ?_
  unfold onlyN
  refine hK_.out _ _ inferInstance (fun _ => ?_)
  clear hK_ K_
  try simp only [Act.put]
  refine wpAnyH_done (by kernel_rfl) ?_ _
  all_goals
    go_wp2_with fail
    refine ret_row rfl rfl (n := 6) rfl rfl ⟨a, b, c, d, none, 0, rfl, ?_⟩
    exact stepN
set_option maxRecDepth 100000 in
set_option maxHeartbeats 3200000 in
theorem bundle1_calls {sd f : H32} {p0 p1 x : Value} {g v : Int} {t0 t1 s0 s1 lg : Value} {mt ms : List UInt8} {Pt Ps : List MkV} {G : Option Addr} {gc : Nat} {ev : EvC} {mg : List UInt8} {Pg : List MkV} {zr : Nat} {w : World} [hb : HB w zr 73 (rpL sd p0 p1 f g v (x :: [.slice none 0 0, t0, t1, s0, s1, .slice G 1 gc, lg])).toArray] (ht : EvV w mt Pt t0 t1) (hs : EvV w ms Ps s0 s1) [hg : HR w G (cellsOf [ev])] (hv : EvV w mg Pg ev.v0 ev.v1) :
    Calls Tryz.prog 9 #[.pointer (some ⟨zr, 0, none⟩)] w fun e w' => ∃ a b c d A' c', e = .returned (.agg #[.slice none 0 0, a, b, c, d, .slice A' 1 c']) ∧ Step nowhere w w' := by
  have HT := Lib.hid ht
  have HS := Lib.hid hs
  have HV := Lib.hid hv
  have hc69 : nth (rpL sd p0 p1 f g v (x :: [.slice none 0 0, t0, t1, s0, s1, .slice G 1 gc, lg])).toArray.toList 69 = some (.slice none 0 0) := by
    rw [← nth_get]
    exact rp_get68 sd p0 p1 f g v _ 1
  have hc74 : nth (rpL sd p0 p1 f g v (x :: [.slice none 0 0, t0, t1, s0, s1, .slice G 1 gc, lg])).toArray.toList 74 = some (.slice G 1 gc) := by
    rw [← nth_get]
    exact rp_get68 sd p0 p1 f g v _ 6
  have hc70 : ((rpL sd p0 p1 f g v (x :: [.slice none 0 0, t0, t1, s0, s1, .slice G 1 gc, lg])).toArray.toList.drop 70).take 2 = [t0, t1] := by
    rw [show 70 = 68 + 2 from rfl, rp_drop68]
    rfl
  have hc72 : ((rpL sd p0 p1 f g v (x :: [.slice none 0 0, t0, t1, s0, s1, .slice G 1 gc, lg])).toArray.toList.drop 72).take 2 = [s0, s1] := by
    rw [show 72 = 68 + 4 from rfl, rp_drop68]
    rfl
  clear ht hs hv
  go_enter Tryz.func9, Tryz.ntmps9
  go_wp2_with (first | ((with_reducible apply (wpl_alloc (dst := some 2))); intro zo wzo _ _ _))
  have hzo : w.heap.size ≤ zo := Nat.le_of_eq (inferInstance : Born w zo).eq.symm
  have hzr := hb.out.lt
  have hOo : HB wzo zo 34 #[.slice none 0 0, .slice none 0 0, .slice none 0 0, .slice none 0 0, .slice none 0 0, .slice none 0 0] := inferInstance
  have oz : OffB (only zo) zr := ⟨fun e => by have e' : zr = zo := e; omega⟩
  have nwo : Nw w wzo := ⟨(stepN (w0 := w) (w := wzo)).chg⟩
  have HG := Lib.hid hg.out
  refine wp_region_N ((only zo)) (by kernel_rfl) (fun wd _ _ => ?_)
  refine' takeH (i := 0) (v := _) rfl (by kernel_rfl) (by kernel_rfl) (by kernel_rfl) (fun _ _ _ h => h) (yields_of (by rfl) (fun w' _ => ?_)) inferInstance ?_
  rotate_left
  · (go_simp; try with_reducible rfl)
  try simp only [Act.put, sA]; try simp only [sB, sC]
  refine' takeH (i := 1) (v := _) rfl (by kernel_rfl) (by kernel_rfl) (by kernel_rfl) (fun _ _ _ h => h) (yields_of (by rfl) (fun w' _ => ?_)) inferInstance ?_
  rotate_left
  · (go_simp; try with_reducible rfl)
  try simp only [Act.put, sA]; try simp only [sB, sC]
  refine' takeH (i := 2) (v := _) rfl (by kernel_rfl) (by kernel_rfl) (by kernel_rfl) (fun _ _ _ h => h) (yields_of (by rfl) (fun w' _ => ?_)) inferInstance ?_
  rotate_left
  · (go_simp; try with_reducible rfl)
  try simp only [Act.put, sA]; try simp only [sB, sC]
  refine' takeH (i := 3) (v := _) rfl (by kernel_rfl) (by kernel_rfl) (by kernel_rfl) (fun _ _ _ h => h) (yields_of (by rfl) (fun w' _ => ?_)) inferInstance ?_
  rotate_left
  · (go_simp; try with_reducible rfl)
  try simp only [Act.put, sA]; try simp only [sB, sC]
  refine' takeH (i := 4) (v := _) rfl (by kernel_rfl) (by kernel_rfl) (by kernel_rfl) (fun _ _ _ h => h) (yields_of (by rfl) (fun w' _ => ?_)) inferInstance ?_
  rotate_left
  · ((with_reducible apply (ev_loadcellN (k := 69))); (exact rfl); infer_instance; infer_instance; (exact hc69))
  try simp only [Act.put, sA]; try simp only [sB, sC]
  refine' takeH (i := 6) (v := _) rfl (by kernel_rfl) (by kernel_rfl) (by kernel_rfl) (fun _ _ _ h => h) (yields_of (by rfl) (fun w' _ => ?_)) inferInstance ?_
  rotate_left
  · (go_simp; try with_reducible rfl)
  try simp only [Act.put, sA]; try simp only [sB, sC]
  refine' takeH (i := 7) (v := _) rfl (by kernel_rfl) (by kernel_rfl) (by kernel_rfl) (fun _ _ _ h => h) (yields_of (by rfl) (fun w' _ => ?_)) inferInstance ?_
  rotate_left
  · (go_simp; try with_reducible rfl)
  try simp only [Act.put, sA]; try simp only [sB, sC]
  refine' takeH (i := 8) (v := _) rfl (by kernel_rfl) (by kernel_rfl) (by kernel_rfl) (fun _ _ _ h => h) (yields_of (by rfl) (fun w' _ => ?_)) inferInstance ?_
  rotate_left
  · (go_simp; try with_reducible rfl)
  try simp only [Act.put, sA]; try simp only [sB, sC]
  refine' takeH (i := 9) (v := _) rfl (by kernel_rfl) (by kernel_rfl) (by kernel_rfl) (fun _ _ _ h => h) (yields_of (by rfl) (fun w' _ => ?_)) inferInstance ?_
  rotate_left
  · (go_simp; try with_reducible rfl)
  try simp only [Act.put, sA]; try simp only [sB, sC]
  refine' takeH (i := 10) (v := _) rfl (by kernel_rfl) (by kernel_rfl) (by kernel_rfl) (fun _ _ _ h => h) (yields_of (by rfl) (fun w' _ => ?_)) inferInstance ?_
  rotate_left
  · ((with_reducible apply (ev_loadpart (k := 70) (n := 2))); (exact rfl); infer_instance; infer_instance; (decide); (exact hc70); (exact rfl))
  try simp only [Act.put, sA]; try simp only [sB, sC]
  refine' takeH (i := 12) (v := _) rfl (by kernel_rfl) (by kernel_rfl) (by kernel_rfl) (fun _ _ _ h => h) (yields_of (by rfl) (fun w' _ => ?_)) inferInstance ?_
  rotate_left
  · (go_simp; try with_reducible rfl)
  try simp only [Act.put, sA]; try simp only [sB, sC]
  refine' takeH (i := 13) (v := _) rfl (by kernel_rfl) (by kernel_rfl) (by kernel_rfl) (fun _ _ _ h => h) (yields_of (by rfl) (fun w' _ => ?_)) inferInstance ?_
  rotate_left
  · (go_simp; try with_reducible rfl)
  try simp only [Act.put, sA]; try simp only [sB, sC]
  refine' takeH (i := 14) (v := _) rfl (by kernel_rfl) (by kernel_rfl) (by kernel_rfl) (fun _ _ _ h => h) (yields_of (by rfl) (fun w' _ => ?_)) inferInstance ?_
  rotate_left
  · (go_simp; try with_reducible rfl)
  try simp only [Act.put, sA]; try simp only [sB, sC]
  refine' takeH (i := 15) (v := _) rfl (by kernel_rfl) (by kernel_rfl) (by kernel_rfl) (fun _ _ _ h => h) (yields_of (by rfl) (fun w' _ => ?_)) inferInstance ?_
  rotate_left
  · (go_simp; try with_reducible rfl)
  try simp only [Act.put, sA]; try simp only [sB, sC]
  refine' takeH (i := 16) (v := _) rfl (by kernel_rfl) (by kernel_rfl) (by kernel_rfl) (fun _ _ _ h => h) (yields_of (by rfl) (fun w' _ => ?_)) inferInstance ?_
  rotate_left
  · ((with_reducible apply (ev_loadpart (k := 72) (n := 2))); (exact rfl); infer_instance; infer_instance; (decide); (exact hc72); (exact rfl))
  try simp only [Act.put, sA]; try simp only [sB, sC]
  refine' takeH (i := 18) (v := _) rfl (by kernel_rfl) (by kernel_rfl) (by kernel_rfl) (fun _ _ _ h => h) (yields_of (by rfl) (fun w' _ => ?_)) inferInstance ?_
  rotate_left
  · (go_simp; try with_reducible rfl)
  try simp only [Act.put, sA]; try simp only [sB, sC]
  refine' takeH (i := 19) (v := _) rfl (by kernel_rfl) (by kernel_rfl) (by kernel_rfl) (fun _ _ _ h => h) (yields_of (by rfl) (fun w' _ => ?_)) inferInstance ?_
  rotate_left
  · (go_simp; try with_reducible rfl)
  try simp only [Act.put, sA]; try simp only [sB, sC]
  refine' takeH (i := 20) (v := _) rfl (by kernel_rfl) (by kernel_rfl) (by kernel_rfl) (fun _ _ _ h => h) (yields_of (by rfl) (fun w' _ => ?_)) inferInstance ?_
  rotate_left
  · (go_simp; try with_reducible rfl)
  try simp only [Act.put, sA]; try simp only [sB, sC]
  refine' takeH (i := 21) (v := _) rfl (by kernel_rfl) (by kernel_rfl) (by kernel_rfl) (fun _ _ _ h => h) (yields_of (by rfl) (fun w' _ => ?_)) inferInstance ?_
  rotate_left
  · (go_simp; try with_reducible rfl)
  try simp only [Act.put, sA]; try simp only [sB, sC]
  refine' takeH (i := 22) (v := _) rfl (by kernel_rfl) (by kernel_rfl) (by kernel_rfl) (fun _ _ _ h => h) (yields_of (by rfl) (fun w' _ => ?_)) inferInstance ?_
  rotate_left
  · ((with_reducible apply (ev_loadcellN (k := 74))); (exact rfl); infer_instance; infer_instance; (exact hc74))
  try simp only [Act.put, sA]; try simp only [sB, sC]
  refine goH (i := 5) (by kernel_rfl) rfl (fun K_ hK_ => ?_)
  go_simp
  refine (clones0_calls _).mono ?_
  rintro e w5 ⟨rfl, rfl⟩
  refine hK_.out _ _ inferInstance (fun _ => ?_)
  clear hK_ K_
  try simp only [Act.put, sA]; try simp only [sB, sC]
  refine goH (i := 11) (by kernel_rfl) rfl (fun K_ hK_ => ?_)
  go_simp
  refine (cloneEv_calls (HT.out.nw (stepN (w0 := w)).chg)).mono ?_
  rintro e w6 ⟨a, b, rfl, st6, hab⟩
  refine hK_.out _ _ inferInstance (fun _ => ?_)
  clear hK_ K_
  try simp only [Act.put, sA]; try simp only [sB, sC]
  refine goH (i := 17) (by kernel_rfl) rfl (fun K_ hK_ => ?_)
  go_simp
  refine (cloneEv_calls (HS.out.nw (stepN (w0 := w)).chg)).mono ?_
  rintro e w7 ⟨c, d, rfl, st7, hcd⟩
  refine hK_.out _ _ inferInstance (fun _ => ?_)
  clear hK_ K_
  try simp only [Act.put, sA]; try simp only [sB, sC]
  refine goH (i := 23) (by kernel_rfl) rfl (fun K_ hK_ => ?_)
  go_simp
  refine (clones1x_calls ev (HG.out.chg (stepN (w0 := w)).chg (fun _ _ _ h => h)) (HV.out.nw (stepN (w0 := w)).chg)).mono ?_
  rintro e w8 ⟨A9, c9, rfl, st8⟩
  have hone : Hid ((#[.slice none 0 0, a, b, c, d, .slice A9 1 c9] : Array Value).all (·.oneCell') = true) := Lib.hid (six_one _ _ _ _ _ _ rfl hab.out.one.1 hab.out.one.2 hcd.out.one.1 hcd.out.one.2 rfl)
  refine hK_.out _ _ inferInstance (fun _ => ?_)
  clear hK_ K_
  try simp only [Act.put, sA]; try simp only [sB, sC]
  refine' takeH (i := 24) (v := _) rfl (by kernel_rfl) (by kernel_rfl) (by kernel_rfl) (fun _ _ _ h => h) (yields_of (by rfl) (fun w' _ => ?_)) inferInstance ?_
  rotate_left
  · (go_simp; try with_reducible rfl)
  try simp only [Act.put, sA]; try simp only [sB, sC]
  refine goH (i := 25) (by kernel_rfl) rfl (fun K_ hK_ => ?_)
  rw [if_pos (by kernel_rfl)]
  refine wpr_of_list ?_
  (first | ((with_reducible apply wpl_build); (exact run_bun _ _ _ _ _ _ _ _ _ _ _ _)) | ((with_reducible apply wpl_storerow); (exact rfl); (exact rfl); infer_instance; infer_instance; (exact rfl); (exact rfl); (exact hone.out); intro wz stz hz) | ((with_reducible apply wpl_storerow); (exact rfl); (exact rfl); infer_instance; infer_instance; (first | (with_reducible assumption) | (with_reducible exact H32.size _) | kernel_rfl); (first | (with_reducible assumption) | (with_reducible exact H32.size _) | kernel_rfl); (first | (with_reducible exact u8s_one _) | (with_reducible assumption) | kernel_rfl); intro ws _ _) | ((with_reducible apply wpl_storecell); (exact rfl); (exact rfl); infer_instance; (exact rfl); (first | (with_reducible assumption) | omega | (focus (simp; done)) | (focus (simp; omega; done)) | decide); intro ws _ _) | ((with_reducible apply (wpl_storehash (t := 23))); (exact rfl); (exact rfl); infer_instance; infer_instance; (first | (with_reducible assumption) | omega | (focus (simp; done)) | (focus (simp; omega; done)) | decide); intro ws _ _) | ((with_reducible apply (wpl_storebyteH (t := 5))); (exact rfl); (exact rfl); infer_instance; (first | (with_reducible assumption) | omega); (first | (with_reducible assumption) | omega); (first | (constructor <;> omega) | exact xor_u8_in _ _); intro ws _ _) | ((with_reducible apply (wpl_storeint (t := 3))); (exact rfl); (exact rfl); infer_instance; (first | (with_reducible assumption) | omega); intro ws _ _) | ((with_reducible apply (wpl_storebyte (t := 5))); (exact rfl); (exact rfl); infer_instance; (first | (with_reducible assumption) | omega | (focus (simp; done)) | (focus (simp; omega; done)) | decide); (constructor <;> omega); intro ws _ _))
  refine wpList_nil ?_
  unfold onlyN
  refine hK_.out _ _ inferInstance (fun _ => ?_)
  clear hK_ K_
  try simp only [Act.put]
  refine wpAnyH_done (by kernel_rfl) ?_ _
  all_goals
    go_wp2_with fail
    refine ret_row rfl rfl (n := 6) rfl rfl ⟨a, b, c, d, A9, c9, rfl, ?_⟩
    exact stepN
end Go.Proofs.YtgjnjhhhbkidbaaGreat
