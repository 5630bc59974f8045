/- RpD, DrS, DrB -/
import Derived.Test.YtmnapacibpnodaaGreatUeRpN
section
open Go Go.RowKit
namespace Go.Proofs.YtmnapacibpnodaaGreat
theorem rp_68 (sd : H32) (p0 p1 : Value) (f : H32) (g v : Int) (x : Value) (suf : List Value) : nth (rpL sd p0 p1 f g v (x :: suf)) 68 = some x := by
  rw [← nth_get]
  exact rp_get68 sd p0 p1 f g v _ 0
theorem rp_set68 (sd : H32) (p0 p1 : Value) (f : H32) (g v : Int) (x y : Value) (suf : List Value) : (rpL sd p0 p1 f g v (x :: suf)).toArray.setIfInBounds 68 y = (rpL sd p0 p1 f g v (y :: suf)).toArray := by
  rw [sA]
  congr 1
  have e1 : ∀ z, rpL sd p0 p1 f g v (z :: suf) = (bs sd.l ++ [p0, p1] ++ bs f.l ++ [Value.int .i64 g, Value.int .i64 v]) ++ (z :: suf) := fun z => by simp [rpL]
  have e2 : (bs sd.l ++ [p0, p1] ++ bs f.l ++ [Value.int .i64 g, Value.int .i64 v]).length = 68 := by simp [bs_length]
  rw [e1, e1, List.set_append_right _ _ (by rw [e2]; exact Nat.le_refl _), e2]
  rfl
theorem rp_lt (sd : H32) (p0 p1 : Value) (f : H32) (g v : Int) (x : Value) (suf : List Value) (h : suf.length = 7) : 68 < (rpL sd p0 p1 f g v (x :: suf)).toArray.size := by
  rw [List.size_toArray, rpL_len _ _ _ _ _ _ _ (by simp [h])]
  decide
/-- what is looked for -/
def keyT (nm ecu : List UInt8) : TargetR := ⟨nm, 0, zeroH, [], 0, ecu⟩
theorem run_keyT (nm ecu : List UInt8) (w : World) : (Instr.build 76 #[(0, .string (strL nm)), (5, .string (strL ecu))]).run Tryz.prog w = .ok (.agg (RowC.enc (keyT nm ecu)).toArray) w := by kernel_rfl
def gzr (z : Nat) (B : Option Addr) : Nat → Prop := fun x => x = z ∨ rowOf B x
instance Sub.gzrA (w : World) (z : Nat) (B : Option Addr) : Sub w (only z) (gzr z B) := ⟨fun _ _ h => .inl h⟩
instance Sub.gzrB (w : World) (z : Nat) (B : Option Addr) : Sub w (rowOf B) (gzr z B) := ⟨fun _ _ h => .inr h⟩
section
variable {sd f : H32} {p0 p1 : Value} {g v : Int} {suf : List Value} {B : Option Addr} {m d : Nat} {T : List TargetR} {zr : Nat} {w : World}
set_option maxRecDepth 100000 in
set_option maxHeartbeats 1600000 in
theorem targetsR_calls [hb : HB w zr 84 (rpL sd p0 p1 f g v (.slice B m d :: suf)).toArray] [ho : HO w 76 37 B m d (cellsOf T)] (hl : T.length = m) (hn : m ≤ 1000000) :
    Calls Tryz.prog 77 #[.pointer (some ⟨zr, 0, none⟩)] w fun e w' => ∃ A' c', e = .returned (.slice A' m c') ∧ Step nowhere w w' ∧ HR w' A' (cellsOf T) ∧ NewA w A' := by
  go_enter Tryz.func77, Tryz.ntmps77
  go_wp2_with (first | ((with_reducible apply (wpl_loadcellN (k := 68))); (exact rfl); (exact hb); (exact rp_68 _ _ _ _ _ _ _ _)))
  refine (cloneR_calls (L := T) hl hn).mono ?_
  rintro e w5 ⟨A', c', rfl, st5, hr5, hn5⟩
  go_wp2_with fail
  go_ret
  exact ⟨A', c', rfl, stepN, hr5, hn5⟩
set_option maxRecDepth 100000 in
set_option maxHeartbeats 1600000 in
theorem placeR_calls (nm ecu : List UInt8) [hb : HB w zr 84 (rpL sd p0 p1 f g v (.slice B m d :: suf)).toArray] [ho : HO w 76 37 B m d (cellsOf T)] (hl : T.length = m) (hn : m ≤ 1000000) (hrise : RiseR T) :
    Calls Tryz.prog 78 #[.pointer (some ⟨zr, 0, none⟩), .string (strL nm), .string (strL ecu)] w fun e w' => ∃ k : Nat, e = .returned (.tuple #[.int .i64 (k : Int), .bool (inR T (keyT nm ecu) k)]) ∧ Hid (PlcR T (keyT nm ecu) k) ∧ Step nowhere w w' := by
  have hrl : HR w B (cellsOf T) := ⟨ho.out.rd⟩
  have HS := Lib.hid hrise
  clear hrise
  go_enter Tryz.func78, Tryz.ntmps78
  go_wp2_with (first | ((with_reducible apply wpl_build); (exact run_keyT _ _ _)) | ((with_reducible apply (wpl_loadcellN (k := 68))); (exact rfl); (exact hb); (exact rp_68 _ _ _ _ _ _ _ _)))
  refine (searchR_calls (keyT nm ecu) hl (by omega) HS.out).mono ?_
  rintro e w5 ⟨k, rfl, hp, st5⟩
  go_wp2_with fail
  go_ret2
  exact ⟨k, rfl, hp, stepN⟩
set_option maxRecDepth 100000 in
set_option maxHeartbeats 1600000 in
theorem publish0_calls (t : TargetR) [hb : HB w zr 84 (rpL sd p0 p1 f g v (.slice B 0 d :: suf)).toArray] [ho : HO w 76 37 B 0 d (cellsOf ([] : List TargetR))] (hoff : OffB (rowOf B) zr) (hsuf : suf.length = 7) (hmay : mayR t = true) :
    Calls Tryz.prog 50 #[.pointer (some ⟨zr, 0, none⟩), .agg (RowC.enc t).toArray] w fun e w' => e = .returned (.int .i64 0) ∧ Step (gzr zr B) w w' ∧ ∃ B' d', HB w' zr 84 (rpL sd p0 p1 f g v (.slice B' 1 d' :: suf)).toArray ∧ HO w' 76 37 B' 1 d' (cellsOf [t]) ∧ Hid (∀ ad, B' = some ad → B' = B ∨ w.heap.size ≤ ad.block) := by
  have hsz : (RowC.enc t).toArray.size = 37 := tgR_len t
  have hon := enc_one t
  have HM := Lib.hid hmay
  have HLT : ∀ x, Hid (68 < (rpL sd p0 p1 f g v (x :: suf)).toArray.size) := fun x => Lib.hid (rp_lt sd p0 p1 f g v x suf hsuf)
  clear hmay
  go_enter Tryz.func50, Tryz.ntmps50
  go_wp2_with (first | ((with_reducible apply (wpl_box_agg (dst := some 3))); (exact rfl); intro zt wzt _ _ _) | ((with_reducible apply (wpl_guard (op := .load _ _))); (exact rfl)) | ((with_reducible apply wpl_loadrow); (exact rfl); infer_instance; infer_instance; (first | (with_reducible assumption) | (with_reducible exact H32.size _) | (with_reducible exact enc_sz _ rfl) | kernel_rfl)))
  have hztw : w.heap.size ≤ zt := Nat.le_of_eq (inferInstance : Born w zt).eq.symm
  have hzrl := hb.out.lt
  have ozt : OffB (gzr zr B) zt := ⟨fun h => by
    rcases h with h | ⟨ad, e, h⟩
    · have h' : zt = zr := h
      omega
    · have := ho.out.lt e
      omega⟩
  refine (rmayBe_calls t _).mono ?_
  rw [HM.out]
  rintro e w5 ⟨rfl, st5⟩
  have ht5 : HB w5 zt 76 (RowC.enc t).toArray := inferInstance
  have hb5 : HB w5 zr 84 (rpL sd p0 p1 f g v (.slice B 0 d :: suf)).toArray := inferInstance
  have ho5 : HO w5 76 37 B 0 d (cellsOf ([] : List TargetR)) := inferInstance
  go_wp2_with (first | ((with_reducible apply (stop_dst (dst := some 17))); (with_reducible apply (wpl_loadcellN (k := 0))); (exact rfl); (exact ht5); (exact tgc_0 _)) | ((with_reducible apply (stop_dst (dst := some 19))); (with_reducible apply (wpl_loadcellN (k := 36))); (exact rfl); (exact ht5); (exact tgc_36 _)))
  refine (placeR_calls (T := []) t.l t.ecu rfl (by decide) (fun i j _ h => by cases h)).mono ?_
  rintro e w6 ⟨k, rfl, hp6, st6⟩
  have hk0 : k = 0 := Nat.le_zero.1 hp6.out.1
  subst hk0
  have ht6 : HB w6 zt 76 (RowC.enc t).toArray := inferInstance
  have hb6 : HB w6 zr 84 (rpL sd p0 p1 f g v (.slice B 0 d :: suf)).toArray := inferInstance
  have ho6 : HO w6 76 37 B 0 d (cellsOf ([] : List TargetR)) := inferInstance
  have hin : inR [] (keyT t.l t.ecu) 0 = false := rfl
  rw [hin]
  go_wp2_with (first | ((with_reducible apply (wpl_loadcellN (k := 68))); (exact rfl); (exact hb6); (exact rp_68 _ _ _ _ _ _ _ _)))
  refine wp_region_N ((gzr zr B)) (by kernel_rfl) (fun wd _ _ => ?_)
  refine' takeH (i := 0) (v := _) rfl (by kernel_rfl) (by kernel_rfl) (by kernel_rfl) (fun _ _ _ h => h) (yields_of (by rfl) (fun w' _ => ?_)) inferInstance ?_
  rotate_left
  · (go_simp; try with_reducible rfl)
  try simp only [Act.put, sA]; try simp only [sB, sC]
  refine' takeH (i := 1) (v := _) rfl (by kernel_rfl) (by kernel_rfl) (by kernel_rfl) (fun _ _ _ h => h) (yields_of (by rfl) (fun w' _ => ?_)) inferInstance ?_
  rotate_left
  · (go_simp; try with_reducible rfl)
  try simp only [Act.put, sA]; try simp only [sB, sC]
  refine' takeH (i := 2) (v := _) rfl (by kernel_rfl) (by kernel_rfl) (by kernel_rfl) (fun _ _ _ h => h) (yields_of (by rfl) (fun w' _ => ?_)) inferInstance ?_
  rotate_left
  · (go_simp; try with_reducible rfl)
  try simp only [Act.put, sA]; try simp only [sB, sC]
  refine' takeH (i := 3) (v := _) rfl (by kernel_rfl) (by kernel_rfl) (by kernel_rfl) (fun _ _ _ h => h) (yields_of (by rfl) (fun w' _ => ?_)) inferInstance ?_
  rotate_left
  · (go_simp; try with_reducible rfl)
  try simp only [Act.put, sA]; try simp only [sB, sC]
  refine' takeH (i := 5) (v := _) rfl (by kernel_rfl) (by kernel_rfl) (by kernel_rfl) (fun _ _ _ h => h) (yields_of (by rfl) (fun w' _ => ?_)) inferInstance ?_
  rotate_left
  · (go_simp; try with_reducible rfl)
  try simp only [Act.put, sA]; try simp only [sB, sC]
  refine' takeH (i := 6) (v := _) rfl (by kernel_rfl) (by kernel_rfl) (by kernel_rfl) (fun _ _ _ h => h) (yields_of (by rfl) (fun w' _ => ?_)) inferInstance ?_
  rotate_left
  · ((with_reducible apply ev_loadrow); (exact rfl); infer_instance; infer_instance; (first | (with_reducible assumption) | (with_reducible exact H32.size _) | (with_reducible exact enc_sz _ rfl) | kernel_rfl))
  try simp only [Act.put, sA]; try simp only [sB, sC]
  refine wpAnyH_ready (rs := [4, 7]) (by kernel_rfl) (by simp) (AllReadyH.cons rfl (fun K_ hK_ => ?_) (AllReadyH.cons rfl (fun K_ hK_ => ?_) AllReadyH.nil))
  focus
    rw [if_pos (by kernel_rfl)]
    refine wpr_of_list ?_
    ((with_reducible apply (wpl_loadcellN (k := 68))); (exact rfl); infer_instance; (exact rp_68 _ _ _ _ _ _ _ _))
    refine wpList_nil ?_
    unfold onlyN
    refine hK_.out _ _ inferInstance (fun _ => ?_)
    clear hK_ K_
    try simp only [Act.put, sA]; try simp only [sB, sC]
    refine goH (i := 7) (by kernel_rfl) rfl (fun K_ hK_ => ?_)
    rw [if_pos (by kernel_rfl)]
    refine wpr_of_list ?_
    ((with_reducible apply (stop_dst (dst := some 44))); (try simp only [Act.put, sA, sB, sC]); ((with_reducible apply (wpl_bslice (dst := some 44))); (exact run_bsR _ _); intro zb wb _ _ _))
    refine wpList_nil ?_
    unfold onlyN
    refine hK_.out _ _ inferInstance (fun _ => ?_)
    clear hK_ K_
    try simp only [Act.put, sA]; try simp only [sB, sC]
    refine goH (i := 8) (by kernel_rfl) rfl (fun K_ hK_ => ?_)
    go_simp
    have hbs : HR wb (some ⟨zb, 0, none⟩) (cellsOf [t]) := HB.cells inferInstance
    refine (insR_calls (L := []) t rfl (by decide)).mono ?_
    rintro e w7 ⟨B', d', rfl, st7, ho7, hg7, hc7⟩
    have hb7 : HB w7 zr 84 (rpL sd p0 p1 f g v (.slice B 0 d :: suf)).toArray := inferInstance
    have szb : w.heap.size ≤ wb.heap.size := (inferInstance : SzLe w wb).out
    have oB7 : OffA (only zr) B' := ⟨fun ad e h => by
      have h' : ad.block = zr := h
      rcases hg7.out with h9 | h9
      · exact hoff.out ⟨ad, by rw [← h9]; exact e, h'⟩
      · rw [h9] at e
        injection e with e
        subst e
        have h2 : wb.heap.size = zr := h'
        omega⟩
    refine hK_.out _ _ inferInstance (fun _ => ?_)
    clear hK_ K_
    try simp only [Act.put, sA]; try simp only [sB, sC]
    refine' takeH (i := 9) (v := _) rfl (by kernel_rfl) (by kernel_rfl) (by kernel_rfl) (fun _ _ _ h => h) (yields_of (by rfl) (fun w' _ => ?_)) inferInstance ?_
    rotate_left
    · (go_simp; try with_reducible rfl)
    try simp only [Act.put, sA]; try simp only [sB, sC]
    refine' takeH (i := 10) (v := _) rfl (by kernel_rfl) (by kernel_rfl) (by kernel_rfl) (fun _ _ _ h => h) (yields_of (by rfl) (fun w' _ => ?_)) inferInstance ?_
    rotate_left
    · (go_simp; try with_reducible rfl)
    try simp only [Act.put, sA]; try simp only [sB, sC]
    refine goH (i := 11) (by kernel_rfl) rfl (fun K_ hK_ => ?_)
    rw [if_pos (by kernel_rfl)]
    refine wpr_of_list ?_
    ((with_reducible apply (wpl_storecell (k := 68))); (exact rfl); (exact rfl); (exact hb7); (exact rfl); (exact (HLT _).out); intro ws _ hwsr)
    refine wpList_nil ?_
    unfold onlyN
    refine hK_.out _ _ inferInstance (fun _ => ?_)
    clear hK_ K_
    try simp only [Act.put]
    refine wpAnyH_done (by kernel_rfl) ?_ _
  rotate_left 1
  focus
    rw [if_pos (by kernel_rfl)]
    refine wpr_of_list ?_
    ((with_reducible apply (stop_dst (dst := some 44))); (try simp only [Act.put, sA, sB, sC]); ((with_reducible apply (wpl_bslice (dst := some 44))); (exact run_bsR _ _); intro zb wb _ _ _))
    refine wpList_nil ?_
    unfold onlyN
    refine hK_.out _ _ inferInstance (fun _ => ?_)
    clear hK_ K_
    try simp only [Act.put, sA]; try simp only [sB, sC]
    refine goH (i := 4) (by kernel_rfl) rfl (fun K_ hK_ => ?_)
    rw [if_pos (by kernel_rfl)]
    refine wpr_of_list ?_
    ((with_reducible apply (wpl_loadcellN (k := 68))); (exact rfl); infer_instance; (exact rp_68 _ _ _ _ _ _ _ _))
    refine wpList_nil ?_
    unfold onlyN
    refine hK_.out _ _ inferInstance (fun _ => ?_)
    clear hK_ K_
    try simp only [Act.put, sA]; try simp only [sB, sC]
    refine goH (i := 8) (by kernel_rfl) rfl (fun K_ hK_ => ?_)
    go_simp
    have hbs : HR wb (some ⟨zb, 0, none⟩) (cellsOf [t]) := HB.cells inferInstance
    refine (insR_calls (L := []) t rfl (by decide)).mono ?_
    rintro e w7 ⟨B', d', rfl, st7, ho7, hg7, hc7⟩
    have hb7 : HB w7 zr 84 (rpL sd p0 p1 f g v (.slice B 0 d :: suf)).toArray := inferInstance
    have szb : w.heap.size ≤ wb.heap.size := (inferInstance : SzLe w wb).out
    have oB7 : OffA (only zr) B' := ⟨fun ad e h => by
      have h' : ad.block = zr := h
      rcases hg7.out with h9 | h9
      · exact hoff.out ⟨ad, by rw [← h9]; exact e, h'⟩
      · rw [h9] at e
        injection e with e
        subst e
        have h2 : wb.heap.size = zr := h'
        omega⟩
    refine hK_.out _ _ inferInstance (fun _ => ?_)
    clear hK_ K_
    try simp only [Act.put, sA]; try simp only [sB, sC]
    refine' takeH (i := 9) (v := _) rfl (by kernel_rfl) (by kernel_rfl) (by kernel_rfl) (fun _ _ _ h => h) (yields_of (by rfl) (fun w' _ => ?_)) inferInstance ?_
    rotate_left
    · (go_simp; try with_reducible rfl)
    try simp only [Act.put, sA]; try simp only [sB, sC]
    refine' takeH (i := 10) (v := _) rfl (by kernel_rfl) (by kernel_rfl) (by kernel_rfl) (fun _ _ _ h => h) (yields_of (by rfl) (fun w' _ => ?_)) inferInstance ?_
    rotate_left
    · (go_simp; try with_reducible rfl)
    try simp only [Act.put, sA]; try simp only [sB, sC]
    refine goH (i := 11) (by kernel_rfl) rfl (fun K_ hK_ => ?_)
    rw [if_pos (by kernel_rfl)]
    refine wpr_of_list ?_
    ((with_reducible apply (wpl_storecell (k := 68))); (exact rfl); (exact rfl); (exact hb7); (exact rfl); (exact (HLT _).out); intro ws _ hwsr)
    refine wpList_nil ?_
    unfold onlyN
    refine hK_.out _ _ inferInstance (fun _ => ?_)
    clear hK_ K_
    try simp only [Act.put]
    refine wpAnyH_done (by kernel_rfl) ?_ _
  rotate_left 1
  all_goals
    have hw2 : HB ws zr 84 (rpL sd p0 p1 f g v (.slice B' 1 d' :: suf)).toArray := by
      rw [← rp_set68 sd p0 p1 f g v (.slice B 0 d)]
      exact hwsr
    have ho8 : HO ws 76 37 B' 1 d' (cellsOf [t]) := inferInstanceAs (HO ws 76 37 B' ([].length + 1) d' (cellsOf ([] ++ [t])))
    go_wp2_with fail
    go_ret
    refine ⟨rfl, stepC, B', d', hw2, ho8, Lib.hid (fun ad e => ?_)⟩
    rcases hg7.out with h9 | h9
    · exact .inl h9
    · rw [h9] at e
      injection e with e
      subst e
      exact .inr szb
end
end Go.Proofs.YtmnapacibpnodaaGreat
end
section
open Go Go.RowKit
namespace Go.Proofs.YtmnapacibpnodaaGreat
theorem cells_part {α : Type} [RowC α] (l : List α) (k j m : Nat) (hk : k < l.length) (hj : j + m ≤ RowC.size α) (vs : List Value) (hv : vs.length = m) (d : α) (hd : RowC.enc d = (RowC.enc (gt l k)).take j ++ vs ++ (RowC.enc (gt l k)).drop (j + m)) :
    (cellsOf l).take (k * RowC.size α + j) ++ vs ++ (cellsOf l).drop (k * RowC.size α + j + m) = cellsOf (l.set k d) := by
  have hlen : (cellsOf l).length = l.length * RowC.size α := cellsOf_len l
  have hkl : k * RowC.size α + RowC.size α ≤ (cellsOf l).length := by rw [hlen, ← Nat.succ_mul]; exact Nat.mul_le_mul_right _ hk
  have hat := cellsOf_at l k hk
  have hset := cellsOf_set l k d hk
  have hlb : (RowC.enc (gt l k)).length = RowC.size α := RowC.len _
  obtain ⟨K, hK⟩ : ∃ K, K = k * RowC.size α := ⟨_, rfl⟩
  obtain ⟨s, hs⟩ : ∃ s, s = RowC.size α := ⟨_, rfl⟩
  rw [← hK] at hkl hset ⊢
  rw [← hs] at hkl hset hlb hj
  have hat' : ((cellsOf l).drop K).take s = RowC.enc (gt l k) := by rw [hK, hs]; exact hat
  obtain ⟨C, hC⟩ : ∃ C, C = cellsOf l := ⟨_, rfl⟩
  rw [← hC] at hkl hset hat' ⊢
  obtain ⟨E, hE⟩ : ∃ E, E = RowC.enc (gt l k) := ⟨_, rfl⟩
  rw [← hE] at hat' hlb hd
  have hdec : C = C.take K ++ (E ++ C.drop (K + s)) := by
    conv => lhs; rw [← List.take_append_drop K C, ← List.take_append_drop s (C.drop K), List.drop_drop]
    rw [hat']
  have hPl : (C.take K).length = K := by rw [List.length_take]; omega
  obtain ⟨Pp, hP⟩ : ∃ Pp, Pp = C.take K := ⟨_, rfl⟩
  obtain ⟨R, hR⟩ : ∃ R, R = C.drop (K + s) := ⟨_, rfl⟩
  rw [← hP] at hPl
  rw [← hset, ← hP, ← hR, hd]
  rw [← hP, ← hR] at hdec
  have t1 : C.take (K + j) = Pp ++ E.take j := by
    rw [hdec, List.take_append, List.take_of_length_le (by omega), show K + j - Pp.length = j by omega, List.take_append_of_le_length (by omega)]
  have t2 : C.drop (K + j + m) = E.drop (j + m) ++ R := by
    rw [hdec, List.drop_append, List.drop_of_length_le (by omega), List.nil_append, show K + j + m - Pp.length = j + m by omega, List.drop_append_of_le_length (by omega)]
  rw [t1, t2]
  simp [List.append_assoc]
section
variable {P : Program} {ops : Array Oper} {rest : List Oper} {a : Act} {w : World} {Q : Exit → Act → World → Prop} {dst : Option Tmp} {ty : TypeId} {pos : String} {after : Array Edge}
/-- one cell of an element of a row of the call's own -/
theorem wpl_storeC {α : Type} [RowC α] {t : TypeId} {x y : Operand} {A : Option Addr} {k j s : Nat} {v : Value} (hx : a.eval x = ptrOf A (k * s + j)) (hy : a.eval y = v) {e : TypeId} {n c : Nat} {l : List α} (ho : HO w e s A n c (cellsOf l)) (ht : CellT P t) (hs : RowC.size α = s) (h1 : v.oneCell' = true) (hk : k < l.length) (hj : j + 1 ≤ s) (d : α) (hd : RowC.enc d = (RowC.enc (gt l k)).take j ++ [v] ++ (RowC.enc (gt l k)).drop (j + 1))
    (h : ∀ w', Step (rowOf A) w w' → HO w' e s A n c (cellsOf (l.set k d)) → wpList P ops Q rest (a.put dst undef) w') : wpList P ops Q (⟨dst, .store t x y, ty, pos, after, none⟩ :: rest) a w := by
  subst hs
  have hlen : (cellsOf l).length = l.length * RowC.size α := cellsOf_len l
  have hkl : k * RowC.size α + RowC.size α ≤ (cellsOf l).length := by rw [hlen, ← Nat.succ_mul]; exact Nat.mul_le_mul_right _ hk
  obtain ⟨g, hA, q1, q2, q3⟩ := own_setCells ho.out (k := k * RowC.size α + j) (cs := [v]) (m := 1) rfl (by omega) (by decide)
  refine wpl_of_unit rfl (w' := w.setCells g (k * RowC.size α + j) [v]) ?_ (h _ ⟨q3⟩ ⟨?_⟩)
  · have hc := q1 0 (by decide)
    have hst := run_store P w ⟨g, k * RowC.size α + j, none⟩ v .plain h1
    have hcs : v.cells = #[v] := by cases v <;> simp_all [Value.oneCell', Value.cells]
    rw [Nat.add_zero] at hc
    obtain ⟨u, hu⟩ := Option.isSome_iff_exists.1 hc.1
    rw [hu, hc.2] at hst
    show ((Instr.storeAt t (a.eval x) (a.eval y)) >>= fun _ => pure Next.skip).run P w = _
    rw [hx, hy, hA]
    simp [Instr.storeAt, Instr.sureAddr, ptrOf, shift_some, add_row, storeVar, hcs, ht.size1 w, storeCells, add_zero_spot, hst, World.setCells]
  · rw [cells_part l k j 1 hk hj [v] rfl d hd] at q2
    exact q2
/-- a part of an element of a row of the call's own -/
theorem wpl_storeQ {α : Type} [RowC α] {t : TypeId} {x y : Operand} {A : Option Addr} {k j s m : Nat} {vs : Array Value} (hx : a.eval x = ptrOf A (k * s + j)) (hy : a.eval y = .agg vs) {e : TypeId} {n c : Nat} {l : List α} (ho : HO w e s A n c (cellsOf l)) (ht : RowT P t m) (hv : vs.size = m) (hm0 : 0 < m) (hone : vs.all (·.oneCell') = true) (hs : RowC.size α = s) (hk : k < l.length) (hj : j + m ≤ s) (d : α) (hd : RowC.enc d = (RowC.enc (gt l k)).take j ++ vs.toList ++ (RowC.enc (gt l k)).drop (j + m))
    (h : ∀ w', Step (rowOf A) w w' → HO w' e s A n c (cellsOf (l.set k d)) → wpList P ops Q rest (a.put dst undef) w') : wpList P ops Q (⟨dst, .store t x y, ty, pos, after, none⟩ :: rest) a w := by
  subst hs
  have hlen : (cellsOf l).length = l.length * RowC.size α := cellsOf_len l
  have hkl : k * RowC.size α + RowC.size α ≤ (cellsOf l).length := by rw [hlen, ← Nat.succ_mul]; exact Nat.mul_le_mul_right _ hk
  obtain ⟨g, hA, q1, q2, q3⟩ := own_setCells ho.out (k := k * RowC.size α + j) (cs := vs.toList) (m := m) (by simpa using hv) (by omega) hm0
  refine wpl_of_unit rfl (w' := w.setCells g (k * RowC.size α + j) vs.toList) ?_ (h _ ⟨q3⟩ ⟨?_⟩)
  · show ((Instr.storeAt t (a.eval x) (a.eval y)) >>= fun _ => pure Next.skip).run P w = _
    rw [hx, hy, Sem.run_bind, hA, ptrOf, shift_some, Addr.add_mid, Nat.zero_add, run_storeAt_mid (P := P) w g (k * RowC.size α + j) t vs (by rw [hv]; exact q1) (by rw [hv]; exact ht.size) hone]
    rfl
  · rw [cells_part l k j m hk hj vs.toList (by simpa using hv) d hd] at q2
    exact q2
end
end Go.Proofs.YtmnapacibpnodaaGreat
end
section
open Go Go.RowKit
namespace Go.Proofs.YtmnapacibpnodaaGreat
/-- what a director is -/
structure DS where
  A : Option Addr
  n : Nat
  c : Nat
  L : List EnrR
  sd : H32
  p0 : Value
  p1 : Value
  f : H32
  g : Int
  v : Int
  suf : List Value
  B : Option Addr
  m : Nat
  d : Nat
  T : List TargetR
structure DrAt (w0 w : World) (zd zr : Nat) (s : DS) : Prop where
  hd : HB w zd 50 #[.pointer (some ⟨zr, 0, none⟩), .slice s.A s.n s.c]
  ha : HO w 59 71 s.A s.n s.c (cellsOf s.L)
  hl : s.L.length = s.n
  hr : HB w zr 84 (rpL s.sd s.p0 s.p1 s.f s.g s.v (.slice s.B s.m s.d :: s.suf)).toArray
  hb : HO w 76 37 s.B s.m s.d (cellsOf s.T)
  hm : s.T.length = s.m
  hs : s.suf.length = 7
  zz : zd ≠ zr
  az : ∀ ad, s.A = some ad → ad.block ≠ zd ∧ ad.block ≠ zr ∧ ∀ bd, s.B = some bd → ad.block ≠ bd.block
  bz : ∀ bd, s.B = some bd → bd.block ≠ zd ∧ bd.block ≠ zr
  ld : w0.heap.size ≤ zd
  lr : w0.heap.size ≤ zr
  la : NewA w0 s.A
  lb : NewA w0 s.B
instance cellRp : CellT Tryz.prog 46 := ⟨fun _ => by kernel_rfl, fun _ => by kernel_rfl⟩
theorem run_newDr (a : Option Addr) (w : World) : (Instr.build 50 #[(0, .pointer a)]).run Tryz.prog w = .ok (.agg #[.pointer a, .slice none 0 0]) w := by kernel_rfl
/-- a director that is new -/
def DS.new (sd : H32) (z0 z1 : Nat) : DS := ⟨none, 0, 0, [], sd, .pointer (some ⟨z0, 0, none⟩), .pointer (some ⟨z1, 0, none⟩), pubS (kSeed sd 1), 1, 0, rpSuf, none, 0, 0, []⟩
set_option maxRecDepth 100000 in
set_option maxHeartbeats 1600000 in
theorem dirNew_calls (sd : H32) (w : World) :
    Calls Tryz.prog 4 #[.agg (u8s sd.l)] w fun e w' => ∃ zd zr z0 z1, e = .returned (.pointer (some ⟨zd, 0, none⟩)) ∧ Step nowhere w w' ∧ DrAt w w' zd zr (DS.new sd z0 z1) := by
  go_enter Tryz.func4, Tryz.ntmps4
  go_wp2_with (first | ((with_reducible apply (wpl_box_agg (dst := some 1))); (exact rfl); intro zs wzs _ _ _) | ((with_reducible apply wpl_loadrow); (exact rfl); infer_instance; infer_instance; (first | (with_reducible assumption) | (with_reducible exact H32.size _) | (with_reducible exact enc_sz _ rfl) | kernel_rfl)))
  refine (repoNew_calls sd _).mono ?_
  rintro e w5 ⟨zr, z0, z1, rfl, st5, hn, hr, hk0, hk1⟩
  have kb := run_newDr (some ⟨zr, 0, none⟩)
  have hs1 : w.heap.size ≤ wzs.heap.size := (inferInstance : SzLe w wzs).out
  have hs2 : w.heap.size ≤ zr := Nat.le_trans hs1 hn.out.1
  have hs5 : w.heap.size ≤ w5.heap.size := (inferInstance : SzLe w w5).out
  have hzl := hr.out.lt
  go_wp2_with (first | ((with_reducible apply wpl_build); (exact kb _)) | ((with_reducible apply (wpl_box_agg (dst := some 6))); (exact rfl); intro zd wzd _ _ _))
  have hzd : w5.heap.size ≤ zd := Nat.le_of_eq (inferInstance : Born w5 zd).eq.symm
  go_ret
  refine ⟨zd, zr, z0, z1, rfl, stepN, ?_⟩
  exact ⟨inferInstance, ⟨Own.nil _ _ _⟩, rfl, (inferInstance : HB _ zr 84 _), ⟨Own.nil _ _ _⟩, rfl, rfl, (by omega), (fun _ h => by cases h), (fun _ h => by cases h), (by omega), hs2, newA_none _, newA_none _⟩
set_option maxRecDepth 100000 in
set_option maxHeartbeats 1600000 in
theorem placeE_calls {zd : Nat} {p : Value} {A : Option Addr} {n c : Nat} {L : List EnrR} (nm : List UInt8) {w : World} [hd : HB w zd 50 #[p, .slice A n c]] [ha : HO w 59 71 A n c (cellsOf L)] (hl : L.length = n) (hn : n ≤ 1000000) (hrise : RiseE L) :
    Calls Tryz.prog 16 #[.pointer (some ⟨zd, 0, none⟩), .string (strL nm)] w fun e w' => ∃ k : Nat, e = .returned (.tuple #[.int .i64 (k : Int), .bool (inE L nm k)]) ∧ Hid (PlcE L nm k) ∧ Step nowhere w w' := by
  have hrl : HR w A (cellsOf L) := ⟨ha.out.rd⟩
  have HS := Lib.hid hrise
  clear hrise
  go_enter Tryz.func16, Tryz.ntmps16
  go_wp2_with (first | ((with_reducible apply wpl_loadcellN); (exact rfl); infer_instance; (exact rfl)))
  refine (searchE_calls nm hl (by omega) HS.out).mono ?_
  rintro e w5 ⟨k, rfl, hp, st5⟩
  go_wp2_with fail
  go_ret2
  exact ⟨k, rfl, hp, stepN⟩
set_option maxRecDepth 100000 in
set_option maxHeartbeats 1600000 in
theorem dirRepo_calls {zd zr : Nat} {v : Value} {w : World} [hd : HB w zd 50 #[.pointer (some ⟨zr, 0, none⟩), v]] :
    Calls Tryz.prog 76 #[.pointer (some ⟨zd, 0, none⟩)] w fun e w' => e = .returned (.pointer (some ⟨zr, 0, none⟩)) ∧ w' = w := by
  go_enter Tryz.func76, Tryz.ntmps76
  go_wp2_with (first | ((with_reducible apply wpl_loadcellN); (exact rfl); infer_instance; (exact rfl)))
  go_ret
  exact ⟨rfl, rfl⟩
end Go.Proofs.YtmnapacibpnodaaGreat
end
