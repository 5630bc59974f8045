/- RpN, RpD, DrS, RpE, RlB, RlC, RlM, RlD, RsB, RsC, RsD -/
import Derived.Test.YtgjnjhhhbkidbaaGreatUdRsA
import Derived.Test.YtgjnjhhhbkidbaaGreatUdWsB
import Derived.Test.YtgjnjhhhbkidbaaGreatUdRlA
import Derived.ArgAppend
section
open Go Go.RowKit
namespace Go.Proofs.YtgjnjhhhbkidbaaGreat
instance cellKp : CellT Tryz.prog 70 := ⟨fun _ => by kernel_rfl, fun _ => by kernel_rfl⟩
instance rowTRp : RowT Tryz.prog 73 76 := ⟨by kernel_rfl, _, Tryz.underlying73, rfl⟩
theorem rp_33 (sd : H32) (p0 p1 : Value) (f : H32) (g v : Int) (tl : List Value) : nth (rpL sd p0 p1 f g v tl) 33 = some p1 := by
  rw [← nth_get]
  exact rp_get32 sd p0 p1 f g v tl 1
theorem rp_put34 (sd : H32) (p0 p1 : Value) (f f' : H32) (g v : Int) (tl : List Value) : (rpL sd p0 p1 f g v tl).toArray.toList.take 34 ++ (u8s f'.l).toList ++ (rpL sd p0 p1 f g v tl).toArray.toList.drop (34 + 32) = (rpL sd p0 p1 f' g v tl).toArray.toList := by
  have h := congrArg Array.toList (lay_rp34 sd p0 p1 f f' g v tl)
  rw [lay, f'.size] at h
  exact h
theorem rp_k34 (sd : H32) (p0 p1 : Value) (f : H32) (g v : Int) (tl : List Value) (h : tl.length = 8) : 34 + 32 ≤ (rpL sd p0 p1 f g v tl).toArray.size := by
  rw [List.size_toArray, rpL_len _ _ _ _ _ _ _ h]
  decide
set_option maxRecDepth 100000 in
set_option maxHeartbeats 1600000 in
theorem repoNew_calls (sd : H32) (w : World) :
    Calls Tryz.prog 7 #[.agg (u8s sd.l)] w fun e w' => ∃ zr z0 z1, e = .returned (.pointer (some ⟨zr, 0, none⟩)) ∧ Step nowhere w w' ∧ Hid (w.heap.size ≤ zr ∧ w.heap.size ≤ z0 ∧ w.heap.size ≤ z1 ∧ z0 ≠ zr ∧ z1 ≠ zr ∧ z0 ≠ z1) ∧ HB w' zr 73 (rpL sd (.pointer (some ⟨z0, 0, none⟩)) (.pointer (some ⟨z1, 0, none⟩)) (pubS (kSeed sd 1)) 1 0 rpTl).toArray ∧ KeyAt w' z0 (kSeed sd 0) 0 ∧ KeyAt w' z1 (kSeed sd 1) 0 := by
  go_enter Tryz.func7, Tryz.ntmps7
  go_wp2_with (first | ((with_reducible apply (wpl_box_agg (dst := some 1))); (exact rfl); intro zs wzs _ _ _))
  have hS : HB wzs zs 23 (u8s sd.l) := inferInstance
  have hsl := hS.out.lt
  have hnw : Nw w wzs := ⟨(stepN (w0 := w) (w := wzs)).chg⟩
  refine wp_region_N (nowhere) (by kernel_rfl) (fun wd _ _ => ?_)
  refine' takeH (i := 0) (v := _) rfl (by kernel_rfl) (by kernel_rfl) (by kernel_rfl) (fun _ _ _ h => h) (yields_of (by rfl) (fun w' _ => ?_)) inferInstance ?_
  rotate_left
  · ((with_reducible apply ev_loadrow); (exact rfl); infer_instance; infer_instance; (first | (with_reducible assumption) | (with_reducible exact H32.size _) | kernel_rfl))
  try simp only [Act.put, sA]; try simp only [sB, sC]
  refine' takeH (i := 1) (v := _) rfl (by kernel_rfl) (by kernel_rfl) (by kernel_rfl) (fun _ _ _ h => h) (yields_of (by rfl) (fun w' _ => ?_)) inferInstance ?_
  rotate_left
  · ((with_reducible apply ev_loadrow); (exact rfl); infer_instance; infer_instance; (first | (with_reducible assumption) | (with_reducible exact H32.size _) | kernel_rfl))
  try simp only [Act.put, sA]; try simp only [sB, sC]
  refine' takeH (i := 3) (v := _) rfl (by kernel_rfl) (by kernel_rfl) (by kernel_rfl) (fun _ _ _ h => h) (yields_of (by rfl) (fun w' _ => ?_)) inferInstance ?_
  rotate_left
  · ((with_reducible apply ev_loadrow); (exact rfl); infer_instance; infer_instance; (first | (with_reducible assumption) | (with_reducible exact H32.size _) | kernel_rfl))
  try simp only [Act.put, sA]; try simp only [sB, sC]
  refine goH (i := 2) (by kernel_rfl) rfl (fun K_ hK_ => ?_)
  go_simp
  refine (keyOf_calls sd 0 _).mono ?_
  rintro e w5 ⟨z0, rfl, st5, hz0, hk0⟩
  refine hK_.out _ _ inferInstance (fun _ => ?_)
  clear hK_ K_
  try simp only [Act.put, sA]; try simp only [sB, sC]
  refine goH (i := 4) (by kernel_rfl) rfl (fun K_ hK_ => ?_)
  go_simp
  refine (keyOf_calls sd 1 _).mono ?_
  rintro e w6 ⟨z1, rfl, st6, hz1, hk1⟩
  refine hK_.out _ _ inferInstance (fun _ => ?_)
  clear hK_ K_
  try simp only [Act.put, sA]; try simp only [sB, sC]
  refine' takeH (i := 5) (v := _) rfl (by kernel_rfl) (by kernel_rfl) (by kernel_rfl) (fun _ _ _ h => h) (yields_of (by rfl) (fun w' _ => ?_)) inferInstance ?_
  rotate_left
  · ((with_reducible apply ev_build); exact run_newRp _ _ _ _)
  try simp only [Act.put, sA]; try simp only [sB, sC]
  refine goH (i := 6) (by kernel_rfl) rfl (fun K_ hK_ => ?_)
  rw [if_pos (by kernel_rfl)]
  refine wpr_of_list ?_
  (first | ((with_reducible apply wpl_build); (exact run_newRp _ _ _ _)) | ((with_reducible apply (wpl_box_agg (dst := some 10))); (exact rfl); intro zr wzr _ _ _) | ((with_reducible apply (wpl_box_int (dst := some 10))); (exact rfl); intro zr wzr _ _ _) | ((with_reducible apply (wpl_box_slice (dst := some 10))); (exact rfl); intro zr wzr _ _ _) | ((with_reducible apply (wpl_box_str (dst := some 10))); (exact rfl); intro zr wzr _ _ _) | ((with_reducible apply (wpl_box_bool (dst := some 10))); (exact rfl); intro zr wzr _ _ _) | ((with_reducible apply (wpl_box_ptr (dst := some 10))); (exact rfl); intro zr wzr _ _ _) | ((with_reducible apply wpl_box_agg); (exact rfl); intro z wz _ _ _) | ((with_reducible apply wpl_box_int); (exact rfl); intro z wz _ _ _) | ((with_reducible apply wpl_box_slice); (exact rfl); intro z wz _ _ _) | ((with_reducible apply wpl_box_str); (exact rfl); intro z wz _ _ _) | ((with_reducible apply wpl_box_bool); (exact rfl); intro z wz _ _ _) | ((with_reducible apply wpl_box_ptr); (exact rfl); intro z wz _ _ _))
  refine wpList_nil ?_
  unfold onlyN
  refine hK_.out _ _ inferInstance (fun _ => ?_)
  clear hK_ K_
  try simp only [Act.put, sA]; try simp only [sB, sC]
  refine' takeH (i := 7) (v := _) rfl (by kernel_rfl) (by kernel_rfl) (by kernel_rfl) (fun _ _ _ h => h) (yields_of (by rfl) (fun w' _ => ?_)) inferInstance ?_
  rotate_left
  · (go_simp; try with_reducible rfl)
  try simp only [Act.put, sA]; try simp only [sB, sC]
  refine wpAnyH_done (by kernel_rfl) ?_ _
  have hR6 : HB wzr zr 73 (rpL sd (.pointer (some ⟨z0, 0, none⟩)) (.pointer (some ⟨z1, 0, none⟩)) zeroH 1 0 rpTl).toArray := inferInstance
  have s0 : w.heap.size ≤ wzs.heap.size := hnw.out.size
  have s1 : wzs.heap.size ≤ wd.heap.size := (inferInstance : SzLe wzs wd).out
  have s5 : wd.heap.size ≤ w5.heap.size := st5.chg.size
  have s6 : w5.heap.size ≤ w6.heap.size := st6.chg.size
  have b0 := hz0.out
  have b1 := hz1.out
  have l0 := hk0.lt
  have l1 := hk1.lt
  have br : w6.heap.size ≤ zr := Nat.le_of_eq (inferInstance : Born w6 zr).eq.symm
  have o1 : OffB (only z1) zr := ⟨fun e => by have e' : zr = z1 := e; omega⟩
  have o2 : OffB (only zr) z0 := ⟨fun e => by have e' : z0 = zr := e; omega⟩
  have o3 : OffB (only zr) z1 := ⟨fun e => by have e' : z1 = zr := e; omega⟩
  have o4 : OffB (only z1) z0 := ⟨fun e => by have e' : z0 = z1 := e; omega⟩
  have ab1 : Above w (only z1) := ⟨fun k h => by have h' : k = z1 := h; omega⟩
  have abr : Above w (only zr) := ⟨fun k h => by have h' : k = zr := h; omega⟩
  have hk0r : KeyAt wzr z0 (kSeed sd 0) 0 := inferInstance
  have hk1r : KeyAt wzr z1 (kSeed sd 1) 0 := inferInstance
  have nwr : Nw w wzr := inferInstance
  have HPUT := Lib.hid (rp_put34 sd (.pointer (some ⟨z0, 0, none⟩)) (.pointer (some ⟨z1, 0, none⟩)) zeroH (pubS (kSeed sd 1)) 1 0 rpTl)
  have HK34 := Lib.hid (rp_k34 sd (.pointer (some ⟨z0, 0, none⟩)) (.pointer (some ⟨z1, 0, none⟩)) zeroH 1 0 rpTl rfl)
  have HN : Hid (w.heap.size ≤ zr ∧ w.heap.size ≤ z0 ∧ w.heap.size ≤ z1 ∧ z0 ≠ zr ∧ z1 ≠ zr ∧ z0 ≠ z1) := Lib.hid ⟨by omega, by omega, by omega, by omega, by omega, by omega⟩
  clear hk0 hk1 st5 st6 hz0 hz1 s0 s1 s5 s6 b0 b1 l0 l1 br hS hsl
  go_wp2_with (first | ((with_reducible apply (wpl_loadcellN (k := 33))); (exact rfl); (exact hR6); (exact rp_33 _ _ _ _ _ _ _)))
  refine (kpublic_calls (zk := z1) (seed := kSeed sd 1) (used := 0)).mono ?_
  rintro e w7 ⟨rfl, st7, hk7⟩
  have hR7 : HB w7 zr 73 (rpL sd (.pointer (some ⟨z0, 0, none⟩)) (.pointer (some ⟨z1, 0, none⟩)) zeroH 1 0 rpTl).toArray := inferInstance
  have hk07 : KeyAt w7 z0 (kSeed sd 0) 0 := inferInstance
  have nw7 : Nw w w7 := inferInstance
  clear hR6 hk0r hk1r
  go_wp2_with (first | ((with_reducible apply wpl_storepart); (exact rfl); (exact rfl); (exact hR7); infer_instance; (exact H32.size _); (decide); (exact HK34.out); (exact (u8s_one _)); (exact HPUT.out); intro wp stp htp))
  have k0 : KeyAt wp z0 (kSeed sd 0) 0 := inferInstance
  have k1 : KeyAt wp z1 (kSeed sd 1) 0 := inferInstance
  go_ret
  exact ⟨zr, z0, z1, rfl, stepN, HN, htp, k0, k1⟩
end Go.Proofs.YtgjnjhhhbkidbaaGreat
end
section
open Go Go.RowKit
namespace Go.Proofs.YtgjnjhhhbkidbaaGreat
theorem rp_68 (sd : H32) (p0 p1 : Value) (f : H32) (g v : Int) (x : Value) (suf : List Value) : nth (rpL sd p0 p1 f g v (x :: suf)) 68 = some x := by
  rw [← nth_get]
  exact rp_get68 sd p0 p1 f g v _ 0
/-- what is looked for -/
def keyT (nm ecu : List UInt8) : TargetR := ⟨nm, 0, zeroH, [], 0, ecu⟩
def gzr (z : Nat) (B : Option Addr) : Nat → Prop := fun x => x = z ∨ rowOf B x
instance Sub.gzrA (w : World) (z : Nat) (B : Option Addr) : Sub w (only z) (gzr z B) := ⟨fun _ _ h => .inl h⟩
instance Sub.gzrB (w : World) (z : Nat) (B : Option Addr) : Sub w (rowOf B) (gzr z B) := ⟨fun _ _ h => .inr h⟩
section
variable {sd f : H32} {p0 p1 : Value} {g v : Int} {suf : List Value} {B : Option Addr} {m d : Nat} {T : List TargetR} {zr : Nat} {w : World}
end
end Go.Proofs.YtgjnjhhhbkidbaaGreat
end
section
open Go Go.RowKit
namespace Go.Proofs.YtgjnjhhhbkidbaaGreat
theorem cells_part {α : Type} [RowC α] (l : List α) (k j m : Nat) (hk : k < l.length) (hj : j + m ≤ RowC.size α) (vs : List Value) (hv : vs.length = m) (d : α) (hd : RowC.enc d = (RowC.enc (gt l k)).take j ++ vs ++ (RowC.enc (gt l k)).drop (j + m)) :
    (cellsOf l).take (k * RowC.size α + j) ++ vs ++ (cellsOf l).drop (k * RowC.size α + j + m) = cellsOf (l.set k d) := by
  have hlen : (cellsOf l).length = l.length * RowC.size α := cellsOf_len l
  have hkl : k * RowC.size α + RowC.size α ≤ (cellsOf l).length := by rw [hlen, ← Nat.succ_mul]; exact Nat.mul_le_mul_right _ hk
  have hat := cellsOf_at l k hk
  have hset := cellsOf_set l k d hk
  have hlb : (RowC.enc (gt l k)).length = RowC.size α := RowC.len _
  obtain ⟨K, hK⟩ : ∃ K, K = k * RowC.size α := ⟨_, rfl⟩
  obtain ⟨s, hs⟩ : ∃ s, s = RowC.size α := ⟨_, rfl⟩
  rw [← hK] at hkl hset ⊢
  rw [← hs] at hkl hset hlb hj
  have hat' : ((cellsOf l).drop K).take s = RowC.enc (gt l k) := by rw [hK, hs]; exact hat
  obtain ⟨C, hC⟩ : ∃ C, C = cellsOf l := ⟨_, rfl⟩
  rw [← hC] at hkl hset hat' ⊢
  obtain ⟨E, hE⟩ : ∃ E, E = RowC.enc (gt l k) := ⟨_, rfl⟩
  rw [← hE] at hat' hlb hd
  have hdec : C = C.take K ++ (E ++ C.drop (K + s)) := by
    conv => lhs; rw [← List.take_append_drop K C, ← List.take_append_drop s (C.drop K), List.drop_drop]
    rw [hat']
  have hPl : (C.take K).length = K := by rw [List.length_take]; omega
  obtain ⟨Pp, hP⟩ : ∃ Pp, Pp = C.take K := ⟨_, rfl⟩
  obtain ⟨R, hR⟩ : ∃ R, R = C.drop (K + s) := ⟨_, rfl⟩
  rw [← hP] at hPl
  rw [← hset, ← hP, ← hR, hd]
  rw [← hP, ← hR] at hdec
  have t1 : C.take (K + j) = Pp ++ E.take j := by
    rw [hdec, List.take_append, List.take_of_length_le (by omega), show K + j - Pp.length = j by omega, List.take_append_of_le_length (by omega)]
  have t2 : C.drop (K + j + m) = E.drop (j + m) ++ R := by
    rw [hdec, List.drop_append, List.drop_of_length_le (by omega), List.nil_append, show K + j + m - Pp.length = j + m by omega, List.drop_append_of_le_length (by omega)]
  rw [t1, t2]
  simp [List.append_assoc]
section
variable {P : Program} {ops : Array Oper} {rest : List Oper} {a : Act} {w : World} {Q : Exit → Act → World → Prop} {dst : Option Tmp} {ty : TypeId} {pos : String} {after : Array Edge}
/-- one cell of an element of a row of the call's own -/
theorem wpl_storeC {α : Type} [RowC α] {t : TypeId} {x y : Operand} {A : Option Addr} {k j s : Nat} {v : Value} (hx : a.eval x = ptrOf A (k * s + j)) (hy : a.eval y = v) {e : TypeId} {n c : Nat} {l : List α} (ho : HO w e s A n c (cellsOf l)) (ht : CellT P t) (hs : RowC.size α = s) (h1 : v.oneCell' = true) (hk : k < l.length) (hj : j + 1 ≤ s) (d : α) (hd : RowC.enc d = (RowC.enc (gt l k)).take j ++ [v] ++ (RowC.enc (gt l k)).drop (j + 1))
    (h : ∀ w', Step (rowOf A) w w' → HO w' e s A n c (cellsOf (l.set k d)) → wpList P ops Q rest (a.put dst undef) w') : wpList P ops Q (⟨dst, .store t x y, ty, pos, after, none⟩ :: rest) a w := by
  subst hs
  have hlen : (cellsOf l).length = l.length * RowC.size α := cellsOf_len l
  have hkl : k * RowC.size α + RowC.size α ≤ (cellsOf l).length := by rw [hlen, ← Nat.succ_mul]; exact Nat.mul_le_mul_right _ hk
  obtain ⟨g, hA, q1, q2, q3⟩ := own_setCells ho.out (k := k * RowC.size α + j) (cs := [v]) (m := 1) rfl (by omega) (by decide)
  refine wpl_of_unit rfl (w' := w.setCells g (k * RowC.size α + j) [v]) ?_ (h _ ⟨q3⟩ ⟨?_⟩)
  · have hc := q1 0 (by decide)
    have hst := run_store P w ⟨g, k * RowC.size α + j, none⟩ v .plain h1
    have hcs : v.cells = #[v] := by cases v <;> simp_all [Value.oneCell', Value.cells]
    rw [Nat.add_zero] at hc
    obtain ⟨u, hu⟩ := Option.isSome_iff_exists.1 hc.1
    rw [hu, hc.2] at hst
    show ((Instr.storeAt t (a.eval x) (a.eval y)) >>= fun _ => pure Next.skip).run P w = _
    rw [hx, hy, hA]
    simp [Instr.storeAt, Instr.sureAddr, ptrOf, shift_some, add_row, storeVar, hcs, ht.size1 w, storeCells, add_zero_spot, hst, World.setCells]
  · rw [cells_part l k j 1 hk hj [v] rfl d hd] at q2
    exact q2
end
end Go.Proofs.YtgjnjhhhbkidbaaGreat
end
section
open Go Go.RowKit
namespace Go.Proofs.YtgjnjhhhbkidbaaGreat
section
variable {ops : Array Oper} {rest : List Oper} {a : Act} {w : World} {Q : Exit → Act → World → Prop} {dst : Option Tmp} {ty : TypeId} {pos : String} {after : Array Edge}
end
section
variable {ops : Array Oper} {rest : List Oper} {a : Act} {w : World} {Q : Exit → Act → World → Prop} {dst : Option Tmp} {ty : TypeId} {pos : String} {after : Array Edge}
end
end Go.Proofs.YtgjnjhhhbkidbaaGreat
end
section
open Go Go.RowKit
namespace Go.Proofs.YtgjnjhhhbkidbaaGreat
/-- one target among the others -/
def insT (L : List TargetR) (k : Nat) (r : TargetR) : List TargetR := L.take k ++ r :: L.drop k
end Go.Proofs.YtgjnjhhhbkidbaaGreat
end
section
open Go Go.RowKit
namespace Go.Proofs.YtgjnjhhhbkidbaaGreat
/-- one target taken away -/
def delT (L : List TargetR) (k : Nat) : List TargetR := L.take k ++ L.drop (k + 1)
section
variable {P : Program} {ops : Array Oper} {rest : List Oper} {a : Act} {w : World} {Q : Exit → Act → World → Prop} {dst : Option Tmp} {ty : TypeId} {pos : String} {after : Array Edge}
end
section
variable {ops : Array Oper} {rest : List Oper} {a : Act} {w : World} {Q : Exit → Act → World → Prop} {dst : Option Tmp} {ty : TypeId} {pos : String} {after : Array Edge}
end
end Go.Proofs.YtgjnjhhhbkidbaaGreat
end
section
open Go Go.RowKit
namespace Go.Proofs.YtgjnjhhhbkidbaaGreat
theorem riseT_of {T : List TargetR} (h : RiseR T) : ∀ n, n ≤ T.length → riseT T n = true
  | 0, _ => rfl
  | n + 1, hn => by
    rw [riseT, riseT_of h n (by omega), Bool.true_and]
    by_cases e : n = 0
    · simp [e]
    · rw [h (n - 1) n (by omega) (by omega)]
      simp
theorem mayR_ok {t : TargetR} (h : mayR t = true) : tgOk t = true := by
  unfold mayR tgsOk at h
  simp only [Bool.and_eq_true, List.all_cons] at h
  exact h.1.1.1.1.2.1
theorem tgsOk_of {T : List TargetR} {v x : Int} (h : RiseR T) (h1 : ∀ t ∈ T, mayR t = true) (h2 : T.length ≤ 16) (h3 : verB v = true) (h4 : numB x = true) : tgsOk mayL v x T [] = true := by
  unfold tgsOk
  rw [h3, h4, riseT_of h _ (Nat.le_refl _), decide_eq_true h2, List.all_eq_true.2 (fun t ht => mayR_ok (h1 t ht))]
  rfl
end Go.Proofs.YtgjnjhhhbkidbaaGreat
end
section
open Go Go.RowKit
namespace Go.Proofs.YtgjnjhhhbkidbaaGreat
/-- what Publish answers, and what is there behind it -/
def pubR (T : List TargetR) (t : TargetR) (k : Nat) : Int × List TargetR := if mayR t then (if inR T (keyT t.l t.ecu) k then (0, T.set k t) else if 16 ≤ T.length then (12, T) else (0, insT T k t)) else (1, T)
section
variable {sd f : H32} {p0 p1 : Value} {g v : Int} {suf : List Value} {B : Option Addr} {m d : Nat} {T : List TargetR} {zr : Nat} {w : World}
/-- what Remove answers, and what is there behind it -/
def remR (T : List TargetR) (nm ecu : List UInt8) (k : Nat) : Int × List TargetR := if inR T (keyT nm ecu) k then (0, delT T k) else (9, T)
end
end Go.Proofs.YtgjnjhhhbkidbaaGreat
end
section
open Go Go.RowKit
namespace Go.Proofs.YtgjnjhhhbkidbaaGreat
abbrev MkV := H32 × Int × List H32 × List H32
def MarkR.mv (r : MarkR) : MkV := (r.key, r.leaf, r.l, r.p)
/-- an envelope as it stands -/
def EvV (w : World) (m : List UInt8) (P : List MkV) (v0 v1 : Value) : Prop := ∃ (M : Option Addr) (nb cb : Nat) (A : Option Addr) (n c : Nat) (l : List MarkR), v0 = .slice M nb cb ∧ v1 = .slice A n c ∧ Rd w M (bs m) ∧ m.length = nb ∧ nb ≤ 100000 ∧ Rd w A (cellsOf l) ∧ l.length = n ∧ n ≤ 100000 ∧ l.map MarkR.mv = P ∧ ∀ x ∈ l, MarkIn w x ∧ x.l.length ≤ 100000 ∧ x.p.length ≤ 100000
theorem MarkIn.chgS {w w' : World} {r : MarkR} {S : Nat → Prop} (h : MarkIn w r) (c : Chg S w w') (ha : ∀ ad, r.A = some ad → ¬ S ad.block) (hb : ∀ ad, r.B = some ad → ¬ S ad.block) : MarkIn w' r := ⟨h.1.chg c (fun _ ad e => ha ad e), h.2.chg c (fun _ ad e => hb ad e)⟩
theorem EvV.nw {w w' : World} {m : List UInt8} {P : List MkV} {v0 v1 : Value} (h : EvV w m P v0 v1) (c : Chg nowhere w w') : EvV w' m P v0 v1 := by
  obtain ⟨M, nb, cb, A, n, c1, l, e0, e1, h1, h2, h3, h4, h5, h6, h7, h8⟩ := h
  exact ⟨M, nb, cb, A, n, c1, l, e0, e1, h1.chg c (fun _ _ _ h => h), h2, h3, h4.chg c (fun _ _ _ h => h), h5, h6, h7, fun x hx => ⟨(h8 x hx).1.chgS c (fun _ _ h => h) (fun _ _ h => h), (h8 x hx).2⟩⟩
instance cellMks : CellT Tryz.prog 30 := ⟨fun _ => by kernel_rfl, fun _ => by kernel_rfl⟩
instance cellHsR : CellT Tryz.prog 89 := ⟨fun _ => by kernel_rfl, fun _ => by kernel_rfl⟩
instance cellBsR : CellT Tryz.prog 29 := ⟨fun _ => by kernel_rfl, fun _ => by kernel_rfl⟩
instance rowTEvR : RowT Tryz.prog 32 2 := ⟨by kernel_rfl, _, Tryz.underlying32, rfl⟩
instance zeroTEvR : ZeroT Tryz.prog 32 #[.slice none 0 0, .slice none 0 0] := ⟨.agg #[.slice none 0 0, .slice none 0 0], fun _ => by kernel_rfl, rfl⟩
instance rowTMkR : RowT Tryz.prog 133 35 := ⟨by kernel_rfl, _, Tryz.underlying133, rfl⟩
def zeroMkR : Array Value := u8s zeroH.l ++ #[.int .i64 0, .slice none 0 0, .slice none 0 0]
instance zeroTMkR : ZeroT Tryz.prog 133 zeroMkR := ⟨.agg zeroMkR, fun _ => by kernel_rfl, rfl⟩
theorem mkv_chains (r : MarkR) : nth (RowC.enc r) (32 + 1) = some (.slice r.A r.l.length r.c) := by
  rw [← nth_get]
  show (bs r.key.l ++ r.sig)[33]? = _
  rw [List.getElem?_append_right (by rw [bs_length, r.key.len]; decide), bs_length, r.key.len]
  rfl
theorem mkv_path (r : MarkR) : nth (RowC.enc r) (32 + 2) = some (.slice r.B r.p.length r.k) := by
  rw [← nth_get]
  show (bs r.key.l ++ r.sig)[34]? = _
  rw [List.getElem?_append_right (by rw [bs_length, r.key.len]; decide), bs_length, r.key.len]
  rfl
def MarkR.setC (r : MarkR) (A : Option Addr) (c : Nat) : MarkR := ⟨r.key, r.leaf, A, c, r.l, r.B, r.k, r.p⟩
def MarkR.setB (r : MarkR) (B : Option Addr) (k : Nat) : MarkR := ⟨r.key, r.leaf, r.A, r.c, r.l, B, k, r.p⟩
theorem enc_setC (r : MarkR) (A : Option Addr) (c : Nat) : RowC.enc (r.setC A c) = (RowC.enc r).take 33 ++ [.slice A r.l.length c] ++ (RowC.enc r).drop (33 + 1) := by
  show bs r.key.l ++ (r.setC A c).sig = (bs r.key.l ++ r.sig).take 33 ++ _ ++ (bs r.key.l ++ r.sig).drop 34
  rw [List.take_append, List.drop_append, List.take_of_length_le (by rw [bsl]; decide), List.drop_of_length_le (by rw [bsl]; decide), bsl, List.append_assoc, List.append_assoc]
  rfl
theorem enc_setB (r : MarkR) (B : Option Addr) (k : Nat) : RowC.enc (r.setB B k) = (RowC.enc r).take 34 ++ [.slice B r.p.length k] ++ (RowC.enc r).drop (34 + 1) := by
  show bs r.key.l ++ (r.setB B k).sig = (bs r.key.l ++ r.sig).take 34 ++ _ ++ (bs r.key.l ++ r.sig).drop 35
  rw [List.take_append, List.drop_append, List.take_of_length_le (by rw [bsl]; decide), List.drop_of_length_le (by rw [bsl]; decide), bsl, List.append_assoc, List.append_assoc]
  rfl
theorem map_set {α β : Type} (f : α → β) (l : List α) (k : Nat) (x : α) [RowC α] (hk : k < l.length) (h : f x = f (gt l k)) : (l.set k x).map f = l.map f := by
  rw [List.map_set, h]
  have e : gt l k = l[k] := by simp [gt, List.getD_eq_getElem?_getD, hk]
  rw [e]
  apply List.ext_getElem?
  intro i
  rw [List.getElem?_set]
  split
  · rename_i h1
    subst h1
    rw [if_pos (by simpa using hk)]
    simp [hk]
  · rfl
/-- a mark whose rows are none of these -/
def MkOk (w : World) (S : Nat → Prop) (x : MarkR) : Prop := MarkIn w x ∧ (∀ ad, x.A = some ad → cellsOf x.l ≠ [] → ¬ S ad.block) ∧ (∀ ad, x.B = some ad → cellsOf x.p ≠ [] → ¬ S ad.block) ∧ x.l.length ≤ 100000 ∧ x.p.length ≤ 100000
theorem MkOk.chg {w w' : World} {S T : Nat → Prop} {x : MarkR} (h : MkOk w S x) (c : Chg T w w') (hs : ∀ y, T y → S y) : MkOk w' S x := ⟨⟨h.1.1.chg c (fun hne ad e q => h.2.1 ad e hne (hs _ q)), h.1.2.chg c (fun hne ad e q => h.2.2.1 ad e hne (hs _ q))⟩, h.2⟩
theorem gt_setM (L : List MarkR) (k : Nat) (r : MarkR) (h : k < L.length) : gt (L.set k r) k = r := by simp [gt, List.getD_eq_getElem?_getD, h]
end Go.Proofs.YtgjnjhhhbkidbaaGreat
end
section
open Go Go.RowKit
namespace Go.Proofs.YtgjnjhhhbkidbaaGreat
/-- two cells of an envelope -/
structure EvC where
  v0 : Value
  v1 : Value
  o0 : v0.oneCell' = true
  o1 : v1.oneCell' = true
instance rowCEvC : RowC EvC := ⟨2, fun k => [k.v0, k.v1], fun _ => rfl, fun k u hu => by
  simp only [List.mem_cons, List.not_mem_nil, or_false] at hu
  rcases hu with rfl | rfl
  · exact k.o0
  · exact k.o1, ⟨.slice none 0 0, .slice none 0 0, rfl, rfl⟩⟩
instance elemEvC : ElemT Tryz.prog 28 32 2 48 (.agg #[.slice none 0 0, .slice none 0 0]) := ⟨⟨Tryz.underlying28, by kernel_rfl, rfl, by decide⟩⟩
theorem EvV.one {w : World} {m : List UInt8} {P : List MkV} {v0 v1 : Value} (h : EvV w m P v0 v1) : v0.oneCell' = true ∧ v1.oneCell' = true := by
  obtain ⟨M, nb, cb, A, n, c, l, rfl, rfl, _⟩ := h
  exact ⟨rfl, rfl⟩
theorem run_ev1 (x : EvC) (w : World) : (Instr.buildSlice 28 1 #[(0, .agg #[x.v0, x.v1])]).run Tryz.prog w = .ok (.slice (some ⟨w.heap.size, 0, none⟩) 1 1) (w.alloc (.cells (cellsOf [x]).toArray 32)) := by kernel_rfl
end Go.Proofs.YtgjnjhhhbkidbaaGreat
end
section
open Go Go.RowKit
namespace Go.Proofs.YtgjnjhhhbkidbaaGreat
theorem rp_drop68 (sd : H32) (p0 p1 : Value) (f : H32) (g v : Int) (tl : List Value) (i : Nat) : (rpL sd p0 p1 f g v tl).toArray.toList.drop (68 + i) = tl.drop i := by
  have e1 : rpL sd p0 p1 f g v tl = (bs sd.l ++ [p0, p1] ++ bs f.l ++ [Value.int .i64 g, Value.int .i64 v]) ++ tl := by simp [rpL]
  have e2 : (bs sd.l ++ [p0, p1] ++ bs f.l ++ [Value.int .i64 g, Value.int .i64 v]).length = 68 := by simp [bs_length]
  show (rpL sd p0 p1 f g v tl).drop (68 + i) = _
  rw [e1, List.drop_append, List.drop_of_length_le (by rw [e2]; omega), e2, List.nil_append, Nat.add_sub_cancel_left]
theorem run_bun (a : Option Addr) (n c : Nat) (t0 t1 s0 s1 : Value) (b : Option Addr) (m d : Nat) (w : World) : (Instr.build 34 #[(0, .slice a n c), (1, .agg #[t0, t1]), (2, .agg #[s0, s1]), (3, .slice b m d)]).run Tryz.prog w = .ok (.agg #[.slice a n c, t0, t1, s0, s1, .slice b m d]) w := by kernel_rfl
instance rowTBun : RowT Tryz.prog 34 6 := ⟨by kernel_rfl, _, Tryz.underlying34, rfl⟩
instance zeroTBun : ZeroT Tryz.prog 34 #[.slice none 0 0, .slice none 0 0, .slice none 0 0, .slice none 0 0, .slice none 0 0, .slice none 0 0] := ⟨.agg #[.slice none 0 0, .slice none 0 0, .slice none 0 0, .slice none 0 0, .slice none 0 0, .slice none 0 0], fun _ => by kernel_rfl, rfl⟩
instance cellEvs : CellT Tryz.prog 28 := ⟨fun _ => by kernel_rfl, fun _ => by kernel_rfl⟩
theorem six_one (a b c d e f : Value) (h1 : a.oneCell' = true) (h2 : b.oneCell' = true) (h3 : c.oneCell' = true) (h4 : d.oneCell' = true) (h5 : e.oneCell' = true) (h6 : f.oneCell' = true) : (#[a, b, c, d, e, f] : Array Value).all (·.oneCell') = true := by
  rw [List.all_toArray, List.all_eq_true]
  intro u hu
  simp only [List.mem_cons, List.not_mem_nil, or_false] at hu
  rcases hu with rfl | rfl | rfl | rfl | rfl | rfl <;> assumption
end Go.Proofs.YtgjnjhhhbkidbaaGreat
end
