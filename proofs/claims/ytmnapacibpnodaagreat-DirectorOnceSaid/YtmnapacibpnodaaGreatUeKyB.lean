/- KyA, KyB -/
import Derived.Test.YtmnapacibpnodaaGreatUeBase
import Derived.Test.YtmnapacibpnodaaGreatUeOtP
import Derived.Test.YtmnapacibpnodaaGreatUeMkU
section
open Go Go.RowKit
namespace Go.Proofs.YtmnapacibpnodaaGreat
theorem nth_app {α : Type} : ∀ (l m : List α) (k : Nat), nth (l ++ m) (l.length + k) = nth m k
  | [], m, k => by simp
  | x :: l, m, k => by
    rw [List.cons_append, List.length_cons, show l.length + 1 + k = (l.length + k) + 1 by omega, nth, nth_app l m k]
theorem HR.ofBlkL {w : World} {z : Nat} {t : TypeId} {cs : Array Value} (h : HB w z t cs) : HR w (some ⟨z, 0, none⟩) cs.toList := ⟨fun k u hk => by
  refine ⟨_, rfl, ?_⟩
  rw [add_row, h.out.cell k]
  simpa using hk⟩
theorem ptr0 (g k : Nat) : ptrOf (some ⟨g, 0, none⟩) k = .pointer (some ⟨g, k, none⟩) := by rw [ptrOf, shift_some, add_row]
def keyL (seed : H32) (used : Int) (gr : Bool) (tree : List H32) : List Value := bs seed.l ++ (.int .i64 used :: .bool gr :: cellsOf tree)
def leavesS (seed : H32) : List H32 := (List.range 16).map fun (i : Nat) => publicS seed (i : Int)
theorem leavesS_len (seed : H32) : (leavesS seed).length = 16 := by simp [leavesS]
section
variable {seed : H32} {used : Int} {gr : Bool} {tree : List H32}
theorem bsl (h : H32) : (bs h.l).length = 32 := by rw [bs_length, H32.len]
theorem keyL_len (ht : tree.length = 16) : (keyL seed used gr tree).length = 546 := by
  rw [keyL, List.length_append, bsl, List.length_cons, List.length_cons, cellsOf_len, ht]
  rfl
theorem key_grown : nth (keyL seed used gr tree).toArray.toList 33 = some (.bool gr) := by
  have h := nth_app (bs seed.l) (.int .i64 used :: .bool gr :: cellsOf tree) 1
  rw [bsl] at h
  exact h
theorem key_seed : ((keyL seed used gr tree).drop 0).take 32 = bs seed.l := by
  rw [List.drop_zero, keyL, List.take_left' (bsl seed)]
theorem key_tree : (keyL seed used gr tree).drop 34 = cellsOf tree := by
  have h : (keyL seed used gr tree).drop (32 + 2) = (Value.int .i64 used :: .bool gr :: cellsOf tree).drop 2 := by
    rw [← List.drop_drop, keyL, List.drop_left' (bsl seed)]
  exact h
theorem key_putG (b : Bool) : (keyL seed used gr tree).toArray.setIfInBounds 33 (.bool b) = (keyL seed used b tree).toArray := by
  apply Array.ext'
  rw [Array.toList_setIfInBounds]
  show (bs seed.l ++ (Value.int .i64 used :: .bool gr :: cellsOf tree)).set 33 (.bool b) = _
  rw [List.set_append, if_neg (by rw [bsl]; omega), bsl]
  rfl
theorem key_putT (i : Nat) (h : H32) (hi : i < tree.length) : (keyL seed used gr tree).take (34 + i * 32) ++ bs h.l ++ (keyL seed used gr tree).drop (34 + i * 32 + 32) = keyL seed used gr (tree.set i h) := by
  have e0 : keyL seed used gr tree = (bs seed.l ++ [.int .i64 used, .bool gr]) ++ cellsOf tree := by simp [keyL]
  have e1 : (bs seed.l ++ [Value.int .i64 used, .bool gr]).length = 34 := by rw [List.length_append, bsl]; rfl
  have e2 : keyL seed used gr (tree.set i h) = (bs seed.l ++ [.int .i64 used, .bool gr]) ++ cellsOf (tree.set i h) := by simp [keyL]
  have e3 := cellsOf_set tree i h hi
  rw [e2, ← e3, e0]
  rw [List.take_append, List.take_of_length_le (by rw [e1]; omega), e1, show 34 + i * 32 - 34 = i * 32 by omega]
  rw [List.drop_append, List.drop_eq_nil_of_le (by rw [e1]; omega), e1, show 34 + i * 32 + 32 - 34 = i * 32 + 32 by omega]
  simp only [List.append_assoc, List.nil_append]
  rfl
end
/-- a key of this seed, so many leaves used -/
class KeyAt (w : World) (z : Nat) (seed : outParam H32) (used : outParam Int) : Prop where
  out : ∃ gr tree, tree.length = 16 ∧ (gr = true → tree = leavesS seed) ∧ HB w z 150 (keyL seed used gr tree).toArray
def KI (z : Nat) (seed : H32) (used : Int) : World → Prop := fun w => KeyAt w z seed used
instance KeyAt.step (S : Nat → Prop) (w w' : World) (z : Nat) (seed : H32) (used : Int) [s : Step S w w'] [h : KeyAt w z seed used] [o : OffB S z] : KeyAt w' z seed used := ⟨by
  obtain ⟨gr, tree, h1, h2, h3⟩ := h.out
  exact ⟨gr, tree, h1, h2, inferInstance⟩⟩
instance KI.of (w : World) (z : Nat) (seed : H32) (used : Int) [h : KeyAt w z seed used] : Inv (KI z seed used) w := ⟨h⟩
instance (priority := 400) KeyAt.ofI (w : World) (z : Nat) (seed : H32) (used : Int) (T : Nat → Prop) (wd : World) [h : HeldI (KI z seed used) T wd w] : KeyAt w z seed used := h.inv
theorem KeyAt.lt {w : World} {z : Nat} {seed : H32} {used : Int} (h : KeyAt w z seed used) : z < w.heap.size := by
  obtain ⟨_, _, _, _, h3⟩ := h.out
  exact h3.out.lt
instance OffB.bornKey (w : World) (z g : Nat) (seed : H32) (used : Int) [b : Born w z] [h : KeyAt w g seed used] : OffB (only z) g := ⟨fun e => by
  have e' : g = z := e
  have := h.lt
  rw [e', b.eq] at this
  omega⟩
instance OffA.newKey (w : World) (z : Nat) (A : Option Addr) (seed : H32) (used : Int) [b : NewA w A] [h : KeyAt w z seed used] : OffA (only z) A := ⟨fun ad e hk => by
  have h1 := b.out ad e
  have h2 := h.lt
  have hk' : ad.block = z := hk
  omega⟩
instance OffR.newKey (w : World) (z : Nat) (A : Option Addr) (vs : List Value) (seed : H32) (used : Int) [b : NewA w A] [h : KeyAt w z seed used] : OffR (only z) A vs := ⟨fun _ ad e hk => by
  have h1 := b.out ad e
  have h2 := h.lt
  have hk' : ad.block = z := hk
  omega⟩
instance OffB.laterKey (w : World) (z g : Nat) (seed : H32) (used : Int) [b : Born w g] [h : KeyAt w z seed used] : OffB (only z) g := ⟨fun e => by
  have e' : g = z := e
  have := h.lt
  rw [← e', b.eq] at this
  omega⟩
section
variable {P : Program} {ops : Array Oper} {rest : List Oper} {a : Act} {w : World} {Q : Exit → Act → World → Prop} {dst : Option Tmp} {ty : TypeId} {pos : String} {after : Array Edge} {gd : Option (Nat × Bool)}
variable {seed : H32} {used : Int} {gr : Bool} {tree : List H32}
theorem ev_loadKSeed {t : TypeId} {x : Operand} {g : Nat} (hx : a.eval x = .pointer (some ⟨g, 0, none⟩)) (hb : KeyAt w g seed used) (ht : RowT P t 32) :
    (execOp a.eval ⟨dst, .load t x, ty, pos, after, gd⟩).run P w = .ok (.value (.agg (u8s seed.l))) w := by
  obtain ⟨gr, tree, _, _, hb⟩ := hb.out
  have hr := HR.ofBlkL hb
  show ((Instr.loadAt t (a.eval x)) >>= fun v => pure (Next.value v)).run P w = _
  rw [hx, ← ptr0, Sem.run_bind, run_loadshift (k := 0) (cs := bs seed.l) hr.out ht (bsl seed) key_seed (by decide)]
  rfl
theorem wpl_kSeed {t : TypeId} {x : Operand} {g : Nat} (hx : a.eval x = .pointer (some ⟨g, 0, none⟩)) (hb : KeyAt w g seed used) (ht : RowT P t 32)
    (h : wpList P ops Q rest (a.put dst (.agg (u8s seed.l))) w) : wpList P ops Q (⟨dst, .load t x, ty, pos, after, none⟩ :: rest) a w := wpl_of_run rfl (ev_loadKSeed hx hb ht) h
theorem wpl_kGrown {t : TypeId} {x : Operand} {g : Nat} (hx : a.eval x = .pointer (some ⟨g, 33, none⟩)) {tb : TypeId} (hb : HB w g tb (keyL seed used gr tree).toArray) (ht : CellT P t)
    (h : wpList P ops Q rest (a.put dst (.bool gr)) w) : wpList P ops Q (⟨dst, .load t x, ty, pos, after, none⟩ :: rest) a w := wpl_of_run rfl (ev_loadcellN hx hb ht key_grown) h
theorem wpl_kPutG {t : TypeId} {x y : Operand} {g : Nat} {b : Bool} (hx : a.eval x = .pointer (some ⟨g, 33, none⟩)) (hy : a.eval y = .bool b) {tb : TypeId} (hb : HB w g tb (keyL seed used gr tree).toArray) (ht : CellT P t) (hl : tree.length = 16)
    (h : ∀ w', Step (only g) w w' → HB w' g tb (keyL seed used b tree).toArray → wpList P ops Q rest (a.put dst undef) w') : wpList P ops Q (⟨dst, .store t x y, ty, pos, after, none⟩ :: rest) a w :=
  wpl_storecell hx hy hb rfl (by show 33 < (keyL seed used gr tree).length; rw [keyL_len hl]; decide) (fun w' s hb' => h w' s (by rw [← key_putG]; exact hb'))
theorem wpl_kPutT {t : TypeId} {x y : Operand} {g i : Nat} {hh : H32} (hx : a.eval x = .pointer (some ⟨g, 34 + i * 32, none⟩)) (hy : a.eval y = .agg (u8s hh.l)) {tb : TypeId} (hb : HB w g tb (keyL seed used gr tree).toArray) (ht : RowT P t 32) (hl : tree.length = 16) (hi : i < 16)
    (h : ∀ w', Step (only g) w w' → HB w' g tb (keyL seed used gr (tree.set i hh)).toArray → wpList P ops Q rest (a.put dst undef) w') : wpList P ops Q (⟨dst, .store t x y, ty, pos, after, none⟩ :: rest) a w := by
  have hL := keyL_len (seed := seed) (used := used) (gr := gr) hl
  have ho : Own w tb 546 (some ⟨g, 0, none⟩) 1 1 (keyL seed used gr tree) :=
    Own.of_blk hb.out (Nat.le_refl _) (by decide) (by simp [hL]) (by show (keyL seed used gr tree).take (1 * 546) = _; exact List.take_of_length_le (by rw [hL]; decide))
  obtain ⟨g', hA, h1, h2, h3⟩ := own_setCells ho (k := 34 + i * 32) (cs := bs hh.l) (m := 32) (bsl hh) (by rw [hL]; omega) (by decide)
  obtain rfl : g' = g := by injection hA with hA; injection hA with hA; exact hA.symm
  rw [key_putT i hh (by omega)] at h2
  refine wpl_of_unit rfl (w' := w.setCells g' (34 + i * 32) (bs hh.l)) ?_ (h _ ⟨⟨h3.os, h3.tape, h3.output, h3.size, fun x hx hn => h3.block x hx (fun ⟨ad, e, e2⟩ => hn (by injection e with e; subst e; exact e2.symm))⟩⟩ ⟨?_⟩)
  · have hz : (u8s hh.l).size = 32 := hh.size
    show ((Instr.storeAt t (a.eval x) (a.eval y)) >>= fun _ => pure Next.skip).run P w = _
    rw [hx, hy, Sem.run_bind, run_storeAt_mid (P := P) w g' (34 + i * 32) t (u8s hh.l) (by rw [hz]; exact h1) (by rw [hz]; exact ht.size) (u8s_one _)]
    rfl
  · have hl2 : (keyL seed used gr (tree.set i hh)).length = 546 := keyL_len (by rw [List.length_set, hl])
    rcases h2.form with ⟨hn, _⟩ | ⟨g3, cur, e, hb2, _, _, hsz, htk⟩
    · cases hn
    · injection e with e
      injection e with e
      subst e
      have : cur = (keyL seed used gr (tree.set i hh)).toArray := by
        apply Array.ext'
        rw [List.take_of_length_le (by rw [Array.length_toList, hsz]; exact Nat.le_refl _)] at htk
        simpa using htk
      rw [← this]
      exact hb2
/-- the address of an element of an array -/
theorem ev_indexAr {t e : TypeId} {x ix : Operand} {g k s m : Nat} {i : Nat} (hx : a.eval x = .pointer (some ⟨g, k, none⟩)) (hi : a.eval ix = .int .i64 (i : Int)) (hu : P.underlying t = some (.array m e)) (hs : (P.info? e).map (·.size) = some s) (h1 : i < m) :
    (execOp a.eval ⟨dst, .indexAddr t x ix, ty, pos, after, gd⟩).run P w = .ok (.value (.pointer (some ⟨g, k + i * s, none⟩))) w := by
  show ((Instr.indexAt t (a.eval x) (a.eval ix)) >>= fun v => pure (Next.value v)).run P w = _
  rw [hx, hi]
  cases hq : P.info? e with
  | none => rw [hq] at hs; simp at hs
  | some j =>
    rw [hq] at hs
    simp at hs
    have h2 : (i : Int) < m := by omega
    simp [Instr.indexAt, asIntOf, run_underlying hu, sizeOf, typeInfo, hq, hs, h1, Instr.sureAddr, Addr.add]
theorem wpl_indexAr {t e : TypeId} {x ix : Operand} {g k s m : Nat} {i : Nat} (hx : a.eval x = .pointer (some ⟨g, k, none⟩)) (hi : a.eval ix = .int .i64 (i : Int)) (hu : P.underlying t = some (.array m e)) (hs : (P.info? e).map (·.size) = some s) (h1 : i < m)
    (h : wpList P ops Q rest (a.put dst (.pointer (some ⟨g, k + i * s, none⟩))) w) : wpList P ops Q (⟨dst, .indexAddr t x ix, ty, pos, after, none⟩ :: rest) a w := wpl_of_run rfl (ev_indexAr hx hi hu hs h1) h
/-- a whole array as a slice -/
theorem wpl_sliceAr {t e : TypeId} {x : Operand} {g k m s : Nat} (hx : a.eval x = .pointer (some ⟨g, k, none⟩)) (hu : P.underlying t = some (.array m e)) (hs : (P.info? e).map (·.size) = some s)
    (h : wpList P ops Q rest (a.put dst (.slice (some ⟨g, k, none⟩) m m)) w) : wpList P ops Q (⟨dst, .slice t x none none none, ty, pos, after, none⟩ :: rest) a w :=
  wpl_of_run rfl (by
    show ((Instr.sliceAt t (a.eval x) none none none) >>= fun v => pure (Next.value v)).run P w = _
    rw [hx]
    cases hq : P.info? e with
    | none => rw [hq] at hs; simp at hs
    | some j =>
      rw [hq] at hs
      simp at hs
      simp [Instr.sliceAt, run_underlying hu, Instr.sureAddr, Instr.sliceBounds, sizeOf, typeInfo, hq, add_zero_spot]) h
end
theorem HR.keyTree {w : World} {z : Nat} {t : TypeId} {seed : H32} {used : Int} {gr : Bool} {tree : List H32} (h : HB w z t (keyL seed used gr tree).toArray) : HR w (some ⟨z, 34, none⟩) (cellsOf tree) := ⟨fun k u hk => by
  have hr := HR.ofBlkL h
  have e : (keyL seed used gr tree).toArray.toList[34 + k]? = some u := by
    show (keyL seed used gr tree)[34 + k]? = some u
    rw [← List.getElem?_drop, key_tree]
    exact hk
  obtain ⟨ad, e1, e2⟩ := hr.out _ _ e
  injection e1 with e1
  subst e1
  refine ⟨_, rfl, ?_⟩
  rw [add_row] at e2
  rw [Addr.add_mid]
  exact e2⟩
end Go.Proofs.YtmnapacibpnodaaGreat
end
section
open Go Go.RowKit
namespace Go.Proofs.YtmnapacibpnodaaGreat
class NewB (w : outParam World) (g : Nat) : Prop where
  out : w.heap.size ≤ g
instance Above.newB (w0 w : World) (g : Nat) [b : NewB w g] [n : Nw w0 w] : Above w0 (only g) := ⟨fun k h => by
  have h' : k = g := h
  rw [h']
  exact Nat.le_trans n.out.size b.out⟩
instance (priority := 900) OffB.newB1 (w : World) (g z : Nat) (t : TypeId) (cs : Array Value) [b : NewB w g] [h : HB w z t cs] : OffB (only g) z := ⟨fun e => by
  have e' : z = g := e
  have := h.out.lt
  have := b.out
  omega⟩
instance (priority := 900) OffB.newB2 (w : World) (g z : Nat) (seed : H32) (used : Int) [b : NewB w g] [h : KeyAt w z seed used] : OffB (only g) z := ⟨fun e => by
  have e' : z = g := e
  have := h.lt
  have := b.out
  omega⟩
instance (priority := 900) OffB.newB3 (w : World) (g z : Nat) (t : TypeId) (cs : Array Value) [b : NewB w g] [h : HB w z t cs] : OffB (only z) g := ⟨fun e => by
  have e' : g = z := e
  have := h.out.lt
  have := b.out
  omega⟩
instance (priority := 900) OffR.newB1 (w : World) (g : Nat) (A : Option Addr) (vs : List Value) [b : NewB w g] [h : HR w A vs] : OffR (only g) A vs := ⟨fun hne ad e hk => by
  have h1 := rd_lt h.out hne e
  have hk' : ad.block = g := hk
  have := b.out
  omega⟩
instance iKyB_1 : ZeroT Tryz.prog 63 #[.int .i64 0, .slice none 0 0, .slice none 0 0] := ⟨.agg #[.int .i64 0, .slice none 0 0, .slice none 0 0], fun _ => by kernel_rfl, rfl⟩
instance iKyB_2 : RowT Tryz.prog 63 3 := ⟨by kernel_rfl, _, Tryz.underlying63, rfl⟩
instance iKyB_3 : CellT Tryz.prog 31 := ⟨fun _ => by kernel_rfl, fun _ => by kernel_rfl⟩
instance iKyB_4 : CellT Tryz.prog 4 := ⟨fun _ => by kernel_rfl, fun _ => by kernel_rfl⟩
def tree0 : List H32 := List.replicate 16 zeroH
theorem lay_seed (s0 seed : H32) (u : Int) (g : Bool) (tr : List H32) : lay 0 (u8s seed.l) (keyL s0 u g tr).toArray = (keyL seed u g tr).toArray := by
  apply Array.ext'
  show (keyL s0 u g tr).take 0 ++ bs seed.l ++ (keyL s0 u g tr).drop (0 + (u8s seed.l).size) = keyL seed u g tr
  rw [show (u8s seed.l).size = 32 from seed.size, Nat.zero_add, keyL, List.drop_left' (bsl s0)]
  rfl
theorem lay_used (seed : H32) (u u0 : Int) (g : Bool) (tr : List H32) : lay 32 #[.int .i64 u] (keyL seed u0 g tr).toArray = (keyL seed u g tr).toArray := by
  apply Array.ext'
  show (keyL seed u0 g tr).take 32 ++ [.int .i64 u] ++ (keyL seed u0 g tr).drop (32 + 1) = keyL seed u g tr
  rw [keyL, List.take_left' (bsl seed), ← List.drop_drop, List.drop_left' (bsl seed)]
  simp [keyL]
theorem tree0_len : tree0.length = 16 := by simp [tree0]
theorem run_newKey (seed : H32) (u : Int) (w : World) : (Instr.build 150 #[(0, .agg (u8s seed.l)), (1, .int .i64 u)]).run Tryz.prog w = .ok (.agg (keyL seed u false tree0).toArray) w := by
  refine run_build_struct Tryz.underlying150 (zv := .agg (keyL zeroH 0 false tree0).toArray) (fun _ => by kernel_rfl) (places := #[(0, 32), (32, 1), (33, 1), (34, 512)]) (fun _ => by kernel_rfl) ?_ w
  have h1 : (keyL zeroH 0 false tree0).toArray.size = 546 := by show (keyL zeroH 0 false tree0).length = _; exact keyL_len tree0_len
  have h2 : (keyL seed 0 false tree0).toArray.size = 546 := by show (keyL seed 0 false tree0).length = _; exact keyL_len tree0_len
  show Instr.fill _ (keyL zeroH 0 false tree0).toArray [(0, .agg (u8s seed.l)), (1, .int .i64 u)] = _
  rw [fill_step _ _ 0 _ _ (off := 0) (size := 32) rfl (by show (u8s seed.l).size = 32; exact seed.size) (by rw [h1]; decide)]
  rw [show lay 0 (Value.agg (u8s seed.l)).cells (keyL zeroH 0 false tree0).toArray = (keyL seed 0 false tree0).toArray from lay_seed zeroH seed 0 false tree0]
  rw [fill_step _ _ 1 _ _ (off := 32) (size := 1) rfl rfl (by rw [h2]; decide)]
  rw [show lay 32 (Value.int .i64 u).cells (keyL seed 0 false tree0).toArray = (keyL seed u false tree0).toArray from lay_used seed u 0 false tree0]
  rfl
set_option maxRecDepth 100000 in
theorem new_calls (seed : H32) (used : Int) (w : World) :
    Calls Tryz.prog 51 #[.agg (u8s seed.l), .int .i64 used] w fun e w' => ∃ g, e = .returned (.pointer (some ⟨g, 0, none⟩)) ∧ Step nowhere w w' ∧ NewB w g ∧ KeyAt w' g seed (min (max used 0) 16) := by
  have kb := fun w => run_newKey seed (min (max used 0) 16) w
  go_enter Tryz.func51, Tryz.ntmps51
  go_wp2_with (first | ((with_reducible apply wpl_build); (exact kb _)) | ((with_reducible apply (wpl_box_agg (dst := some 2))); (exact rfl); intro zs wzs _ _ _) | ((with_reducible apply (wpl_box_agg (dst := some 10))); (exact rfl); intro zk wzk _ _ _) | ((with_reducible apply wpl_loadrow); (exact rfl); infer_instance; infer_instance; (first | (with_reducible assumption) | (with_reducible exact H32.size _) | kernel_rfl)) | ((with_reducible apply wpl_max); (exact rfl); (exact rfl)) | ((with_reducible apply wpl_min); (exact rfl); (exact rfl)))
  have hk : HB wzk zk 150 (keyL seed (min (max used 0) 16) false tree0).toArray := inferInstance
  have hn : NewB w zk := ⟨by
    have h1 := (inferInstance : Born wzs zk).eq
    have h2 := (stepN (w0 := w) (w := wzs)).chg.size
    omega⟩
  have hka : KeyAt wzk zk seed (min (max used 0) 16) := ⟨false, tree0, tree0_len, (fun h => by cases h), hk⟩
  go_ret
  exact ⟨zk, rfl, stepN, hn, hka⟩
def oneH : H32 := ⟨1 :: List.replicate 31 0, rfl⟩
end Go.Proofs.YtmnapacibpnodaaGreat
end
