/- Maps from bytes to values of any kind: what look-ups tell, how many entries stand. -/
import Derived.Test.YthoipeamdolfgaaAuto7
import Derived.Maps.OwnSet
open Go Go.RowKit Go.Maps Go.MapKept Go.ChangeMaps Go.WideShapes Go.WideMaps
namespace Go.Proofs.Ythoipeamdolfgaa
/-- an element stands as it is -/
def heldE : Value → Option (DataW Value × List MemPlace) := fun v => some (.held v, [])
/-- block g is a map of m numbers; behind each what f says; z stands behind none -/
def MapIV (P : Program) (kt : TypeId) (z : Value) (w : World) (g m : Nat) (f : Int → Option Value) : Prop :=
  ∃ D : DataW Value, w.ownsMap P kt heldE g m D ∧ Maps.size D = m ∧ ∀ k : Int, Maps.has D (.int .u8 k) = (f k).isSome ∧ D.atKey (.int .u8 k) (.held z) = .held ((f k).getD z)
theorem ownsMap_tight {P : Program} {kt : TypeId} {H : Type} {R : Value → Option (DataW H × List MemPlace)} {w : World} {b n : Nat} {D : DataW H} (h : w.ownsMap P kt R b n D) : w.ownsMap P kt R b (Maps.size D) D := by
  obtain ⟨es, clock, hb, F, hs, rfl⟩ := h
  exact ⟨es, clock, hb, F, by simp [Maps.size, length_sorted], rfl⟩
theorem ownsMap_chgI {H : Type} {P : Program} {k : TypeId} {R : Value → Option (DataW H × List MemPlace)} {w w' : World} {S : Nat → Prop} {b n : Nat} {D : DataW H} (h : w.ownsMap P k R b n D) (hc : Chg S w w') (hS : ¬ S b) : w'.ownsMap P k R b n D := by
  have hlt := h.lt
  obtain ⟨es, clock, hb, r⟩ := h
  exact ⟨es, clock, (hc.block b hlt hS).trans hb, r⟩
theorem turned_chgI {w w' : World} {b : Nat} (h : w.mapTurned w' b) : Chg (only b) w w' := by
  obtain ⟨es, clock, es', clock', hb, rfl⟩ := h
  refine ⟨rfl, rfl, rfl, by simp [setBlock], fun x hx hn => heap_setBlock_other hb _ (fun e => hn e)⟩
theorem wfU {z : Int} (h0 : 0 ≤ z) (h1 : z ≤ 255) : (Lit.int .u8 z).wf = true := by
  simp [Lit.wf, IntKind.min, IntKind.max, IntKind.signed, IntKind.bits]
  omega
theorem isKeyI (k : Int) : WideAt.IsKeyLit (.int .u8 k) := trivial
section
variable {P : Program} {kt et mt : TypeId} {w w' : World} {g m : Nat} {S : Nat → Prop} {z : Value} {f : Int → Option Value}
theorem MapIV.lt (h : MapIV P kt z w g m f) : g < w.heap.size := by
  obtain ⟨D, h1, _⟩ := h
  exact h1.lt
theorem MapIV.chg (h : MapIV P kt z w g m f) (hc : Chg S w w') (hS : ¬ S g) : MapIV P kt z w' g m f := by
  obtain ⟨D, h1, h2⟩ := h
  exact ⟨D, ownsMap_chgI h1 hc hS, h2⟩
theorem MapIV.no_blk (h : MapIV P kt z w g m f) {x : Nat} {t : TypeId} {cs : Array Value} (hb : Blk w x t cs) : x ≠ g := by
  rintro rfl
  obtain ⟨D, ⟨es, clock, h1, _⟩, _⟩ := h
  unfold Blk at hb
  rw [hb] at h1
  cases h1
theorem MapIV.made (w : World) : MapIV P kt z (w.alloc (.map #[] 0)) w.heap.size 0 (fun _ => none) :=
  ⟨_, World.ownsMap_made w P kt _, rfl, fun _ => ⟨rfl, rfl⟩⟩
theorem MapIV.look (h : MapIV P kt z w g m f) (hk : P.underlying kt = some (.int .u8)) (ht : P.underlying mt = some (.map kt et)) (hz : (zeroValue et).run P w = .ok z w) (k : Int) (hs : (Lit.int .u8 k).wf = true) :
    (Instr.lookup mt (.map (some g)) (.int .u8 k) true).run P w = .ok (.tuple #[(f k).getD z, .bool (f k).isSome]) w := by
  obtain ⟨D, h1, _, h2⟩ := h
  obtain ⟨v, ps, hrun, hv⟩ := h1.look_ok (int_keyed hk) ht hz (zd := .held z) (zp := []) rfl (keyOf_int_mk hk hs)
  rw [(h2 k).2] at hv
  simp only [heldE, Option.some.injEq, Prod.mk.injEq, DataW.held.injEq] at hv
  rw [hrun, (h2 k).1, hv.1]
theorem MapIV.look1 (h : MapIV P kt z w g m f) (hk : P.underlying kt = some (.int .u8)) (ht : P.underlying mt = some (.map kt et)) (hz : (zeroValue et).run P w = .ok z w) (k : Int) (hs : (Lit.int .u8 k).wf = true) :
    (Instr.lookup mt (.map (some g)) (.int .u8 k) false).run P w = .ok ((f k).getD z) w := by
  obtain ⟨D, h1, _, h2⟩ := h
  obtain ⟨v, ps, hrun, hv⟩ := h1.lookup (int_keyed hk) ht hz (zd := .held z) (zp := []) rfl (keyOf_int_mk hk hs)
  rw [(h2 k).2] at hv
  simp only [heldE, Option.some.injEq, Prod.mk.injEq, DataW.held.injEq] at hv
  rw [hrun, hv.1]
theorem MapIV.len (h : MapIV P kt z w g m f) (ht : P.underlying mt = some (.map kt et)) (ty : TypeId) : (Builtin.len_ #[mt] ty #[.map (some g)]).run P w = .ok (.int .i64 m) w := by
  obtain ⟨D, h1, h3, h2⟩ := h
  rw [h1.len ht ty, h3]
theorem MapIV.put (h : MapIV P kt z w g m f) (hk : P.underlying kt = some (.int .u8)) (ht : P.underlying mt = some (.map kt et)) (hn : m < maxLen) (k : Int) (hs : (Lit.int .u8 k).wf = true) (v : Value) :
    ∃ w', (Instr.mapUpdate mt (.map (some g)) (.int .u8 k) v).run P w = .ok () w' ∧ MapIV P kt z w' g (if (f k).isSome then m else m + 1) (fun x => if x = k then some v else f x) ∧ Chg (only g) w w' := by
  obtain ⟨D, h1, h3, h2⟩ := h
  obtain ⟨w', hrun, ho, htn⟩ := h1.store (int_keyed hk) ht hn (keyOf_int_mk hk hs) (val := v) (d := .held v) (ps := []) rfl
  have hsz : Maps.size (D.put (.int .u8 k) (.held v)) = if (f k).isSome then m else m + 1 := by
    rw [Maps.size_put (h1.tidy (int_keyed hk)), (h2 k).1, h3]
  refine ⟨w', hrun, ⟨_, hsz ▸ ownsMap_tight ho, hsz, fun x => ?_⟩, turned_chgI htn⟩
  dsimp only
  by_cases hx : x = k
  · subst hx
    rw [if_pos rfl]
    exact ⟨Maps.has_put_same h1.isMap (isKeyI x) _, Maps.atKey_put_same h1.isMap (isKeyI x) _ _⟩
  · rw [if_neg hx]
    have hne : Lit.int .u8 x ≠ Lit.int .u8 k := fun e => hx (by injection e)
    exact ⟨by rw [Maps.has_put_other hne]; exact (h2 x).1, by rw [Maps.atKey_put_other hne]; exact (h2 x).2⟩
theorem MapIV.del (h : MapIV P kt z w g m f) (hk : P.underlying kt = some (.int .u8)) (ht : P.underlying mt = some (.map kt et)) (k : Int) (hs : (Lit.int .u8 k).wf = true) (ty : TypeId) :
    ∃ w', (Builtin.delete_ #[mt, kt] ty #[.map (some g), .int .u8 k]).run P w = .ok (.tuple #[]) w' ∧ MapIV P kt z w' g (if (f k).isSome then m - 1 else m) (fun x => if x = k then none else f x) ∧ Chg (only g) w w' := by
  obtain ⟨D, h1, h3, h2⟩ := h
  obtain ⟨w', hrun, ho, htn⟩ := h1.drop (int_keyed hk) ht (keyOf_int_mk hk hs) ty
  have hsz : Maps.size (D.del (.int .u8 k)) = if (f k).isSome then m - 1 else m := by
    have := Maps.size_del (k := .int .u8 k) (h1.tidy (int_keyed hk))
    rw [(h2 k).1, h3] at this
    cases hb : (f k).isSome <;> simp [hb] at this ⊢ <;> omega
  refine ⟨w', hrun, ⟨_, hsz ▸ ownsMap_tight ho, hsz, fun x => ?_⟩, turned_chgI htn⟩
  dsimp only
  by_cases hx : x = k
  · subst hx
    rw [if_pos rfl]
    exact ⟨Maps.has_del_same, Maps.atKey_del_same _⟩
  · rw [if_neg hx]
    have hne : Lit.int .u8 x ≠ Lit.int .u8 k := fun e => hx (by injection e)
    exact ⟨by rw [Maps.has_del_other hne]; exact (h2 x).1, by rw [Maps.atKey_del_other hne]; exact (h2 x).2⟩
end
/-- the map, as a fact of memory -/
class HMI (P : Program) (kt : outParam TypeId) (z : outParam Value) (w : World) (g : Nat) (m : outParam Nat) (f : outParam (Int → Option Value)) : Prop where
  out : MapIV P kt z w g m f
section
variable {P : Program} {kt et mt : TypeId} {z : Value}
instance HMI.step (S : Nat → Prop) (w w' : World) (g m : Nat) (f : Int → Option Value) [s : Step S w w'] [h : HMI P kt z w g m f] [o : OffB S g] : HMI P kt z w' g m f := ⟨h.out.chg s.chg o.out⟩
theorem OffB.bornMI (w : World) (y g m : Nat) (f : Int → Option Value) [b : Born w y] (h : MapIV P kt z w g m f) : OffB (only y) g := ⟨fun e => by
  have e' : g = y := e
  have := h.lt
  rw [e', b.eq] at this
  omega⟩
section
variable {ops : Array Oper} {rest : List Oper} {a : Act} {w : World} {Q : Exit → Act → World → Prop} {dst : Option Tmp} {ty : TypeId} {pos : String} {after : Array Edge}
/-- what the table says of a map's types -/
class MapT (P : Program) (mt : TypeId) (kt et : outParam TypeId) (z : outParam Value) : Prop where
  key : P.underlying kt = some (.int .u8)
  under : P.underlying mt = some (.map kt et)
  zero : ∀ w, (zeroValue et).run P w = .ok z w
theorem wpl_makeMI {mt : TypeId} (_ : MapT P mt kt et z) (h : ∀ g w', Born w g → Step nowhere w w' → HMI P kt z w' g 0 (fun _ => none) → wpList P ops Q rest (a.put dst (.map (some g))) w') :
    wpList P ops Q (⟨dst, .makeMap mt none, ty, pos, after, none⟩ :: rest) a w :=
  wpl_of_run rfl (v := .map (some w.heap.size)) (w' := w.alloc (.map #[] 0)) (by
    show ((Instr.makeMap mt none) >>= fun v => pure (Next.value v)).run P w = _
    rfl) (h _ _ ⟨rfl⟩ inferInstance ⟨MapIV.made w⟩)
theorem ev_lookMI {gd : Option (Nat × Bool)} {mt : TypeId} {x k : Operand} {g m : Nat} {f : Int → Option Value} {i : Int} (hm : a.eval x = .map (some g)) (hx : a.eval k = .int .u8 i) (T : MapT P mt kt et z) (hs : HMI P kt z w g m f) (hk : (Lit.int .u8 i).wf = true) :
    (execOp a.eval ⟨dst, .lookup mt x k true, ty, pos, after, gd⟩).run P w = .ok (.value (.tuple #[(f i).getD z, .bool (f i).isSome])) w := by
  show ((Instr.lookup mt (a.eval x) (a.eval k) true) >>= fun v => pure (Next.value v)).run P w = _
  rw [hm, hx, Sem.run_bind, hs.out.look T.key T.under (T.zero w) i hk]
  rfl
theorem ev_lookNil {gd : Option (Nat × Bool)} {mt : TypeId} {x k : Operand} {i : Int} (hm : a.eval x = .map none) (hx : a.eval k = .int .u8 i) (T : MapT P mt kt et z) (hk : (Lit.int .u8 i).wf = true) :
    (execOp a.eval ⟨dst, .lookup mt x k true, ty, pos, after, gd⟩).run P w = .ok (.value (.tuple #[z, .bool false])) w := by
  show ((Instr.lookup mt (a.eval x) (a.eval k) true) >>= fun v => pure (Next.value v)).run P w = _
  rw [hm, hx, Sem.run_bind, Maps.look_nil true (int_keyed T.key) T.under (T.zero w) (keyOf_int_mk T.key hk)]
  rfl
theorem wpl_lookMI {mt : TypeId} {x k : Operand} {g m : Nat} {f : Int → Option Value} {i : Int} (hm : a.eval x = .map (some g)) (hx : a.eval k = .int .u8 i) (T : MapT P mt kt et z) (hs : HMI P kt z w g m f) (hk : (Lit.int .u8 i).wf = true)
    (h : wpList P ops Q rest (a.put dst (.tuple #[(f i).getD z, .bool (f i).isSome])) w) : wpList P ops Q (⟨dst, .lookup mt x k true, ty, pos, after, none⟩ :: rest) a w :=
  wpl_of_run rfl (by
    show ((Instr.lookup mt (a.eval x) (a.eval k) true) >>= fun v => pure (Next.value v)).run P w = _
    rw [hm, hx, Sem.run_bind, hs.out.look T.key T.under (T.zero w) i hk]
    rfl) h
theorem wpl_lookMI1 {mt : TypeId} {x k : Operand} {g m : Nat} {f : Int → Option Value} {i : Int} (hm : a.eval x = .map (some g)) (hx : a.eval k = .int .u8 i) (T : MapT P mt kt et z) (hs : HMI P kt z w g m f) (hk : (Lit.int .u8 i).wf = true)
    (h : wpList P ops Q rest (a.put dst ((f i).getD z)) w) : wpList P ops Q (⟨dst, .lookup mt x k false, ty, pos, after, none⟩ :: rest) a w :=
  wpl_of_run rfl (by
    show ((Instr.lookup mt (a.eval x) (a.eval k) false) >>= fun v => pure (Next.value v)).run P w = _
    rw [hm, hx, Sem.run_bind, hs.out.look1 T.key T.under (T.zero w) i hk]
    rfl) h
theorem ev_lookMI1 {gd : Option (Nat × Bool)} {mt : TypeId} {x k : Operand} {g m : Nat} {f : Int → Option Value} {i : Int} {v : Value} (hm : a.eval x = .map (some g)) (hx : a.eval k = .int .u8 i) (T : MapT P mt kt et z) (hs : HMI P kt z w g m f) (hk : (Lit.int .u8 i).wf = true) (hv : (f i).getD z = v) :
    (execOp a.eval ⟨dst, .lookup mt x k false, ty, pos, after, gd⟩).run P w = .ok (.value v) w := by
  show ((Instr.lookup mt (a.eval x) (a.eval k) false) >>= fun v => pure (Next.value v)).run P w = _
  rw [hm, hx, Sem.run_bind, hs.out.look1 T.key T.under (T.zero w) i hk, hv]
  rfl
theorem wpl_lookNil {mt : TypeId} {x k : Operand} {i : Int} (hm : a.eval x = .map none) (hx : a.eval k = .int .u8 i) (T : MapT P mt kt et z) (hk : (Lit.int .u8 i).wf = true)
    (h : wpList P ops Q rest (a.put dst (.tuple #[z, .bool false])) w) : wpList P ops Q (⟨dst, .lookup mt x k true, ty, pos, after, none⟩ :: rest) a w :=
  wpl_of_run rfl (by
    show ((Instr.lookup mt (a.eval x) (a.eval k) true) >>= fun v => pure (Next.value v)).run P w = _
    rw [hm, hx, Sem.run_bind, Maps.look_nil true (int_keyed T.key) T.under (T.zero w) (keyOf_int_mk T.key hk)]
    rfl) h
theorem wpl_lenMI {mt : TypeId} {x : Operand} {g m : Nat} {f : Int → Option Value} (hm : a.eval x = .map (some g)) (T : MapT P mt kt et z) (hs : HMI P kt z w g m f)
    (h : wpList P ops Q rest (a.put dst (.int .i64 (m : Int))) w) : wpList P ops Q (⟨dst, .call { callee := .builtin .len, args := #[x], argTypes := #[mt] }, ty, pos, after, none⟩ :: rest) a w :=
  wpl_of_run rfl (by
    simp only [execOp, resolve, invoke, builtin, Sem.run_bind, Sem.run_pure, Result.andThen_ok, List.map_toArray, List.map_cons, List.map_nil, hm, hs.out.len T.under ty]) h
theorem wpl_lenNil {mt : TypeId} {x : Operand} (hm : a.eval x = .map none) (T : MapT P mt kt et z)
    (h : wpList P ops Q rest (a.put dst (.int .i64 0)) w) : wpList P ops Q (⟨dst, .call { callee := .builtin .len, args := #[x], argTypes := #[mt] }, ty, pos, after, none⟩ :: rest) a w :=
  wpl_of_run rfl (by
    simp only [execOp, resolve, invoke, builtin, Sem.run_bind, Sem.run_pure, Result.andThen_ok, List.map_toArray, List.map_cons, List.map_nil, hm, Maps.len_nil T.under ty]) h
theorem wpl_putMI {mt : TypeId} {x k y : Operand} {g m : Nat} {f : Int → Option Value} {i : Int} {v : Value} (hm : a.eval x = .map (some g)) (hx : a.eval k = .int .u8 i) (hy : a.eval y = v) (T : MapT P mt kt et z) (hs : HMI P kt z w g m f) (hn : m < maxLen) (hk : (Lit.int .u8 i).wf = true)
    (h : ∀ w', Step (only g) w w' → HMI P kt z w' g (if (f i).isSome then m else m + 1) (fun x => if x = i then some v else f x) → wpList P ops Q rest (a.put dst undef) w') : wpList P ops Q (⟨dst, .mapUpdate mt x k y, ty, pos, after, none⟩ :: rest) a w := by
  obtain ⟨w', hrun, hm', hc⟩ := hs.out.put T.key T.under hn i hk v
  refine wpl_of_unit rfl (w' := w') ?_ (h w' ⟨hc⟩ ⟨hm'⟩)
  show ((Instr.mapUpdate mt (a.eval x) (a.eval k) (a.eval y)) >>= fun _ => pure Next.skip).run P w = _
  rw [hm, hx, hy, Sem.run_bind, hrun]
  rfl
theorem wpl_delMI {mt : TypeId} {x k : Operand} {g m : Nat} {f : Int → Option Value} {i : Int} (hm : a.eval x = .map (some g)) (hx : a.eval k = .int .u8 i) (T : MapT P mt kt et z) (hs : HMI P kt z w g m f) (hk : (Lit.int .u8 i).wf = true)
    (h : ∀ w', Step (only g) w w' → HMI P kt z w' g (if (f i).isSome then m - 1 else m) (fun x => if x = i then none else f x) → wpList P ops Q rest (a.put dst (.tuple #[])) w') : wpList P ops Q (⟨dst, .call { callee := .builtin .delete, args := #[x, k], argTypes := #[mt, kt] }, ty, pos, after, none⟩ :: rest) a w := by
  obtain ⟨w', hrun, hm', hc⟩ := hs.out.del T.key T.under i hk ty
  refine wpl_of_run rfl (w' := w') (v := .tuple #[]) ?_ (h w' ⟨hc⟩ ⟨hm'⟩)
  simp only [execOp, resolve, invoke, builtin, Sem.run_bind, Sem.run_pure, Result.andThen_ok, List.map_toArray, List.map_cons, List.map_nil, hm, hx, hrun]
end
end
end Go.Proofs.Ythoipeamdolfgaa
