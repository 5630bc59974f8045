/- MapH -/
import Derived.Test.YtmnapacibpnodaaGreatUeHashes
import Derived.Maps.OwnSet
import Derived.WideKeyArr
open Go Go.RowKit Go.Maps Go.MapKept Go.ChangeMaps Go.WideShapes Go.WideMaps
namespace Go.Proofs.YtmnapacibpnodaaGreat
/-- an element stands as it is -/
def heldE : Value → Option (DataW Value × List MemPlace) := fun v => some (.held v, [])
theorem ownsMap_tight {P : Program} {kt : TypeId} {H : Type} {R : Value → Option (DataW H × List MemPlace)} {w : World} {b n : Nat} {D : DataW H} (h : w.ownsMap P kt R b n D) : w.ownsMap P kt R b (Maps.size D) D := by
  obtain ⟨es, clock, hb, F, hs, rfl⟩ := h
  exact ⟨es, clock, hb, F, by simp [Maps.size, length_sorted], rfl⟩
theorem ownsMap_chgI {H : Type} {P : Program} {k : TypeId} {R : Value → Option (DataW H × List MemPlace)} {w w' : World} {S : Nat → Prop} {b n : Nat} {D : DataW H} (h : w.ownsMap P k R b n D) (hc : Chg S w w') (hS : ¬ S b) : w'.ownsMap P k R b n D := by
  have hlt := h.lt
  obtain ⟨es, clock, hb, r⟩ := h
  exact ⟨es, clock, (hc.block b hlt hS).trans hb, r⟩
theorem turned_chgI {w w' : World} {b : Nat} (h : w.mapTurned w' b) : Chg (only b) w w' := by
  obtain ⟨es, clock, es', clock', hb, rfl⟩ := h
  refine ⟨rfl, rfl, rfl, by simp [setBlock], fun x hx hn => heap_setBlock_other hb _ (fun e => hn e)⟩
theorem mapM_all {α β : Type} {f : α → Option β} {g : α → β} : ∀ (l : List α), (∀ x ∈ l, f x = some (g x)) → l.mapM f = some (l.map g)
  | [], _ => rfl
  | x :: l, h => by
    rw [List.mapM_cons, h x (by simp), mapM_all l (fun y hy => h y (by simp [hy]))]
    rfl
/-- the type of the keys is a digest's -/
class HashKey (P : Program) (kt : TypeId) (e : outParam TypeId) : Prop where
  arr : ArrKey P kt e 32
  elem : P.underlying e = some (.int .u8)
  size : ∃ m, P.types.size = m + 1
section
variable {P : Program} {kt e : TypeId}
theorem HashKey.at (K : HashKey P kt e) (h : H32) : ∃ s, keyOf P kt (.agg (u8s h.l)) = some (.string s) := by
  obtain ⟨m0, hm0⟩ := K.size
  have hkt := K.arr.keyType K.size
  have hsz : (u8s h.l).size = 32 := H32.size h
  unfold keyOf
  simp only [K.arr.hu]
  rw [if_pos (by simp [hkt, Value.formed, K.arr.hu, K.arr.size, hsz]), hm0]
  unfold Program.keyLits
  simp only [K.arr.hu, Value.cells]
  rw [if_pos (by rw [K.arr.size]; simpa using hsz)]
  rw [mapM_all (g := fun i => [Lit.int .u8 ((bget h.l i).toNat : Int)])]
  · exact ⟨_, rfl⟩
  · intro i hi
    have hi' : i < 32 := by simpa using hi
    have hd : ((u8s h.l).toList.drop (i * P.cellsOf e)).take (P.cellsOf e) = [.int .u8 ((bget h.l i).toNat : Int)] := by
      have hl : i < h.l.length := by rw [h.len]; exact hi'
      rw [K.arr.one, Nat.mul_one, List.take_one]
      have h1 : (u8s h.l).toList[i]? = some (.int .u8 ((bget h.l i).toNat : Int)) := by
        simp [u8s, bs, u8v, bget, List.getD_eq_getElem?_getD, List.getElem?_eq_getElem hl]
      rw [List.head?_drop, h1]
      rfl
    rw [hd]
    unfold Program.keyLits
    simp only [K.elem]
    have h8 := (bget h.l i).toNat_lt
    simp [Lit.wf, IntKind.min, IntKind.max, IntKind.signed, IntKind.bits]
    omega
/-- a digest as a key -/
def hkeyL (P : Program) (kt : TypeId) (h : H32) : Lit := (keyOf P kt (.agg (u8s h.l))).getD (.bool false)
theorem HashKey.key (K : HashKey P kt e) (h : H32) : keyOf P kt (.agg (u8s h.l)) = some (hkeyL P kt h) := by
  obtain ⟨s, hs⟩ := K.at h
  rw [hkeyL, hs]
  rfl
theorem HashKey.inj (K : HashKey P kt e) {a b : H32} (h : hkeyL P kt a = hkeyL P kt b) : a = b := by
  have h1 := K.arr.law.inj (K.key a) (by rw [h]; exact K.key b)
  have h2 : u8s a.l = u8s b.l := by injection h1
  have h3 : bs a.l = bs b.l := by
    have := congrArg Array.toList h2
    simpa [u8s, bs] using this
  exact H32.ext' (bs_inj h3)
theorem HashKey.isKey (K : HashKey P kt e) (h : H32) : WideAt.IsKeyLit (hkeyL P kt h) := by
  obtain ⟨s, hs⟩ := K.at h
  rw [hkeyL, hs]
  trivial
/-- block g is a set of m digests: those of which f says so -/
def MapH (P : Program) (kt : TypeId) (w : World) (g m : Nat) (f : H32 → Bool) : Prop :=
  ∃ D : DataW Value, w.ownsMap P kt heldE g m D ∧ Maps.size D = m ∧ ∀ h : H32, Maps.has D (hkeyL P kt h) = f h ∧ D.atKey (hkeyL P kt h) (.held (.agg #[])) = .held (.agg #[])
variable {et mt : TypeId} {w w' : World} {g m : Nat} {S : Nat → Prop} {f : H32 → Bool}
theorem MapH.lt (h : MapH P kt w g m f) : g < w.heap.size := by
  obtain ⟨D, h1, _⟩ := h
  exact h1.lt
theorem MapH.chg (h : MapH P kt w g m f) (hc : Chg S w w') (hS : ¬ S g) : MapH P kt w' g m f := by
  obtain ⟨D, h1, h2⟩ := h
  exact ⟨D, ownsMap_chgI h1 hc hS, h2⟩
theorem MapH.made (w : World) : MapH P kt (w.alloc (.map #[] 0)) w.heap.size 0 (fun _ => false) :=
  ⟨_, World.ownsMap_made w P kt _, rfl, fun _ => ⟨rfl, rfl⟩⟩
theorem MapH.look (h : MapH P kt w g m f) (K : HashKey P kt e) (ht : P.underlying mt = some (.map kt et)) (hz : (zeroValue et).run P w = .ok (.agg #[]) w) (x : H32) :
    (Instr.lookup mt (.map (some g)) (.agg (u8s x.l)) true).run P w = .ok (.tuple #[.agg #[], .bool (f x)]) w := by
  obtain ⟨D, h1, _, h2⟩ := h
  obtain ⟨v, ps, hrun, hv⟩ := h1.look_ok (Keyed.of_law K.arr.law) ht hz (zd := .held (.agg #[])) (zp := []) rfl (K.key x)
  rw [(h2 x).2] at hv
  simp only [heldE, Option.some.injEq, Prod.mk.injEq, DataW.held.injEq] at hv
  rw [hrun, (h2 x).1, hv.1]
theorem MapH.put (h : MapH P kt w g m f) (K : HashKey P kt e) (ht : P.underlying mt = some (.map kt et)) (hn : m < maxLen) (x : H32) :
    ∃ w', (Instr.mapUpdate mt (.map (some g)) (.agg (u8s x.l)) (.agg #[])).run P w = .ok () w' ∧ MapH P kt w' g (if f x then m else m + 1) (fun y => decide (y = x) || f y) ∧ Chg (only g) w w' := by
  obtain ⟨D, h1, h3, h2⟩ := h
  obtain ⟨w', hrun, ho, htn⟩ := h1.store (Keyed.of_law K.arr.law) ht hn (K.key x) (val := .agg #[]) (d := .held (.agg #[])) (ps := []) rfl
  have hsz : Maps.size (D.put (hkeyL P kt x) (.held (.agg #[]))) = if f x then m else m + 1 := by
    rw [Maps.size_put (h1.tidy (Keyed.of_law K.arr.law)), (h2 x).1, h3]
  refine ⟨w', hrun, ⟨_, hsz ▸ ownsMap_tight ho, hsz, fun y => ?_⟩, turned_chgI htn⟩
  by_cases hy : y = x
  · subst hy
    exact ⟨by rw [Maps.has_put_same h1.isMap (K.isKey y)]; simp, Maps.atKey_put_same h1.isMap (K.isKey y) _ _⟩
  · have hne : hkeyL P kt y ≠ hkeyL P kt x := fun e => hy (K.inj e)
    exact ⟨by rw [Maps.has_put_other hne, (h2 y).1]; simp [hy], by rw [Maps.atKey_put_other hne]; exact (h2 y).2⟩
end
/-- the set, as a fact of memory -/
class HMH (P : Program) (kt : outParam TypeId) (w : World) (g : Nat) (m : outParam Nat) (f : outParam (H32 → Bool)) : Prop where
  out : MapH P kt w g m f
/-- what the table says of a set's types -/
class MapHT (P : Program) (mt : TypeId) (kt : outParam TypeId) : Prop where
  key : ∃ e, HashKey P kt e
  under : ∃ et, P.underlying mt = some (.map kt et) ∧ ∀ w, (zeroValue et).run P w = .ok (.agg #[]) w
section
variable {P : Program} {kt mt : TypeId}
instance HMH.step (S : Nat → Prop) (w w' : World) (g m : Nat) (f : H32 → Bool) [s : Step S w w'] [h : HMH P kt w g m f] [o : OffB S g] : HMH P kt w' g m f := ⟨h.out.chg s.chg o.out⟩
variable {ops : Array Oper} {rest : List Oper} {a : Act} {w : World} {Q : Exit → Act → World → Prop} {dst : Option Tmp} {ty : TypeId} {pos : String} {after : Array Edge}
theorem wpl_makeHM {mt : TypeId} (_ : MapHT P mt kt) (h : ∀ g w', Born w g → Step nowhere w w' → HMH P kt w' g 0 (fun _ => false) → wpList P ops Q rest (a.put dst (.map (some g))) w') :
    wpList P ops Q (⟨dst, .makeMap mt none, ty, pos, after, none⟩ :: rest) a w :=
  wpl_of_run rfl (v := .map (some w.heap.size)) (w' := w.alloc (.map #[] 0)) (by
    show ((Instr.makeMap mt none) >>= fun v => pure (Next.value v)).run P w = _
    rfl) (h _ _ ⟨rfl⟩ inferInstance ⟨MapH.made w⟩)
theorem wpl_lookHM {mt : TypeId} {x k : Operand} {g m : Nat} {f : H32 → Bool} {i : H32} (hm : a.eval x = .map (some g)) (hx : a.eval k = .agg (u8s i.l)) (T : MapHT P mt kt) (hs : HMH P kt w g m f)
    (h : wpList P ops Q rest (a.put dst (.tuple #[.agg #[], .bool (f i)])) w) : wpList P ops Q (⟨dst, .lookup mt x k true, ty, pos, after, none⟩ :: rest) a w := by
  obtain ⟨e, K⟩ := T.key
  obtain ⟨et, ht, hz⟩ := T.under
  refine wpl_of_run rfl ?_ h
  show ((Instr.lookup mt (a.eval x) (a.eval k) true) >>= fun v => pure (Next.value v)).run P w = _
  rw [hm, hx, Sem.run_bind, hs.out.look K ht (hz w) i]
  rfl
theorem wpl_putHM {mt : TypeId} {x k y : Operand} {g m : Nat} {f : H32 → Bool} {i : H32} (hm : a.eval x = .map (some g)) (hx : a.eval k = .agg (u8s i.l)) (hy : a.eval y = .agg #[]) (T : MapHT P mt kt) (hs : HMH P kt w g m f) (hn : m < maxLen)
    (h : ∀ w', Step (only g) w w' → HMH P kt w' g (if f i then m else m + 1) (fun y => decide (y = i) || f y) → wpList P ops Q rest (a.put dst undef) w') : wpList P ops Q (⟨dst, .mapUpdate mt x k y, ty, pos, after, none⟩ :: rest) a w := by
  obtain ⟨e, K⟩ := T.key
  obtain ⟨et, ht, hz⟩ := T.under
  obtain ⟨w', hrun, hm', hc⟩ := hs.out.put K ht hn i
  refine wpl_of_unit rfl (w' := w') ?_ (h w' ⟨hc⟩ ⟨hm'⟩)
  show ((Instr.mapUpdate mt (a.eval x) (a.eval k) (a.eval y)) >>= fun _ => pure Next.skip).run P w = _
  rw [hm, hx, hy, Sem.run_bind, hrun]
  rfl
end
end Go.Proofs.YtmnapacibpnodaaGreat
