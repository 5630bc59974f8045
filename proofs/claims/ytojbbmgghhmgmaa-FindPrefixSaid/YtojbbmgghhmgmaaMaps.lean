/- Maps by what a look-up in them tells. -/
import Derived.Test.YtojbbmgghhmgmaaAuto6
import Derived.Maps.OwnSet
import Derived.StringKeys
open Go Go.RowKit Go.Maps Go.MapKept Go.ChangeMaps Go.WideShapes Go.WideMaps
namespace Go.Proofs.Ytojbbmgghhmgmaa
/-- a map from strings to numbers -/
def MapSI (P : Program) (kt et : TypeId) (w : World) (g n : Nat) (f : ByteArray → Option Int) : Prop :=
  ∃ D : DataW Unit, w.ownsMap P kt (plainElem P et) g n D ∧ ∀ k : ByteArray, Maps.has D (.string k.data.toList) = (f k).isSome ∧ D.atKey (.string k.data.toList) (.lit (.int .i64 0)) = .lit (.int .i64 ((f k).getD 0))
/-- a set of numbers -/
def SetI (P : Program) (kt : TypeId) (w : World) (g n : Nat) (f : Int → Bool) : Prop :=
  ∃ D : DataW Unit, w.ownsMap P kt unitElem g n D ∧ ∀ k : Int, Maps.has D (.int .i64 k) = f k
section
variable {P : Program} {kt et mt : TypeId} {w w' : World} {g n : Nat} {S : Nat → Prop}
theorem ownsMap_chg {k : TypeId} {R : Value → Option (DataW Unit × List MemPlace)} {b n : Nat} {D : DataW Unit} (h : w.ownsMap P k R b n D) (hc : Chg S w w') (hS : ¬ S b) : w'.ownsMap P k R b n D := by
  have hlt : b < w.heap.size := by
    obtain ⟨es, clock, hb, _⟩ := h
    exact (Array.getElem?_eq_some_iff.1 hb).1
  obtain ⟨es, clock, hb, r⟩ := h
  exact ⟨es, clock, (hc.block b hlt hS).trans hb, r⟩
theorem MapSI.chg {f : ByteArray → Option Int} (h : MapSI P kt et w g n f) (hc : Chg S w w') (hS : ¬ S g) : MapSI P kt et w' g n f := by
  obtain ⟨D, h1, h2⟩ := h
  exact ⟨D, ownsMap_chg h1 hc hS, h2⟩
theorem SetI.chg {f : Int → Bool} (h : SetI P kt w g n f) (hc : Chg S w w') (hS : ¬ S g) : SetI P kt w' g n f := by
  obtain ⟨D, h1, h2⟩ := h
  exact ⟨D, ownsMap_chg h1 hc hS, h2⟩
theorem MapSI.lt {f : ByteArray → Option Int} (h : MapSI P kt et w g n f) : g < w.heap.size := by
  obtain ⟨D, ⟨es, clock, hb, _⟩, _⟩ := h
  exact (Array.getElem?_eq_some_iff.1 hb).1
theorem SetI.lt {f : Int → Bool} (h : SetI P kt w g n f) : g < w.heap.size := by
  obtain ⟨D, ⟨es, clock, hb, _⟩, _⟩ := h
  exact (Array.getElem?_eq_some_iff.1 hb).1
theorem bytes_inj {a b : ByteArray} (h : a.data.toList = b.data.toList) : a = b := by
  cases a; cases b
  simpa using h
theorem MapSI.made (w : World) : MapSI P kt et (w.alloc (.map #[] 0)) w.heap.size 0 (fun _ => none) :=
  ⟨_, World.ownsMap_made w P kt _, fun k => ⟨rfl, rfl⟩⟩
theorem SetI.made (w : World) : SetI P kt (w.alloc (.map #[] 0)) w.heap.size 0 (fun _ => false) :=
  ⟨_, World.ownsMap_made w P kt _, fun k => rfl⟩
theorem MapSI.look {f : ByteArray → Option Int} (h : MapSI P kt et w g n f) (hk : P.underlying kt = some .string) (he : P.underlying et = some (.int .i64)) (ht : P.underlying mt = some (.map kt et)) (hz : (zeroValue et).run P w = .ok (.int .i64 0) w) (k : ByteArray) (hs : k.size ≤ maxLen) :
    (Instr.lookup mt (.map (some g)) (.string k) true).run P w = .ok (.tuple #[.int .i64 ((f k).getD 0), .bool (f k).isSome]) w := by
  obtain ⟨D, h1, h2⟩ := h
  obtain ⟨v, ps, hrun, hv⟩ := h1.look_ok (string_keyed hk) ht hz (plainElem_int he (by decide)) (keyOf_string_mk hk hs)
  obtain ⟨c, rfl, hc, _⟩ := plainElem_int_inv he hv
  have hc' := congrArg Prod.fst hc
  rw [(h2 k).2] at hc'
  simp only [DataW.lit.injEq, Lit.int.injEq, true_and] at hc'
  rw [hrun, (h2 k).1, ← hc']
theorem SetI.look {f : Int → Bool} (h : SetI P kt w g n f) (hk : P.underlying kt = some (.int .i64)) (ht : P.underlying mt = some (.map kt et)) (hz : (zeroValue et).run P w = .ok (.agg #[]) w) (k : Int) (hs : (Lit.int .i64 k).wf = true) :
    (Instr.lookup mt (.map (some g)) (.int .i64 k) true).run P w = .ok (.tuple #[.agg #[], .bool (f k)]) w := by
  obtain ⟨D, h1, h2⟩ := h
  obtain ⟨v, ps, hrun, hv⟩ := h1.look_ok (int_keyed hk) ht hz unitElem_mk (keyOf_int_mk hk hs)
  obtain ⟨rfl, _⟩ := unitElem_inv hv
  rw [hrun, h2 k]
theorem turned_chg {b : Nat} (h : w.mapTurned w' b) : Chg (only b) w w' := by
  obtain ⟨es, clock, es', clock', hb, rfl⟩ := h
  refine ⟨rfl, rfl, rfl, by simp [setBlock], fun x hx hn => heap_setBlock_other hb _ (fun e => hn e)⟩
theorem MapSI.put {f : ByteArray → Option Int} (h : MapSI P kt et w g n f) (hk : P.underlying kt = some .string) (he : P.underlying et = some (.int .i64)) (ht : P.underlying mt = some (.map kt et)) (hn : n < maxLen) (k : ByteArray) (hs : k.size ≤ maxLen) (v : Int) (hv : (Lit.int .i64 v).wf = true) :
    ∃ w', (Instr.mapUpdate mt (.map (some g)) (.string k) (.int .i64 v)).run P w = .ok () w' ∧ MapSI P kt et w' g (n + 1) (fun x => if x = k then some v else f x) ∧ Chg (only g) w w' := by
  obtain ⟨D, h1, h2⟩ := h
  obtain ⟨w', hrun, ho, htn⟩ := h1.store (string_keyed hk) ht hn (keyOf_string_mk hk hs) (plainElem_int he hv)
  refine ⟨w', hrun, ⟨_, ho, fun x => ?_⟩, turned_chg htn⟩
  dsimp only
  by_cases hx : x = k
  · subst hx
    rw [if_pos rfl]
    have hkl : WideAt.IsKeyLit (.string x.data.toList) := trivial
    exact ⟨Maps.has_put_same h1.isMap hkl _, by rw [Maps.atKey_put_same h1.isMap hkl]; rfl⟩
  · rw [if_neg hx]
    have hne : Lit.string x.data.toList ≠ Lit.string k.data.toList := fun e => hx (bytes_inj (by injection e))
    exact ⟨by rw [Maps.has_put_other hne]; exact (h2 x).1, by rw [Maps.atKey_put_other hne]; exact (h2 x).2⟩
theorem SetI.put {f : Int → Bool} (h : SetI P kt w g n f) (hk : P.underlying kt = some (.int .i64)) (ht : P.underlying mt = some (.map kt et)) (hn : n < maxLen) (k : Int) (hs : (Lit.int .i64 k).wf = true) :
    ∃ w', (Instr.mapUpdate mt (.map (some g)) (.int .i64 k) (.agg #[])).run P w = .ok () w' ∧ SetI P kt w' g (n + 1) (fun x => decide (x = k) || f x) ∧ Chg (only g) w w' := by
  obtain ⟨D, h1, h2⟩ := h
  obtain ⟨w', hrun, ho, htn⟩ := h1.store (int_keyed hk) ht hn (keyOf_int_mk hk hs) unitElem_mk
  refine ⟨w', hrun, ⟨_, ho, fun x => ?_⟩, turned_chg htn⟩
  dsimp only
  by_cases hx : x = k
  · subst hx
    rw [decide_eq_true rfl, Bool.true_or]
    have hkl : WideAt.IsKeyLit (.int .i64 x) := trivial
    exact Maps.has_put_same h1.isMap hkl _
  · rw [decide_eq_false hx, Bool.false_or]
    have hne : Lit.int .i64 x ≠ Lit.int .i64 k := fun e => hx (by injection e)
    rw [Maps.has_put_other hne]
    exact h2 x
end
end Go.Proofs.Ytojbbmgghhmgmaa
