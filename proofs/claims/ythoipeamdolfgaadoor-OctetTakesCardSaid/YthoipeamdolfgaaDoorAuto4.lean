/- Parts laid into a struct or an array. -/
import Derived.Test.YthoipeamdolfgaaDoorAuto3
open Go Go.RowKit
namespace Go.Proofs.YthoipeamdolfgaaDoor
theorem fold_set (off : Nat) : ∀ (l : List Value) (k : Nat) (z : Array Value), off + k + l.length ≤ z.size →
    ((l.zipIdx k).foldl (fun cs (x : Value × Nat) => cs.setIfInBounds (off + x.2) x.1) z).toList = z.toList.take (off + k) ++ l ++ z.toList.drop (off + k + l.length)
  | [], k, z, _ => by simp
  | v :: l, k, z, h => by
    simp only [List.length_cons] at h
    rw [List.zipIdx_cons, List.foldl_cons, fold_set off l (k + 1) _ (by simp only [Array.size_setIfInBounds]; omega)]
    have e1 : (z.setIfInBounds (off + k) v).toList = z.toList.set (off + k) v := by simp
    have hkl : off + k < z.toList.length := by rw [Array.length_toList]; omega
    have h1 : (z.toList.take (off + k) ++ [v]).length = off + k + 1 := by rw [List.length_append, List.length_take]; simp; omega
    have h2 : z.toList.take (off + k) ++ v :: z.toList.drop (off + k + 1) = (z.toList.take (off + k) ++ [v]) ++ z.toList.drop (off + k + 1) := by simp
    rw [e1, List.set_eq_take_append_cons_drop, if_pos hkl, h2, show off + (k + 1) = off + k + 1 by omega, List.take_left' h1, ← List.drop_drop, List.drop_left' h1, List.drop_drop,
      show off + k + 1 + l.length = off + k + (v :: l).length by simp; omega]
    simp
/-- the cells of one part laid over others -/
def lay (off : Nat) (cs z : Array Value) : Array Value := (z.toList.take off ++ cs.toList ++ z.toList.drop (off + cs.size)).toArray
theorem fill_step (place : Nat → Option (Nat × Nat)) (z : Array Value) (i : Nat) (v : Value) (rest : List (Nat × Value)) {off size : Nat} (hp : place i = some (off, size)) (hs : v.cells.size = size) (hf : off + size ≤ z.size) :
    Instr.fill place z ((i, v) :: rest) = Instr.fill place (lay off v.cells z) rest := by
  rw [Instr.fill, hp]
  simp only []
  rw [if_neg (by simp [hs]; omega)]
  congr 1
  apply Array.ext'
  rw [lay, ← Array.foldl_toList, Array.toList_zipIdx]
  have h := fold_set off v.cells.toList 0 z (by simp; omega)
  simp only [Nat.add_zero, Array.length_toList] at h
  exact h
theorem lay_whole (cs z : Array Value) (h : cs.size = z.size) : lay 0 cs z = cs := by
  apply Array.ext'
  rw [lay, h]
  simp
theorem run_build_struct {P : Program} {t : TypeId} {fields : Array Field} (hu : P.underlying t = some (.struct fields)) {zv : Value} (hz : ∀ w, (zeroValue t).run P w = .ok zv w) {places : Array (Nat × Nat)}
    (hp : ∀ w, (fields.mapM fun f => do pure (f.offset, ← sizeOf f.type) : Sem (Array (Nat × Nat))).run P w = .ok places w) {parts : Array (Nat × Value)} {cells : Array Value} (hf : Instr.fill (places[·]?) zv.cells parts.toList = some cells) (w : World) :
    (Instr.build t parts).run P w = .ok (.agg cells) w := by
  unfold Instr.build
  simp only [Sem.run_bind, hz, Result.andThen_ok, run_underlying hu, hp, hf, Sem.run_pure]
theorem iget_nots (n i : Nat) : iget (List.replicate n 0) i = 0 := by
  unfold iget
  rw [List.getD_eq_getElem?_getD, List.getElem?_replicate]
  split <;> rfl
end Go.Proofs.YthoipeamdolfgaaDoor
