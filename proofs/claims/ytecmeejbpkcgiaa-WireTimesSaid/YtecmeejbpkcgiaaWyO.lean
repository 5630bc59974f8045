/- Times and reports by value, opened. -/
import Derived.Test.YtecmeejbpkcgiaaWuB
import Derived.Test.YtecmeejbpkcgiaaOpens
open Go Go.RowKit Go.WideShapes Go.ChangeShapes Go.Deep
namespace Go.Proofs.Ytecmeejbpkcgiaa
theorem cIW : Try.prog.cellsOf 3 = 1 := by kernel_rfl
theorem cHW : Try.prog.cellsOf 43 = 32 := by kernel_rfl
theorem cUW : Try.prog.cellsOf 5 = 1 := by kernel_rfl
theorem cSW : Try.prog.cellsOf 9 = 1 := by kernel_rfl
theorem cTW : Try.prog.cellsOf 45 = 35 := by kernel_rfl
theorem cRW : Try.prog.cellsOf 47 = 36 := by kernel_rfl
theorem readsHashW : ReadsAs Try.prog H32 43 := reads_hash Try.underlying43 Try.underlying5 cUW cHW
theorem trod_fieldsW {H : Type} {enc : TypeId × Value → H} {P : Program} {w : World} {spare : Nat → Bool} {held : Bool} {fuel : Nat} {t : TypeId} {cs : List Value} {x : DataW H × List MemPlace} {fs : Array Field} (ht : P.underlying t = some (.struct fs)) (hf : DataW.trod enc P w 0 spare held fuel t cs = some x) :
    ∃ m, cs.length = P.cellsOf t ∧ ∀ (i : Nat) (f : Field), nth fs.toList i = some f → ∃ y, DataW.trod enc P w 0 spare held m f.type ((cs.drop f.offset).take (P.cellsOf f.type)) = some y := by
  obtain ⟨xs, m, _, hx, hl, hxl, hel⟩ := DataW.trod_struct ht hf
  refine ⟨m, hl, fun i f hi => ?_⟩
  rw [← nth_get] at hi
  have hi' : fs[i]? = some f := by simpa using hi
  have hlt : i < xs.length := by
    rw [hxl]
    exact (Array.getElem?_eq_some_iff.1 hi').1
  exact ⟨xs[i], by rw [hel i f hi', List.getElem?_eq_getElem hlt]⟩
set_option maxRecDepth 100000 in
theorem open_time {H : Type} {enc : TypeId × Value → H} {w : World} {r : Reach} {b0 : Nat} {v : Value} {d : DataW H} {ps : List MemPlace}
    (hval : Value.okWide Try.prog w r b0 45 v) (h : DataW.Trod enc Try.prog w 0 (fun _ => true) true 45 v d ps) :
    ∃ (a b c : Int) (hh : H32), v = .agg (timL a b c hh).toArray := by
  obtain ⟨cs, rfl, hsz⟩ := okWide_struct Try.underlying45 hval
  obtain ⟨fuel, hf⟩ := h
  obtain ⟨m0, hl, E⟩ := trod_fieldsW Try.underlying45 hf
  have hcs : (Value.agg cs).cells.toList = cs.toList := rfl
  rw [hcs] at hl
  obtain ⟨y0, e0⟩ := E 0 _ rfl
  obtain ⟨y1, e1⟩ := E 1 _ rfl
  obtain ⟨y2, e2⟩ := E 2 _ rfl
  obtain ⟨y3, e3⟩ := E 3 _ rfl
  dsimp only at e0 e1 e2 e3
  rw [cIW, hcs] at e0 e1 e2
  rw [cHW, hcs] at e3
  rw [cTW] at hl
  obtain ⟨z0, g0, _, _⟩ := DataW.trod_int Try.underlying3 e0
  obtain ⟨z1, g1, _, _⟩ := DataW.trod_int Try.underlying3 e1
  obtain ⟨z2, g2, _, _⟩ := DataW.trod_int Try.underlying3 e2
  obtain ⟨hh, g3⟩ := readsHashW _ _ _ _ _ _ _ _ _ e3
  refine ⟨z0, z1, z2, hh, ?_⟩
  congr 1
  apply Array.ext'
  have q : cs.toList = cs.toList.drop 0 := rfl
  rw [q, seg cs.toList 0 1 1 rfl, seg cs.toList 1 1 2 rfl, seg cs.toList 2 1 3 rfl, seg_last cs.toList 3 32 hl, g0, g1, g2, g3]
  rfl
set_option maxRecDepth 100000 in
theorem open_report {H : Type} {enc : TypeId × Value → H} {w : World} {r : Reach} {b0 : Nat} {v : Value} {d : DataW H} {ps : List MemPlace}
    (hval : Value.okWide Try.prog w r b0 47 v) (h : DataW.Trod enc Try.prog w 0 (fun _ => true) true 47 v d ps) :
    ∃ (u n : ByteArray) (hh : H32) (c k : Int), v = .agg (repL u n hh c k).toArray ∧ u.size ≤ maxLen ∧ n.size ≤ maxLen := by
  obtain ⟨cs, rfl, hsz⟩ := okWide_struct Try.underlying47 hval
  obtain ⟨fuel, hf⟩ := h
  obtain ⟨m0, hl, E⟩ := trod_fieldsW Try.underlying47 hf
  have hcs : (Value.agg cs).cells.toList = cs.toList := rfl
  rw [hcs] at hl
  obtain ⟨y0, e0⟩ := E 0 _ rfl
  obtain ⟨y1, e1⟩ := E 1 _ rfl
  obtain ⟨y2, e2⟩ := E 2 _ rfl
  obtain ⟨y3, e3⟩ := E 3 _ rfl
  obtain ⟨y4, e4⟩ := E 4 _ rfl
  dsimp only at e0 e1 e2 e3 e4
  rw [cSW, hcs] at e0 e1
  rw [cHW, hcs] at e2
  rw [cIW, hcs] at e3 e4
  rw [cRW] at hl
  obtain ⟨s0, g0, _, hs0⟩ := DataW.trod_string Try.underlying9 e0
  obtain ⟨s1, g1, _, hs1⟩ := DataW.trod_string Try.underlying9 e1
  obtain ⟨hh, g2⟩ := readsHashW _ _ _ _ _ _ _ _ _ e2
  obtain ⟨z3, g3, _, _⟩ := DataW.trod_int Try.underlying3 e3
  obtain ⟨z4, g4, _, _⟩ := DataW.trod_int Try.underlying3 e4
  refine ⟨s0, s1, hh, z3, z4, ?_, hs0, hs1⟩
  congr 1
  apply Array.ext'
  have q : cs.toList = cs.toList.drop 0 := rfl
  rw [q, seg cs.toList 0 1 1 rfl, seg cs.toList 1 1 2 rfl, seg cs.toList 2 32 34 rfl, seg cs.toList 34 1 35 rfl, seg_last cs.toList 35 1 hl, g0, g1, g2, g3, g4]
  rfl
end Go.Proofs.Ytecmeejbpkcgiaa
