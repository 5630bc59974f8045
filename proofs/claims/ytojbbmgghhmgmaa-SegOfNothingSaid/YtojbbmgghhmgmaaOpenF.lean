/- A frame by value, opened. -/
import Derived.Test.YtojbbmgghhmgmaaOpenS
open Go Go.RowKit Go.WideShapes Go.ChangeShapes Go.Deep
namespace Go.Proofs.Ytojbbmgghhmgmaa
theorem open_frame {H : Type} {enc : TypeId × Value → H} {P : Program} {w : World} {r : Reach} {b0 : Nat} {t ts e ti : TypeId} {v : Value} {d : DataW H} {ps : List MemPlace} {f0 f1 : Field} (ht : P.underlying t = some (.struct #[f0, f1])) (h0 : f0.type = ti) (h1 : f1.type = ts) (o0 : f0.offset = 0) (o1 : f1.offset = 1) (hts : P.underlying ts = some (.slice e)) (hti : P.underlying ti = some (.int .i64))
    (cts : P.cellsOf ts = 1) (cti : P.cellsOf ti = 1) (ct : P.cellsOf t = 2)
    (hval : Value.okWide P w r b0 t v) (h : DataW.Trod enc P w 0 (fun _ => true) true t v d ps) :
    ∃ (id : Int) (A : Option Addr) (n c : Nat), v = .agg #[.int .i64 id, .slice A n c] := by
  obtain ⟨cs, rfl, hsz⟩ := okWide_struct ht hval
  obtain ⟨fuel, hf⟩ := h
  obtain ⟨xs, m, _, _, hl, hxl, hel⟩ := DataW.trod_struct ht hf
  have hcs : (Value.agg cs).cells.toList = cs.toList := rfl
  rw [hcs] at hl hel
  have e0 := hel 0 f0 rfl
  have e1 := hel 1 f1 rfl
  have hx : xs.length = 2 := hxl
  rw [h0, o0, cti, List.getElem?_eq_getElem (by omega)] at e0
  rw [h1, o1, cts, List.getElem?_eq_getElem (by omega)] at e1
  obtain ⟨z, g6, _, _⟩ := DataW.trod_int hti e0
  have hS : ∃ (A : Option Addr) (n c : Nat), (cs.toList.drop 1).take 1 = [.slice A n c] := by
    rcases DataW.trod_slice hts e1 with ⟨hcs, _⟩ | ⟨a, n, cap, elems, rest, m, _, hcs, _⟩
    · exact ⟨_, _, _, hcs⟩
    · exact ⟨_, _, _, hcs⟩
  obtain ⟨A, n, c, g1⟩ := hS
  refine ⟨z, A, n, c, ?_⟩
  have hlen : cs.toList.length = 2 := by rw [hl, ct]
  rcases hcl : cs.toList with _ | ⟨a, _ | ⟨b, _ | ⟨b2, t2⟩⟩⟩
  · rw [hcl] at hlen; simp at hlen
  · rw [hcl] at hlen; simp at hlen
  · rw [hcl] at g1 g6
    simp at g1 g6
    congr 1
    apply Array.ext'
    rw [hcl, g1, g6]
  · rw [hcl] at hlen; simp at hlen
end Go.Proofs.Ytojbbmgghhmgmaa
