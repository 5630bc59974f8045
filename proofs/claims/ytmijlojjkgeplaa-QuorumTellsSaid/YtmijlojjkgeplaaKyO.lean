/- Signatures by value, opened. -/
import Derived.Test.YtmijlojjkgeplaaOpens
import Derived.Test.YtmijlojjkgeplaaKyC
open Go Go.RowKit Go.WideShapes Go.ChangeShapes Go.Deep
namespace Go.Proofs.Ytmijlojjkgeplaa
theorem cKs : Try.prog.cellsOf 31 = 1 := by kernel_rfl
theorem cI : Try.prog.cellsOf 3 = 1 := by kernel_rfl
theorem cH : Try.prog.cellsOf 23 = 32 := by kernel_rfl
theorem cU : Try.prog.cellsOf 5 = 1 := by kernel_rfl
theorem cSig : Try.prog.cellsOf 35 = 3 := by kernel_rfl
theorem bH : Try.prog.bytesOf 23 = 32 := by kernel_rfl
theorem readsHash : ReadsAs Try.prog H32 23 := reads_hash Try.underlying23 Try.underlying5 cU cH
theorem trod_fields2 {H : Type} {enc : TypeId × Value → H} {P : Program} {w : World} {spare : Nat → Bool} {held : Bool} {fuel : Nat} {t : TypeId} {cs : List Value} {x : DataW H × List MemPlace} {fs : Array Field} (ht : P.underlying t = some (.struct fs)) (hf : DataW.trod enc P w 0 spare held fuel t cs = some x) :
    ∃ m, cs.length = P.cellsOf t ∧ ∀ (i : Nat) (f : Field), nth fs.toList i = some f → ∃ y, DataW.trod enc P w 0 spare held m f.type ((cs.drop f.offset).take (P.cellsOf f.type)) = some y ∧ ∀ u ∈ y.1.weights P f.type, u ∈ x.1.weights P t := by
  obtain ⟨xs, m, _, hx, hl, hxl, hel⟩ := DataW.trod_struct ht hf
  refine ⟨m, hl, fun i f hi => ?_⟩
  rw [← nth_get] at hi
  have hi' : fs[i]? = some f := by simpa using hi
  have hlt : i < xs.length := by
    rw [hxl]
    exact (Array.getElem?_eq_some_iff.1 hi').1
  refine ⟨xs[i], by rw [hel i f hi', List.getElem?_eq_getElem hlt], fun u hu => ?_⟩
  rw [hx]
  simp only [DataW.weights, ht]
  exact DataW.weights_mem_each (j := i) (t := f.type) (by rw [List.getElem?_map, hi]; rfl) (by rw [List.getElem?_map, List.getElem?_eq_getElem hlt]; rfl) u hu
set_option maxRecDepth 100000 in
theorem open_sig {H : Type} {enc : TypeId × Value → H} {w : World} {r : Reach} {b0 : Nat} {v : Value} {d : DataW H} {ps : List MemPlace}
    (hval : Value.okWide Try.prog w r b0 35 v) (h : DataW.Trod enc Try.prog w 0 (fun _ => true) true 35 v d ps) :
    ∃ (leaf : Int) (A : Option Addr) (n c : Nat) (l : List H32) (B : Option Addr) (m k : Nat) (p : List H32), v = .agg #[.int .i64 leaf, .slice A n c, .slice B m k] ∧ l.length = n ∧ HR w A (cellsOf l) ∧ n ≤ c ∧ p.length = m ∧ HR w B (cellsOf p) ∧ m ≤ k ∧ -9223372036854775808 ≤ leaf ∧ leaf ≤ 9223372036854775807 ∧
      ((∀ y ∈ d.weights Try.prog 35, y ≤ reachBytes) → n ≤ 10000000000000 ∧ m ≤ 10000000000000) := by
  obtain ⟨cs, rfl, hsz⟩ := okWide_struct Try.underlying35 hval
  obtain ⟨fuel, hf⟩ := h
  obtain ⟨m0, hl, E⟩ := trod_fields2 Try.underlying35 hf
  have hcs : (Value.agg cs).cells.toList = cs.toList := rfl
  rw [hcs] at hl
  obtain ⟨y0, e0, _⟩ := E 0 _ rfl
  obtain ⟨y1, e1, w1⟩ := E 1 _ rfl
  obtain ⟨y2, e2, w2⟩ := E 2 _ rfl
  dsimp only at e0 e1 e2 w1 w2
  rw [cI, hcs] at e0
  rw [cKs, hcs] at e1 e2
  rw [cSig] at hl
  obtain ⟨z0, g0, _, hz0⟩ := DataW.trod_int Try.underlying3 e0
  obtain ⟨A, n, c, l, g1, l1, m1, r1, c1, _, q1⟩ := rows_trodP (α := H32) Try.underlying31 cH (by decide) (reads_of readsHash) e1
  obtain ⟨B, m, k, p, g2, l2, m2, r2, c2, _, q2⟩ := rows_trodP (α := H32) Try.underlying31 cH (by decide) (reads_of readsHash) e2
  obtain ⟨hz1, hz2⟩ := wf_i64 hz0
  refine ⟨z0, A, n, c, l, B, m, k, p, ?_, l1, ⟨r1⟩, c1, l2, ⟨r2⟩, c2, hz1, hz2, fun hw => ?_⟩
  · congr 1
    apply Array.ext'
    have q : cs.toList = cs.toList.drop 0 := rfl
    rw [q, seg cs.toList 0 1 1 rfl, seg cs.toList 1 1 2 rfl, seg_last cs.toList 2 1 hl, g0, g1, g2]
    rfl
  · have h1 := q1 (fun u hu => hw u (w1 u hu))
    have h2 := q2 (fun u hu => hw u (w2 u hu))
    rw [bH] at h1 h2
    have h9 := reachBytes_lt
    omega
end Go.Proofs.Ytmijlojjkgeplaa
