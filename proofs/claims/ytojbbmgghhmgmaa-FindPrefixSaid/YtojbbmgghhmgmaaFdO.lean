/- []api.Targets opened. -/
import Derived.Test.YtojbbmgghhmgmaaOpenP
import Derived.Test.YtojbbmgghhmgmaaFdR
open Go Go.RowKit Go.WideShapes Go.ChangeShapes Go.Deep
namespace Go.Proofs.Ytojbbmgghhmgmaa
theorem trod_fields {H : Type} {enc : TypeId × Value → H} {P : Program} {w : World} {spare : Nat → Bool} {held : Bool} {fuel : Nat} {t : TypeId} {cs : List Value} {x : DataW H × List MemPlace} {fs : Array Field} (ht : P.underlying t = some (.struct fs)) (hf : DataW.trod enc P w 0 spare held fuel t cs = some x) :
    ∃ m, cs.length = P.cellsOf t ∧ ∀ (i : Nat) (f : Field), nth fs.toList i = some f → ∃ y, DataW.trod enc P w 0 spare held m f.type ((cs.drop f.offset).take (P.cellsOf f.type)) = some y := by
  obtain ⟨xs, m, _, _, hl, hxl, hel⟩ := DataW.trod_struct ht hf
  refine ⟨m, hl, fun i f hi => ?_⟩
  rw [← nth_get] at hi
  have hi' : fs[i]? = some f := by simpa using hi
  have hlt : i < xs.length := by
    rw [hxl]
    exact (Array.getElem?_eq_some_iff.1 hi').1
  exact ⟨xs[i], by rw [hel i f hi', List.getElem?_eq_getElem hlt]⟩
theorem cS : Try.prog.cellsOf 9 = 1 := by kernel_rfl
theorem cI : Try.prog.cellsOf 3 = 1 := by kernel_rfl
theorem cB : Try.prog.cellsOf 4 = 1 := by kernel_rfl
theorem cH : Try.prog.cellsOf 70 = 32 := by kernel_rfl
theorem cU : Try.prog.cellsOf 5 = 1 := by kernel_rfl
theorem cK : Try.prog.cellsOf 66 = 2 := by kernel_rfl
theorem cKs : Try.prog.cellsOf 64 = 1 := by kernel_rfl
theorem cTG : Try.prog.cellsOf 72 = 37 := by kernel_rfl
theorem cDL : Try.prog.cellsOf 68 = 5 := by kernel_rfl
theorem cTS : Try.prog.cellsOf 63 = 5 := by kernel_rfl
theorem cLs : Try.prog.cellsOf 61 = 1 := by kernel_rfl
theorem cDs : Try.prog.cellsOf 60 = 1 := by kernel_rfl
theorem readsHash : ReadsAs Try.prog H32 70 := reads_hash Try.underlying70 Try.underlying5 cU cH
theorem readsTG (w : World) : ReadsP Try.prog w TG (fun _ => True) 72 := by
  intro H enc spare held fuel cs x hf
  obtain ⟨m, hl, E⟩ := trod_fields Try.underlying72 hf
  obtain ⟨y0, e0⟩ := E 0 _ rfl
  obtain ⟨y1, e1⟩ := E 1 _ rfl
  obtain ⟨y2, e2⟩ := E 2 _ rfl
  obtain ⟨y3, e3⟩ := E 3 _ rfl
  obtain ⟨y4, e4⟩ := E 4 _ rfl
  obtain ⟨y5, e5⟩ := E 5 _ rfl
  dsimp only at e0 e1 e2 e3 e4 e5
  rw [cS] at e0 e3 e5
  rw [cI] at e1 e4
  rw [cH] at e2
  rw [cTG] at hl
  obtain ⟨s0, g0, _, _⟩ := DataW.trod_string Try.underlying9 e0
  obtain ⟨z1, g1, _, _⟩ := DataW.trod_int Try.underlying3 e1
  obtain ⟨h2, g2⟩ := readsHash _ _ _ _ _ _ _ _ _ e2
  obtain ⟨s3, g3, _, _⟩ := DataW.trod_string Try.underlying9 e3
  obtain ⟨z4, g4, _, _⟩ := DataW.trod_int Try.underlying3 e4
  obtain ⟨s5, g5, _, _⟩ := DataW.trod_string Try.underlying9 e5
  refine ⟨⟨s0, z1, h2, s3, z4, s5⟩, ?_, trivial⟩
  have q : cs = cs.drop 0 := rfl
  rw [q, seg cs 0 1 1 rfl, seg cs 1 1 2 rfl, seg cs 2 32 34 rfl, seg cs 34 1 35 rfl, seg cs 35 1 36 rfl, seg_last cs 36 1 hl, g0, g1, g2, g3, g4, g5]
  rfl
theorem readsDL (w : World) : ReadsP Try.prog w DL (fun d => d.name.size ≤ maxLen) 68 := by
  intro H enc spare held fuel cs x hf
  obtain ⟨m, hl, E⟩ := trod_fields Try.underlying68 hf
  obtain ⟨y0, e0⟩ := E 0 _ rfl
  obtain ⟨y1, e1⟩ := E 1 _ rfl
  obtain ⟨y2, e2⟩ := E 2 _ rfl
  obtain ⟨y3, e3⟩ := E 3 _ rfl
  dsimp only at e0 e1 e2 e3
  rw [cS] at e0 e2
  rw [cK] at e1
  rw [cB] at e3
  rw [cDL] at hl
  obtain ⟨s0, g0, _, hs0⟩ := DataW.trod_string Try.underlying9 e0
  obtain ⟨s2, g2, _, _⟩ := DataW.trod_string Try.underlying9 e2
  obtain ⟨b3, g3, _⟩ := DataW.trod_bool Try.underlying4 e3
  obtain ⟨m2, hl2, E2⟩ := trod_fields Try.underlying66 e1
  obtain ⟨y4, e4⟩ := E2 0 _ rfl
  obtain ⟨y5, e5⟩ := E2 1 _ rfl
  dsimp only at e4 e5
  rw [cKs] at e4
  rw [cI] at e5
  rw [cK] at hl2
  obtain ⟨kA, kn, kc, _, g4, _⟩ := rows_trod (α := H32) Try.underlying64 cH (by decide) readsHash rfl e4
  obtain ⟨z5, g5, _, _⟩ := DataW.trod_int Try.underlying3 e5
  refine ⟨⟨s0, kA, kn, kc, z5, s2, b3⟩, ?_, hs0⟩
  have q : ∀ l : List Value, l = l.drop 0 := fun _ => rfl
  have k1 : (cs.drop 1).take 2 = [.slice kA kn kc, .int .i64 z5] := by
    rw [q ((cs.drop 1).take 2), seg _ 0 1 1 rfl, seg_last _ 1 1 hl2, g4, g5]
    rfl
  rw [q cs, seg cs 0 1 1 rfl, seg cs 1 2 3 rfl, seg cs 3 1 4 rfl, seg_last cs 4 1 hl, g0, k1, g2, g3]
  rfl
def TSP (w : World) (t : TS) : Prop := (Rd w t.LA (cellsOf t.L) ∧ t.L.length = t.Ln ∧ Rd w t.DA (cellsOf t.D) ∧ t.D.length = t.Dn) ∧ t.Ln ≤ 9223372036854775807 ∧ t.Dn ≤ 9223372036854775807 ∧ t.name.size ≤ maxLen ∧ ∀ d ∈ t.D, d.name.size ≤ maxLen
set_option maxRecDepth 100000 in
theorem readsTS (w : World) : ReadsP Try.prog w TS (TSP w) 63 := by
  intro H enc spare held fuel cs x hf
  obtain ⟨m, hl, E⟩ := trod_fields Try.underlying63 hf
  obtain ⟨y0, e0⟩ := E 0 _ rfl
  obtain ⟨y1, e1⟩ := E 1 _ rfl
  obtain ⟨y2, e2⟩ := E 2 _ rfl
  obtain ⟨y3, e3⟩ := E 3 _ rfl
  obtain ⟨y4, e4⟩ := E 4 _ rfl
  dsimp only at e0 e1 e2 e3 e4
  rw [cS] at e0
  rw [cI] at e1 e2
  rw [cLs] at e3
  rw [cDs] at e4
  rw [cTS] at hl
  obtain ⟨s0, g0, _, hs0⟩ := DataW.trod_string Try.underlying9 e0
  obtain ⟨z1, g1, _, _⟩ := DataW.trod_int Try.underlying3 e1
  obtain ⟨z2, g2, _, _⟩ := DataW.trod_int Try.underlying3 e2
  obtain ⟨LA, Ln, Lc, L, g3, l3, m3, r3, _, _, _⟩ := rows_trodP (α := TG) Try.underlying61 cTG (by decide) (readsTG w) e3
  obtain ⟨DA, Dn, Dc, D, g4, l4, m4, r4, _, p4, _⟩ := rows_trodP (α := DL) Try.underlying60 cDL (by decide) (readsDL w) e4
  refine ⟨⟨s0, z1, z2, LA, Ln, Lc, DA, Dn, Dc, L, D⟩, ?_, ⟨r3, l3, r4, l4⟩, by unfold maxLen at m3; omega, by unfold maxLen at m4; omega, hs0, p4⟩
  have q : cs = cs.drop 0 := rfl
  rw [q, seg cs 0 1 1 rfl, seg cs 1 1 2 rfl, seg cs 2 1 3 rfl, seg cs 3 1 4 rfl, seg_last cs 4 1 hl, g0, g1, g2, g3, g4]
  rfl
theorem bTS : Try.prog.bytesOf 63 = 80 := by kernel_rfl
set_option maxRecDepth 100000 in
theorem open_ts {H : Type} {enc : TypeId × Value → H} {w : World} {r : Reach} {b0 : Nat} {v : Value} {d : DataW H} {ps : List MemPlace}
    (hval : Value.okWide Try.prog w r b0 58 v) (h : DataW.Trod enc Try.prog w 0 (fun _ => true) true 58 v d ps) :
    ∃ (A : Option Addr) (n c : Nat) (ts : List TS), v = .slice A n c ∧ ts.length = n ∧ HR w A (cellsOf ts) ∧ HTs w ts ∧ TSWf ts ∧ n ≤ c ∧ ((∀ y ∈ d.weights Try.prog 58, y ≤ reachBytes) → n ≤ 10000000000000) := by
  obtain ⟨A, n, c, ts, h1, h2, h3, h4, h5, h6, h7⟩ := open_rowsP (α := TS) Try.underlying58 cTS (by decide) (readsTS w) hval h
  refine ⟨A, n, c, ts, h1, h2, ⟨h4⟩, ⟨fun t ht => (h6 t ht).1⟩, fun t ht => (h6 t ht).2, h5, fun hw => ?_⟩
  have h8 := h7 hw
  rw [bTS] at h8
  have h9 := reachBytes_lt
  omega
end Go.Proofs.Ytojbbmgghhmgmaa
