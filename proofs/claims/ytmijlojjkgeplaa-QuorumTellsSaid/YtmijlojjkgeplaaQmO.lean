/- Envelopes by value, opened. -/
import Derived.Test.YtmijlojjkgeplaaQmA
import Derived.Test.YtmijlojjkgeplaaKyO
open Go Go.RowKit Go.WideShapes Go.ChangeShapes Go.Deep
namespace Go.Proofs.Ytmijlojjkgeplaa
theorem cMark : Try.prog.cellsOf 74 = 35 := by kernel_rfl
theorem cEnv : Try.prog.cellsOf 61 = 2 := by kernel_rfl
theorem cBs : Try.prog.cellsOf 39 = 1 := by kernel_rfl
theorem cMs : Try.prog.cellsOf 59 = 1 := by kernel_rfl
theorem bU : Try.prog.bytesOf 5 = 1 := by kernel_rfl
set_option maxRecDepth 100000 in
theorem readsP_mark (w : World) : ReadsP Try.prog w MarkR (MarkIn w) 74 := fun H enc spare held fuel cs x hf => by
  obtain ⟨m0, hl, E⟩ := trod_fields2 Try.underlying74 hf
  obtain ⟨y0, e0, _⟩ := E 0 _ rfl
  obtain ⟨y1, e1, _⟩ := E 1 _ rfl
  dsimp only at e0 e1
  rw [cH] at e0
  rw [cSig] at e1
  rw [cMark] at hl
  obtain ⟨key, hk⟩ := readsHash H enc w 0 spare held m0 _ y0 e0
  obtain ⟨m1, hl1, E1⟩ := trod_fields2 Try.underlying35 e1
  obtain ⟨D, hD⟩ : ∃ D, D = (cs.drop 32).take 3 := ⟨_, rfl⟩
  rw [← hD] at hl1 E1
  obtain ⟨z0, f0, _⟩ := E1 0 _ rfl
  obtain ⟨z1, f1, _⟩ := E1 1 _ rfl
  obtain ⟨z2, f2, _⟩ := E1 2 _ rfl
  dsimp only at f0 f1 f2
  rw [cI] at f0
  rw [cKs] at f1 f2
  rw [cSig] at hl1
  obtain ⟨leaf, g0, _, _⟩ := DataW.trod_int Try.underlying3 f0
  obtain ⟨A, n, c, l, g1, l1, _, r1, _, _, _⟩ := rows_trodP (α := H32) Try.underlying31 cH (by decide) (reads_of readsHash) f1
  obtain ⟨B, m, k, p, g2, l2, _, r2, _, _, _⟩ := rows_trodP (α := H32) Try.underlying31 cH (by decide) (reads_of readsHash) f2
  subst l1 l2
  refine ⟨⟨key, leaf, A, c, l, B, k, p⟩, ?_, ⟨r1, r2⟩⟩
  show cs = bs key.l ++ [.int .i64 leaf, .slice A l.length c, .slice B p.length k]
  have q1 : D = [.int .i64 leaf, .slice A l.length c, .slice B p.length k] := by
    have q : D = D.drop 0 := rfl
    rw [q, seg D 0 1 1 rfl, seg D 1 1 2 rfl, seg_last D 2 1 hl1, g0, g1, g2]
    rfl
  have q : cs = cs.drop 0 := rfl
  rw [q, seg cs 0 32 32 rfl, seg_last cs 32 3 hl, ← hD, q1, hk]
  rfl
set_option maxRecDepth 100000 in
theorem open_env {H : Type} {enc : TypeId × Value → H} {w : World} {r : Reach} {b0 : Nat} {v : Value} {d : DataW H} {ps : List MemPlace}
    (hval : Value.okWide Try.prog w r b0 61 v) (h : DataW.Trod enc Try.prog w 0 (fun _ => true) true 61 v d ps) :
    ∃ (A : Option Addr) (n c : Nat) (m : List UInt8) (B : Option Addr) (q k : Nat) (l : List MarkR), v = .agg #[.slice A n c, .slice B q k] ∧ m.length = n ∧ HR w A (bs m) ∧ n ≤ c ∧ l.length = q ∧ HR w B (cellsOf l) ∧ q ≤ k ∧ q ≤ maxLen ∧ (∀ r ∈ l, MarkIn w r) ∧
      ((∀ y ∈ d.weights Try.prog 61, y ≤ reachBytes) → n ≤ 140737488351232) := by
  obtain ⟨cs, rfl, hsz⟩ := okWide_struct Try.underlying61 hval
  obtain ⟨fuel, hf⟩ := h
  obtain ⟨m0, hl, E⟩ := trod_fields2 Try.underlying61 hf
  have hcs : (Value.agg cs).cells.toList = cs.toList := rfl
  rw [hcs] at hl
  obtain ⟨y0, e0, w0⟩ := E 0 _ rfl
  obtain ⟨y1, e1, _⟩ := E 1 _ rfl
  dsimp only at e0 e1 w0
  rw [cBs, hcs] at e0
  rw [cMs, hcs] at e1
  rw [cEnv] at hl
  obtain ⟨A, n, c, m, g1, l1, m1, r1, c1, _, q1⟩ := rows_trodQ (α := UInt8) Try.underlying39 cU (by decide) (readsQ_u8 Try.underlying5) e0
  obtain ⟨B, q, k, l, g2, l2, m2, r2, c2, p2, _⟩ := rows_trodP (α := MarkR) Try.underlying59 cMark (by decide) (readsP_mark w) e1
  rw [cellsOf_bytes] at r1
  refine ⟨A, n, c, m, B, q, k, l, ?_, l1, ⟨r1⟩, c1, l2, ⟨r2⟩, c2, m2, p2, fun hw => ?_⟩
  · congr 1
    apply Array.ext'
    have qq : cs.toList = cs.toList.drop 0 := rfl
    rw [qq, seg cs.toList 0 1 1 rfl, seg_last cs.toList 1 1 hl, g1, g2]
    rfl
  · have h1 := (q1 (fun u hu => hw u (w0 u hu))).1
    rw [bU] at h1
    have h9 : reachBytes = 140737488351232 := by decide
    omega
end Go.Proofs.Ytmijlojjkgeplaa
