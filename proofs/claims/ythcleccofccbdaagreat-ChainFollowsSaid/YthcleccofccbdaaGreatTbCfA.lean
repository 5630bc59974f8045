/- Rows of envelopes, opened. -/
import Derived.Test.YthcleccofccbdaaGreatTbChF
open Go Go.RowKit Go.WideShapes Go.ChangeShapes Go.Deep
namespace Go.Proofs.YthcleccofccbdaaGreat
/-- what is told of an envelope that is read -/
structure EnvIn0 (w : World) (r : EnvR) : Prop where
  mr : Rd w r.M (bs r.m)
  ar : Rd w r.A (cellsOf r.l)
  marks : ∀ x ∈ r.l, MarkIn w x
  ml : r.m.length = r.nb
  mc : r.nb ≤ r.cb
  al : r.l.length = r.n
  ac : r.n ≤ r.c
  an : r.n ≤ 9223372036854775807
theorem EnvIn0.env {w : World} {r : EnvR} (h : EnvIn0 w r) (hn : r.nb ≤ 140737488351232) : EnvIn w r := ⟨h.mr, h.ar, h.marks, h.ml, h.mc, h.al, h.ac, h.an, hn⟩
set_option maxRecDepth 100000 in
theorem readsQ_env (w : World) : ReadsQ Tryz.prog w EnvR (EnvIn0 w) (fun r => r.nb ≤ 140737488351232) 133 := fun H enc spare held fuel cs x hf => by
  obtain ⟨m0, hl, E⟩ := trod_fields2 Tryz.underlying133 hf
  obtain ⟨y0, e0, w0⟩ := E 0 _ rfl
  obtain ⟨y1, e1, _⟩ := E 1 _ rfl
  dsimp only at e0 e1 w0
  rw [cBs] at e0
  rw [cMs] at e1
  rw [cEnv] at hl
  obtain ⟨A, n, c, m, g1, l1, _, r1, c1, _, q1⟩ := rows_trodQ (α := UInt8) Tryz.underlying26 cU (by decide) (readsQ_u8 Tryz.underlying5) e0
  obtain ⟨B, q, k, l, g2, l2, m2, r2, c2, p2, _⟩ := rows_trodP (α := MarkR) Tryz.underlying131 cMark (by decide) (readsP_mark w) e1
  rw [cellsOf_bytes] at r1
  refine ⟨⟨A, n, c, B, q, k, m, l⟩, ?_, ⟨r1, r2, p2, l1, c1, l2, c2, by unfold maxLen at m2; show q ≤ _; omega⟩, fun hw => ?_⟩
  · show cs = [.slice A n c, .slice B q k]
    have qq : cs = cs.drop 0 := rfl
    rw [qq, seg cs 0 1 1 rfl, seg_last cs 1 1 hl, g1, g2]
    rfl
  · have h1 := (q1 (fun u hu => hw u (w0 u hu))).1
    rw [bU] at h1
    have h9 : reachBytes = 140737488351232 := by decide
    show n ≤ _
    omega
set_option maxRecDepth 100000 in
theorem open_envs {H : Type} {enc : TypeId × Value → H} {w : World} {r : Reach} {b0 : Nat} {v : Value} {d : DataW H} {ps : List MemPlace}
    (hval : Value.okWide Tryz.prog w r b0 75 v) (h : DataW.Trod enc Tryz.prog w 0 (fun _ => true) true 75 v d ps) :
    ∃ (A : Option Addr) (n c : Nat) (L : List EnvR), v = .slice A n c ∧ L.length = n ∧ n ≤ maxLen ∧ Rd w A (cellsOf L) ∧ n ≤ c ∧ (∀ b ∈ L, EnvIn0 w b) ∧ ((∀ y ∈ d.weights Tryz.prog 75, y ≤ reachBytes) → ∀ b ∈ L, b.nb ≤ 140737488351232) := by
  obtain ⟨A, n, c, rfl⟩ := okWide_slice Tryz.underlying75 hval
  obtain ⟨fuel, hf⟩ := h
  obtain ⟨A', n', c', l, h1, h2, h3, h4, h5, h6, h7⟩ := rows_trodQ (α := EnvR) Tryz.underlying75 cEnv (by decide) (readsQ_env w) hf
  have h1' : (Value.slice A n c) = .slice A' n' c' := by
    have : [Value.slice A n c] = [.slice A' n' c'] := h1
    injection this
  exact ⟨A', n', c', l, h1', h2, h3, h4, h5, h6, fun hw => (h7 hw).2⟩
end Go.Proofs.YthcleccofccbdaaGreat
