/- A law's arguments, opened: a slice of bools. -/
import Derived.Test.YthoipeamdolfgaaOpen
import Derived.Deep.Grids
open Go Go.RowKit Go.WideShapes Go.ChangeShapes Go.Deep
namespace Go.Proofs.Ythoipeamdolfgaa
theorem open_bosl {H : Type} {enc : TypeId × Value → H} {P : Program} {w : World} {r : Reach} {b0 : Nat} {t e : TypeId} {v : Value} {d : DataW H} {ps : List MemPlace} (ht : P.underlying t = some (.slice e)) (he : P.underlying e = some .bool) (hc : P.cellsOf e = 1)
    (hval : Value.okWide P w r b0 t v) (h : DataW.Trod enc P w 0 (fun _ => true) true t v d ps) :
    ∃ (A : Option Addr) (n c : Nat) (ks : List Bool), v = .slice A n c ∧ ks.length = n ∧ n ≤ maxLen ∧ Rd w A (ks.map .bool) := by
  obtain ⟨A, n, c, rfl⟩ := okWide_slice ht hval
  obtain ⟨fuel, hf⟩ := h
  rcases open_bools ht he hc hf with ⟨hcs, _⟩ | ⟨a, len, cap, B, hcs, _, hl, hm, _, hcell⟩
  · simp only [Value.cells, List.cons.injEq, and_true] at hcs
    injection hcs with h1 h2 h3
    subst h1; subst h2; subst h3
    exact ⟨_, _, _, [], rfl, rfl, by simp, Rd.nil _ _⟩
  · simp only [Value.cells, List.cons.injEq, and_true] at hcs
    injection hcs with h1 h2 h3
    subst h1; subst h2; subst h3
    refine ⟨_, _, _, (List.range n).map B, rfl, by simp, by omega, fun i u hu => ⟨a, rfl, ?_⟩⟩
    have hi : i < n := by simpa using (List.getElem?_eq_some_iff.1 hu).1
    rw [hcell i (by omega)]
    simpa [List.getElem?_range hi] using hu
theorem open_bslC {H : Type} {enc : TypeId × Value → H} {P : Program} {w : World} {r : Reach} {b0 : Nat} {t e : TypeId} {v : Value} {d : DataW H} {ps : List MemPlace} (ht : P.underlying t = some (.slice e)) (he : P.underlying e = some (.int .u8)) (hc : P.cellsOf e = 1)
    (hval : Value.okWide P w r b0 t v) (h : DataW.Trod enc P w 0 (fun _ => true) true t v d ps) :
    ∃ (A : Option Addr) (n c : Nat) (xs : List UInt8), v = .slice A n c ∧ xs.length = n ∧ n ≤ maxLen ∧ Rd w A (bs xs) ∧ n ≤ c := by
  obtain ⟨A, n, c, xs, rfl, h1, h2, h3⟩ := open_bsl ht he hc hval h
  refine ⟨A, n, c, xs, rfl, h1, h2, h3, ?_⟩
  obtain ⟨fuel, hf⟩ := h
  rcases open_ints ht he hc hf with ⟨hcs, _⟩ | ⟨a, len, cap, zs, hcs, _, hl, hm, hz, _, hcell, hwz⟩
  · simp only [Value.cells, List.cons.injEq, and_true] at hcs
    injection hcs with h1 h2 h3
    omega
  · simp only [Value.cells, List.cons.injEq, and_true] at hcs
    injection hcs with h1 h2 h3
    omega
theorem open_bslZ {H : Type} {enc : TypeId × Value → H} {P : Program} {w : World} {r : Reach} {b0 : Nat} {t e : TypeId} {v : Value} {d : DataW H} {ps : List MemPlace} (ht : P.underlying t = some (.slice e)) (he : P.underlying e = some (.int .u8)) (hc : P.cellsOf e = 1) (hy : P.bytesOf e = 1)
    (hval : Value.okWide P w r b0 t v) (h : DataW.Trod enc P w 0 (fun _ => true) true t v d ps) :
    ∃ (A : Option Addr) (n c : Nat) (xs : List UInt8), v = .slice A n c ∧ xs.length = n ∧ n ≤ maxLen ∧ Rd w A (bs xs) ∧ n ≤ c ∧ ((∀ x ∈ d.weights P t, x ≤ reachBytes) → n ≤ 140737488355328) := by
  obtain ⟨A, n, c, xs, rfl, h1, h2, h3, h4⟩ := open_bslC ht he hc hval h
  refine ⟨A, n, c, xs, rfl, h1, h2, h3, h4, fun hz => ?_⟩
  obtain ⟨fuel, hf⟩ := h
  rcases open_ints ht he hc hf with ⟨hcs, _⟩ | ⟨a, len, cap, zs, hcs, _, hl, hm, hlz, hx, hcell, hwz⟩
  · simp only [Value.cells, List.cons.injEq, and_true] at hcs
    injection hcs with h1 h2 h3
    omega
  · simp only [Value.cells, List.cons.injEq, and_true] at hcs
    injection hcs with h1 h2 h3
    injection hx with hx _
    subst hx
    have h5 := hz ((lits .u8 (zs.take len)).length + (lits .u8 (zs.drop len)).length) (by simp [DataW.weights, ht, hy]; exact .inl rfl)
    have h6 := reachBytes_lt
    simp only [if_true] at hlz
    simp [lits] at h5
    omega
theorem wf_i64 {z : Int} (h : (Lit.int .i64 z).wf = true) : -9223372036854775808 ≤ z ∧ z ≤ 9223372036854775807 := by
  simpa [Lit.wf, IntKind.min, IntKind.max, IntKind.signed, IntKind.bits, Int.le_iff_lt_add_one] using h
end Go.Proofs.Ythoipeamdolfgaa
