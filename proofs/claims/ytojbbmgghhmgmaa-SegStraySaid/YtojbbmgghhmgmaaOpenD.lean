/- Rows of bytes, opened, with what each row's header says. -/
import Derived.Test.YtojbbmgghhmgmaaOpen
open Go Go.RowKit Go.WideShapes Go.ChangeShapes Go.Deep
namespace Go.Proofs.Ytojbbmgghhmgmaa
section
variable {H : Type} {enc : TypeId × Value → H} {P : Program} {w : World}
theorem open_browsD {r : Reach} {b0 : Nat} {t e q : TypeId} {v : Value} {d : DataW H} {ps : List MemPlace} (ht : P.underlying t = some (.slice e)) (he : P.underlying e = some (.slice q)) (hq : P.underlying q = some (.int .u8)) (ce : P.cellsOf e = 1) (cq : P.cellsOf q = 1)
    (hval : Value.okWide P w r b0 t v) (h : DataW.Trod enc P w 0 (fun _ => true) true t v d ps) :
    ∃ (A : Option Addr) (n c : Nat) (l : List Row), v = .slice A n c ∧ l.length = n ∧ n ≤ maxLen ∧ Rd w A (rowsV l) ∧ RowsOk w l ∧ (∀ r ∈ l, r.p.length ≤ maxLen) ∧ n ≤ c ∧ (∀ r ∈ l, r.p.length ≤ r.c) := by
  obtain ⟨A, n, c, rfl⟩ := okWide_slice ht hval
  obtain ⟨fuel, hf⟩ := h
  rcases open_int_rows ht he hq ce cq hf with ⟨hcs, _⟩ | ⟨a, len, cap, RA, L, C, Z, hcs, _, hl, hm, _, hrows⟩
  · simp only [Value.cells, List.cons.injEq, and_true] at hcs
    injection hcs with h1 h2 h3
    subst h1; subst h2; subst h3
    exact ⟨_, _, _, [], rfl, rfl, by simp, Rd.nil _ _, (fun r hr => by cases hr), (fun r hr => by cases hr), Nat.le_refl _, (fun r hr => by cases hr)⟩
  · simp only [Value.cells, List.cons.injEq, and_true] at hcs
    injection hcs with h1 h2 h3
    subst h1; subst h2; subst h3
    have hrow : ∀ i, i < n → ∃ r : Row, r.A = RA i ∧ r.c = C i ∧ r.p.length = L i ∧ Rd w r.A (bs r.p) ∧ L i ≤ maxLen ∧ L i ≤ C i := fun i hi => by
      obtain ⟨h4, h5, h6, h7, h8, h9, h10⟩ := hrows i (by omega)
      obtain ⟨xs, h11, h12⟩ := bytes_of ((Z i).take (L i)) (fun z hz => h8 z (List.mem_of_mem_take hz))
      refine ⟨⟨RA i, C i, xs⟩, rfl, rfl, ?_, ?_, by omega, by omega⟩
      · show xs.length = L i
        rw [h12, List.length_take]; omega
      · show Rd w (RA i) (bs xs)
        rcases hA : RA i with _ | a'
        · have : xs = [] := List.eq_nil_of_length_eq_zero (by rw [h12, List.length_take]; have := h9 hA; omega)
          rw [this]; exact Rd.nil _ _
        · rw [← h11]
          exact rd_ints (fun i' hi' => (h10 a' hA).2 i' (by omega)) (by omega)
    obtain ⟨F, hF⟩ : ∃ F : Nat → Row, ∀ i, i < n → (F i).A = RA i ∧ (F i).c = C i ∧ (F i).p.length = L i ∧ Rd w (F i).A (bs (F i).p) ∧ L i ≤ maxLen ∧ L i ≤ C i :=
      ⟨fun i => if h : i < n then Classical.choose (hrow i h) else ⟨none, 0, []⟩, fun i hi => by simp only [dif_pos hi]; exact Classical.choose_spec (hrow i hi)⟩
    refine ⟨_, _, _, (List.range n).map F, rfl, by simp, by omega, ?_, ?_, ?_, hl, ?_⟩
    · intro i u hu
      have hi : i < n := by
        have h1 := (List.getElem?_eq_some_iff.1 hu).1
        simpa [rowsV] using h1
      obtain ⟨h4, _⟩ := hrows i (by omega)
      obtain ⟨h5, h6, h7, _⟩ := hF i hi
      refine ⟨a, rfl, ?_⟩
      rw [h4]
      simp only [rowsV, List.getElem?_map, List.getElem?_range hi, Option.map_some, Option.some.injEq] at hu
      rw [← hu, Row.v, h5, h6, h7]
    · intro r hr
      obtain ⟨i, hi, rfl⟩ := List.mem_map.1 hr
      exact (hF i (List.mem_range.1 hi)).2.2.2.1
    · intro r hr
      obtain ⟨i, hi, rfl⟩ := List.mem_map.1 hr
      obtain ⟨_, _, h7, _, h8, _⟩ := hF i (List.mem_range.1 hi)
      omega
    · intro r hr
      obtain ⟨i, hi, rfl⟩ := List.mem_map.1 hr
      obtain ⟨_, h6, h7, _, _, h9⟩ := hF i (List.mem_range.1 hi)
      omega
end
end Go.Proofs.Ytojbbmgghhmgmaa
