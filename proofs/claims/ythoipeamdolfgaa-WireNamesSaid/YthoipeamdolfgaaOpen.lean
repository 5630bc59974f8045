/- A law's arguments, opened to the words of memory. -/
import Derived.Test.YthoipeamdolfgaaLaw
import Derived.Deep.Matrix
open Go Go.RowKit Go.WideShapes Go.ChangeShapes Go.Deep
namespace Go.Proofs.Ythoipeamdolfgaa
section
variable {H : Type} {enc : TypeId × Value → H} {P : Program} {w : World}
theorem rd_ints {a : Addr} {k : IntKind} {zs : List Int} {n : Nat} (h : ∀ i, i < n → w.cell? (a.add i) = some (.int k (zs.getD i 0))) (hn : n ≤ zs.length) : Rd w (some a) ((zs.take n).map (.int k)) := fun i u hu => by
  refine ⟨a, rfl, ?_⟩
  have hi : i < n := by
    rcases Nat.lt_or_ge i n with h | h
    · exact h
    · rw [List.getElem?_eq_none (by simp; omega)] at hu; cases hu
  rw [h i hi]
  rw [List.getElem?_map, List.getElem?_take, if_pos hi] at hu
  rw [List.getD_eq_getElem?_getD]
  rcases hz : zs[i]? with _ | z
  · rw [hz] at hu; cases hu
  · rw [hz] at hu
    simpa using hu
theorem open_isl {r : Reach} {b0 : Nat} {t e : TypeId} {k : IntKind} {v : Value} {d : DataW H} {ps : List MemPlace} (ht : P.underlying t = some (.slice e)) (he : P.underlying e = some (.int k)) (hc : P.cellsOf e = 1)
    (hval : Value.okWide P w r b0 t v) (h : DataW.Trod enc P w 0 (fun _ => true) true t v d ps) :
    ∃ (A : Option Addr) (n c : Nat) (zs : List Int), v = .slice A n c ∧ zs.length = n ∧ n ≤ maxLen ∧ Rd w A (zs.map (.int k)) ∧ ∀ z ∈ zs, (Lit.int k z).wf = true := by
  obtain ⟨A, n, c, rfl⟩ := okWide_slice ht hval
  obtain ⟨fuel, hf⟩ := h
  rcases open_ints ht he hc hf with ⟨hcs, _⟩ | ⟨a, len, cap, zs, hcs, _, hl, hm, hz, _, hcell, hwz⟩
  · simp only [Value.cells, List.cons.injEq, and_true] at hcs
    injection hcs with h1 h2 h3
    subst h1; subst h2; subst h3
    exact ⟨_, _, _, [], rfl, rfl, by simp, Rd.nil _ _, fun z hz => by cases hz⟩
  · simp only [Value.cells, List.cons.injEq, and_true] at hcs
    injection hcs with h1 h2 h3
    subst h1; subst h2; subst h3
    simp only [if_true] at hz
    exact ⟨_, _, _, zs.take n, rfl, by simp; omega, by omega, rd_ints (fun i hi => hcell i (by omega)) (by omega), fun z hz => hwz z (List.mem_of_mem_take hz)⟩
theorem wf_u8 {z : Int} (h : (Lit.int .u8 z).wf = true) : 0 ≤ z ∧ z < 256 := by
  simpa [Lit.wf, IntKind.min, IntKind.max, IntKind.signed, IntKind.bits, Int.le_iff_lt_add_one] using h
theorem u8_of {z : Int} (h : (Lit.int .u8 z).wf = true) : ∃ y : UInt8, z = (y.toNat : Int) := by
  obtain ⟨h3, h4⟩ := wf_u8 h
  exact ⟨UInt8.ofNat z.toNat, by simp; omega⟩
theorem bytes_of (zs : List Int) (h : ∀ z ∈ zs, (Lit.int .u8 z).wf = true) : ∃ xs : List UInt8, zs.map (.int .u8) = bs xs ∧ xs.length = zs.length := by
  induction zs with
  | nil => exact ⟨[], rfl, rfl⟩
  | cons z zs ih =>
    obtain ⟨xs, h1, h2⟩ := ih (fun z hz => h z (by simp [hz]))
    obtain ⟨h3, h4⟩ := wf_u8 (h z (by simp))
    refine ⟨UInt8.ofNat z.toNat :: xs, ?_, by simp [h2]⟩
    simp only [List.map_cons, h1, bs, u8v]
    congr 2
    simp
    omega
theorem open_bsl {r : Reach} {b0 : Nat} {t e : TypeId} {v : Value} {d : DataW H} {ps : List MemPlace} (ht : P.underlying t = some (.slice e)) (he : P.underlying e = some (.int .u8)) (hc : P.cellsOf e = 1)
    (hval : Value.okWide P w r b0 t v) (h : DataW.Trod enc P w 0 (fun _ => true) true t v d ps) :
    ∃ (A : Option Addr) (n c : Nat) (xs : List UInt8), v = .slice A n c ∧ xs.length = n ∧ n ≤ maxLen ∧ Rd w A (bs xs) := by
  obtain ⟨A, n, c, zs, rfl, hl, hm, hr, hw⟩ := open_isl ht he hc hval h
  obtain ⟨xs, h1, h2⟩ := bytes_of zs hw
  exact ⟨A, n, c, xs, rfl, by omega, hm, by rw [← h1]; exact hr⟩
theorem open_brows {r : Reach} {b0 : Nat} {t e q : TypeId} {v : Value} {d : DataW H} {ps : List MemPlace} (ht : P.underlying t = some (.slice e)) (he : P.underlying e = some (.slice q)) (hq : P.underlying q = some (.int .u8)) (ce : P.cellsOf e = 1) (cq : P.cellsOf q = 1)
    (hval : Value.okWide P w r b0 t v) (h : DataW.Trod enc P w 0 (fun _ => true) true t v d ps) :
    ∃ (A : Option Addr) (n c : Nat) (l : List Row), v = .slice A n c ∧ l.length = n ∧ n ≤ maxLen ∧ Rd w A (rowsV l) ∧ RowsOk w l ∧ ∀ r ∈ l, r.p.length ≤ maxLen := by
  obtain ⟨A, n, c, rfl⟩ := okWide_slice ht hval
  obtain ⟨fuel, hf⟩ := h
  rcases open_int_rows ht he hq ce cq hf with ⟨hcs, _⟩ | ⟨a, len, cap, RA, L, C, Z, hcs, _, hl, hm, _, hrows⟩
  · simp only [Value.cells, List.cons.injEq, and_true] at hcs
    injection hcs with h1 h2 h3
    subst h1; subst h2; subst h3
    exact ⟨_, _, _, [], rfl, rfl, by simp, Rd.nil _ _, (fun r hr => by cases hr), (fun r hr => by cases hr)⟩
  · simp only [Value.cells, List.cons.injEq, and_true] at hcs
    injection hcs with h1 h2 h3
    subst h1; subst h2; subst h3
    have hrow : ∀ i, i < n → ∃ r : Row, r.A = RA i ∧ r.c = C i ∧ r.p.length = L i ∧ Rd w r.A (bs r.p) ∧ L i ≤ maxLen := fun i hi => by
      obtain ⟨h4, h5, h6, h7, h8, h9, h10⟩ := hrows i (by omega)
      obtain ⟨xs, h11, h12⟩ := bytes_of ((Z i).take (L i)) (fun z hz => h8 z (List.mem_of_mem_take hz))
      refine ⟨⟨RA i, C i, xs⟩, rfl, rfl, ?_, ?_, by omega⟩
      · show xs.length = L i
        rw [h12, List.length_take]; omega
      · show Rd w (RA i) (bs xs)
        rcases hA : RA i with _ | a'
        · have : xs = [] := List.eq_nil_of_length_eq_zero (by rw [h12, List.length_take]; have := h9 hA; omega)
          rw [this]; exact Rd.nil _ _
        · rw [← h11]
          exact rd_ints (fun i' hi' => (h10 a' hA).2 i' (by omega)) (by omega)
    obtain ⟨F, hF⟩ : ∃ F : Nat → Row, ∀ i, i < n → (F i).A = RA i ∧ (F i).c = C i ∧ (F i).p.length = L i ∧ Rd w (F i).A (bs (F i).p) ∧ L i ≤ maxLen :=
      ⟨fun i => if h : i < n then Classical.choose (hrow i h) else ⟨none, 0, []⟩, fun i hi => by simp only [dif_pos hi]; exact Classical.choose_spec (hrow i hi)⟩
    refine ⟨_, _, _, (List.range n).map F, rfl, by simp, by omega, ?_, ?_, ?_⟩
    · intro i u hu
      have hi : i < n := by
        have h1 := (List.getElem?_eq_some_iff.1 hu).1
        simpa [rowsV] using h1
      obtain ⟨h4, _⟩ := hrows i (by omega)
      obtain ⟨h5, h6, h7, _⟩ := hF i hi
      refine ⟨a, rfl, ?_⟩
      rw [h4]
      simp only [rowsV, List.getElem?_map, List.getElem?_range hi, Option.map_some, Option.some.injEq] at hu
      rw [← hu, Row.v, h5, h6, h7]
    · intro r hr
      obtain ⟨i, hi, rfl⟩ := List.mem_map.1 hr
      exact (hF i (List.mem_range.1 hi)).2.2.2.1
    · intro r hr
      obtain ⟨i, hi, rfl⟩ := List.mem_map.1 hr
      obtain ⟨_, _, h7, _, h8⟩ := hF i (List.mem_range.1 hi)
      omega
theorem open_browsC {r : Reach} {b0 : Nat} {t e q : TypeId} {v : Value} {d : DataW H} {ps : List MemPlace} (ht : P.underlying t = some (.slice e)) (he : P.underlying e = some (.slice q)) (hq : P.underlying q = some (.int .u8)) (ce : P.cellsOf e = 1) (cq : P.cellsOf q = 1)
    (hval : Value.okWide P w r b0 t v) (h : DataW.Trod enc P w 0 (fun _ => true) true t v d ps) :
    ∃ (A : Option Addr) (n c : Nat) (l : List Row), v = .slice A n c ∧ l.length = n ∧ n ≤ maxLen ∧ Rd w A (rowsV l) ∧ RowsOk w l ∧ (∀ r ∈ l, r.p.length ≤ maxLen) ∧ n ≤ c := by
  obtain ⟨A, n, c, rfl⟩ := okWide_slice ht hval
  obtain ⟨fuel, hf⟩ := h
  rcases open_int_rows ht he hq ce cq hf with ⟨hcs, _⟩ | ⟨a, len, cap, RA, L, C, Z, hcs, _, hl, hm, _, hrows⟩
  · simp only [Value.cells, List.cons.injEq, and_true] at hcs
    injection hcs with h1 h2 h3
    subst h1; subst h2; subst h3
    exact ⟨_, _, _, [], rfl, rfl, by simp, Rd.nil _ _, (fun r hr => by cases hr), (fun r hr => by cases hr), Nat.le_refl _⟩
  · simp only [Value.cells, List.cons.injEq, and_true] at hcs
    injection hcs with h1 h2 h3
    subst h1; subst h2; subst h3
    have hrow : ∀ i, i < n → ∃ r : Row, r.A = RA i ∧ r.c = C i ∧ r.p.length = L i ∧ Rd w r.A (bs r.p) ∧ L i ≤ maxLen := fun i hi => by
      obtain ⟨h4, h5, h6, h7, h8, h9, h10⟩ := hrows i (by omega)
      obtain ⟨xs, h11, h12⟩ := bytes_of ((Z i).take (L i)) (fun z hz => h8 z (List.mem_of_mem_take hz))
      refine ⟨⟨RA i, C i, xs⟩, rfl, rfl, ?_, ?_, by omega⟩
      · show xs.length = L i
        rw [h12, List.length_take]; omega
      · show Rd w (RA i) (bs xs)
        rcases hA : RA i with _ | a'
        · have : xs = [] := List.eq_nil_of_length_eq_zero (by rw [h12, List.length_take]; have := h9 hA; omega)
          rw [this]; exact Rd.nil _ _
        · rw [← h11]
          exact rd_ints (fun i' hi' => (h10 a' hA).2 i' (by omega)) (by omega)
    obtain ⟨F, hF⟩ : ∃ F : Nat → Row, ∀ i, i < n → (F i).A = RA i ∧ (F i).c = C i ∧ (F i).p.length = L i ∧ Rd w (F i).A (bs (F i).p) ∧ L i ≤ maxLen :=
      ⟨fun i => if h : i < n then Classical.choose (hrow i h) else ⟨none, 0, []⟩, fun i hi => by simp only [dif_pos hi]; exact Classical.choose_spec (hrow i hi)⟩
    refine ⟨_, _, _, (List.range n).map F, rfl, by simp, by omega, ?_, ?_, ?_, hl⟩
    · intro i u hu
      have hi : i < n := by
        have h1 := (List.getElem?_eq_some_iff.1 hu).1
        simpa [rowsV] using h1
      obtain ⟨h4, _⟩ := hrows i (by omega)
      obtain ⟨h5, h6, h7, _⟩ := hF i hi
      refine ⟨a, rfl, ?_⟩
      rw [h4]
      simp only [rowsV, List.getElem?_map, List.getElem?_range hi, Option.map_some, Option.some.injEq] at hu
      rw [← hu, Row.v, h5, h6, h7]
    · intro r hr
      obtain ⟨i, hi, rfl⟩ := List.mem_map.1 hr
      exact (hF i (List.mem_range.1 hi)).2.2.2.1
    · intro r hr
      obtain ⟨i, hi, rfl⟩ := List.mem_map.1 hr
      obtain ⟨_, _, h7, _, h8⟩ := hF i (List.mem_range.1 hi)
      omega
end
end Go.Proofs.Ythoipeamdolfgaa
