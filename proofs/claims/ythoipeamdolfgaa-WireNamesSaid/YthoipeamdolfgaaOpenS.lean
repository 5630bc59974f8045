/- Structs with slices among their fields, opened. -/
import Derived.Test.YthoipeamdolfgaaOpenR
open Go Go.RowKit Go.WideShapes Go.ChangeShapes Go.Deep
namespace Go.Proofs.Ythoipeamdolfgaa
theorem rows_trod {α : Type} [RowC α] {H : Type} {enc : TypeId × Value → H} {P : Program} {w : World} {base : Nat} {spare : Nat → Bool} {held : Bool} {fuel : Nat} {t e : TypeId} {cs : List Value} {x : DataW H × List MemPlace} (ht : P.underlying t = some (.slice e)) (hc : P.cellsOf e = RowC.size α) (hp : 0 < RowC.size α) (hr : ReadsAs P α e) (hb : base = 0)
    (hf : DataW.trod enc P w base spare held fuel t cs = some x) :
    ∃ (A : Option Addr) (n c : Nat) (l : List α), cs = [.slice A n c] ∧ l.length = n ∧ n ≤ maxLen ∧ Rd w A (cellsOf l) ∧ n ≤ c := by
  subst hb
  rcases DataW.trod_slice ht hf with ⟨hcs, _⟩ | ⟨a, n, cap, elems, rest, m, _, hcs, _, _, hlc, hcm, hel, hrow, _⟩
  · exact ⟨_, _, _, [], hcs, rfl, by simp, Rd.nil _ _, Nat.le_refl _⟩
  · have hone : ∀ i, i < n → ∃ b : α, w.cells? 0 (a.add (i * RowC.size α)) (RowC.size α) = some (RowC.enc b) := fun i hi => by
      have h1 := hrow i hi
      rw [hc, List.getElem?_eq_getElem (by omega)] at h1
      obtain ⟨cs, h2, h3⟩ := Option.bind_eq_some_iff.1 h1
      obtain ⟨b, rfl⟩ := hr _ _ _ _ _ _ _ _ _ h3
      exact ⟨b, h2⟩
    obtain ⟨F, hF⟩ : ∃ F : Nat → α, ∀ i, i < n → w.cells? 0 (a.add (i * RowC.size α)) (RowC.size α) = some (RowC.enc (F i)) :=
      ⟨fun i => if h : i < n then Classical.choose (hone i h) else RowC.zero, fun i hi => by simp only [dif_pos hi]; exact Classical.choose_spec (hone i hi)⟩
    refine ⟨_, _, _, (List.range n).map F, hcs, by simp, by omega, fun k u hk => ⟨a, rfl, ?_⟩, hlc⟩
    have hlen : k < n * RowC.size α := by
      have := (List.getElem?_eq_some_iff.1 hk).1
      rwa [cellsOf_len, List.length_map, List.length_range] at this
    have hi : k / RowC.size α < n := (Nat.div_lt_iff_lt_mul hp).2 hlen
    have hj : k % RowC.size α < RowC.size α := Nat.mod_lt _ hp
    have hat := cellsOf_at ((List.range n).map F) (k / RowC.size α) (by simpa using hi)
    have hget : ((List.range n).map F).getD (k / RowC.size α) RowC.zero = F (k / RowC.size α) := by simp [List.getD_eq_getElem?_getD, hi]
    rw [hget] at hat
    have hk2 : (RowC.enc (F (k / RowC.size α)))[k % RowC.size α]? = some u := by
      rw [← hat, List.getElem?_take, if_pos hj, List.getElem?_drop, Nat.mul_comm, Nat.div_add_mod]
      exact hk
    have hcl := cells_get (hF _ hi) _ _ hk2
    rw [add_of_add, Nat.mul_comm, Nat.div_add_mod] at hcl
    exact hcl
/-- keys by value -/
theorem open_keys {H : Type} {enc : TypeId × Value → H} {P : Program} {w : World} {r : Reach} {b0 : Nat} {t ts e q ti : TypeId} {v : Value} {d : DataW H} {ps : List MemPlace} {f0 f1 : Field} (ht : P.underlying t = some (.struct #[f0, f1])) (h0 : f0.type = ts) (h1 : f1.type = ti) (o0 : f0.offset = 0) (o1 : f1.offset = 1) (hts : P.underlying ts = some (.slice e)) (hti : P.underlying ti = some (.int .i64))
    (he : P.underlying e = some (.array 32 q)) (hq : P.underlying q = some (.int .u8)) (cq : P.cellsOf q = 1) (ce : P.cellsOf e = 32) (cts : P.cellsOf ts = 1) (cti : P.cellsOf ti = 1) (ct : P.cellsOf t = 2)
    (hval : Value.okWide P w r b0 t v) (h : DataW.Trod enc P w 0 (fun _ => true) true t v d ps) :
    ∃ (A : Option Addr) (n c : Nat) (l : List H32) (need : Int), v = .agg #[.slice A n c, .int .i64 need] ∧ l.length = n ∧ n ≤ maxLen ∧ Rd w A (cellsOf l) ∧ n ≤ c := by
  obtain ⟨cs, rfl, hsz⟩ := okWide_struct ht hval
  obtain ⟨fuel, hf⟩ := h
  obtain ⟨xs, m, _, _, hl, hxl, hel⟩ := DataW.trod_struct ht hf
  have hcs : (Value.agg cs).cells.toList = cs.toList := rfl
  rw [hcs] at hl hel
  have e0 := hel 0 f0 rfl
  have e1 := hel 1 f1 rfl
  have hx : xs.length = 2 := hxl
  rw [h0, o0, cts, List.getElem?_eq_getElem (by omega)] at e0
  rw [h1, o1, cti, List.getElem?_eq_getElem (by omega)] at e1
  obtain ⟨A, n, c, l, g1, g2, g3, g4, g5⟩ := rows_trod (α := H32) hts ce (by decide) (reads_hash he hq cq ce) rfl e0
  obtain ⟨z, g6, _, _⟩ := DataW.trod_int hti e1
  refine ⟨A, n, c, l, z, ?_, g2, g3, g4, g5⟩
  have hlen : cs.toList.length = 2 := by rw [hl, ct]
  rcases hcl : cs.toList with _ | ⟨a, _ | ⟨b, _ | ⟨b2, t2⟩⟩⟩
  · rw [hcl] at hlen; simp at hlen
  · rw [hcl] at hlen; simp at hlen
  · rw [hcl] at g1 g6
    simp at g1 g6
    congr 1
    apply Array.ext'
    rw [hcl, g1, g6]
  · rw [hcl] at hlen; simp at hlen
end Go.Proofs.Ythoipeamdolfgaa
