/- Rows of structs opened, with what is known of each element in this world. -/
import Derived.Test.YthoipeamdolfgaaOpenS
open Go Go.RowKit Go.WideShapes Go.ChangeShapes Go.Deep
namespace Go.Proofs.Ythoipeamdolfgaa
/-- every value of the type that can be read in this world is such a row of cells, and p holds of it -/
def ReadsP (P : Program) (w : World) (α : Type) [RowC α] (p : α → Prop) (t : TypeId) : Prop :=
  ∀ (H : Type) (enc : TypeId × Value → H) (spare : Nat → Bool) (held : Bool) (fuel : Nat) (cs : List Value) (x : DataW H × List MemPlace), DataW.trod enc P w 0 spare held fuel t cs = some x → ∃ a : α, cs = RowC.enc a ∧ p a
theorem rows_trodP {α : Type} [RowC α] {p : α → Prop} {H : Type} {enc : TypeId × Value → H} {P : Program} {w : World} {spare : Nat → Bool} {held : Bool} {fuel : Nat} {t e : TypeId} {cs : List Value} {x : DataW H × List MemPlace} (ht : P.underlying t = some (.slice e)) (hc : P.cellsOf e = RowC.size α) (hp : 0 < RowC.size α) (hr : ReadsP P w α p e)
    (hf : DataW.trod enc P w 0 spare held fuel t cs = some x) :
    ∃ (A : Option Addr) (n c : Nat) (l : List α), cs = [.slice A n c] ∧ l.length = n ∧ n ≤ maxLen ∧ Rd w A (cellsOf l) ∧ n ≤ c ∧ (∀ b ∈ l, p b) ∧ ((∀ y ∈ x.1.weights P t, y ≤ reachBytes) → n * P.bytesOf e ≤ reachBytes) := by
  rcases DataW.trod_slice ht hf with ⟨hcs, _⟩ | ⟨a, n, cap, elems, rest, m, _, hcs, hx, _, hlc, hcm, hel, hrow, _⟩
  · exact ⟨_, _, _, [], hcs, rfl, by simp, Rd.nil _ _, Nat.le_refl _, (fun b hb => by cases hb), (fun _ => by simp)⟩
  · have hone : ∀ i, i < n → ∃ b : α, w.cells? 0 (a.add (i * RowC.size α)) (RowC.size α) = some (RowC.enc b) ∧ p b := fun i hi => by
      have h1 := hrow i hi
      rw [hc, List.getElem?_eq_getElem (by omega)] at h1
      obtain ⟨cs, h2, h3⟩ := Option.bind_eq_some_iff.1 h1
      obtain ⟨b, rfl, hb⟩ := hr _ _ _ _ _ _ _ h3
      exact ⟨b, h2, hb⟩
    obtain ⟨F, hF⟩ : ∃ F : Nat → α, ∀ i, i < n → w.cells? 0 (a.add (i * RowC.size α)) (RowC.size α) = some (RowC.enc (F i)) ∧ p (F i) :=
      ⟨fun i => if h : i < n then Classical.choose (hone i h) else RowC.zero, fun i hi => by simp only [dif_pos hi]; exact Classical.choose_spec (hone i hi)⟩
    refine ⟨_, _, _, (List.range n).map F, hcs, by simp, by omega, fun k u hk => ⟨a, rfl, ?_⟩, hlc, fun b hb => ?_, fun hw => ?_⟩
    · have hlen : k < n * RowC.size α := by
        have := (List.getElem?_eq_some_iff.1 hk).1
        rwa [cellsOf_len, List.length_map, List.length_range] at this
      have hi : k / RowC.size α < n := (Nat.div_lt_iff_lt_mul hp).2 hlen
      have hj : k % RowC.size α < RowC.size α := Nat.mod_lt _ hp
      have hat := cellsOf_at ((List.range n).map F) (k / RowC.size α) (by simpa using hi)
      have hget : ((List.range n).map F).getD (k / RowC.size α) RowC.zero = F (k / RowC.size α) := by simp [List.getD_eq_getElem?_getD, hi]
      rw [hget] at hat
      have hk2 : (RowC.enc (F (k / RowC.size α)))[k % RowC.size α]? = some u := by
        rw [← hat, List.getElem?_take, if_pos hj, List.getElem?_drop, Nat.mul_comm, Nat.div_add_mod]
        exact hk
      have hcl := cells_get (hF _ hi).1 _ _ hk2
      rw [add_of_add, Nat.mul_comm, Nat.div_add_mod] at hcl
      exact hcl
    · obtain ⟨i, hi, rfl⟩ := List.mem_map.1 hb
      exact (hF i (List.mem_range.1 hi)).2
    · subst hx
      have h5 := hw ((elems.length + rest.length) * P.bytesOf e) (by simp [DataW.weights, ht])
      exact Nat.le_trans (Nat.mul_le_mul_right _ (by omega)) h5
theorem open_rowsP {α : Type} [RowC α] {p : α → Prop} {H : Type} {enc : TypeId × Value → H} {P : Program} {w : World} {r : Reach} {b0 : Nat} {t e : TypeId} {v : Value} {d : DataW H} {ps : List MemPlace} (ht : P.underlying t = some (.slice e)) (hc : P.cellsOf e = RowC.size α) (hp : 0 < RowC.size α) (hr : ReadsP P w α p e)
    (hval : Value.okWide P w r b0 t v) (h : DataW.Trod enc P w 0 (fun _ => true) true t v d ps) :
    ∃ (A : Option Addr) (n c : Nat) (l : List α), v = .slice A n c ∧ l.length = n ∧ n ≤ maxLen ∧ Rd w A (cellsOf l) ∧ n ≤ c ∧ (∀ b ∈ l, p b) ∧ ((∀ y ∈ d.weights P t, y ≤ reachBytes) → n * P.bytesOf e ≤ reachBytes) := by
  obtain ⟨A, n, c, rfl⟩ := okWide_slice ht hval
  obtain ⟨fuel, hf⟩ := h
  obtain ⟨A', n', c', l, h1, h2, h3, h4, h5, h6, h7⟩ := rows_trodP ht hc hp hr hf
  have h1' : (Value.slice A n c) = .slice A' n' c' := by
    have : [Value.slice A n c] = [.slice A' n' c'] := h1
    injection this
  exact ⟨A', n', c', l, h1', h2, h3, h4, h5, h6, h7⟩
theorem open_string {H : Type} {enc : TypeId × Value → H} {P : Program} {w : World} {r : Reach} {b0 : Nat} {t : TypeId} {v : Value} {d : DataW H} {ps : List MemPlace} (ht : P.underlying t = some .string) (hval : Value.okWide P w r b0 t v) (hd : DataW.Trod enc P w 0 (fun _ => true) true t v d ps) :
    ∃ s : ByteArray, v = .string s ∧ d = .lit (.string s.data.toList) ∧ ps = [] ∧ s.size ≤ maxLen := by
  obtain ⟨s, rfl⟩ := okWide_string ht hval
  obtain ⟨fuel, hf⟩ := hd
  obtain ⟨s', h, hx, hs⟩ := DataW.trod_string ht hf
  simp [Value.cells] at h
  subst h
  injection hx with h1 h2
  exact ⟨s, rfl, h1, h2, hs⟩
theorem seg {α : Type} (cs : List α) (a b c : Nat) (h : a + b = c) : cs.drop a = (cs.drop a).take b ++ cs.drop c := by
  rw [← h, ← List.drop_drop, List.take_append_drop]
theorem seg_last {α : Type} (cs : List α) (a b : Nat) (h : cs.length = a + b) : cs.drop a = (cs.drop a).take b := by
  rw [List.take_of_length_le]
  rw [List.length_drop]
  omega
theorem reads_of {P : Program} {w : World} {α : Type} [RowC α] {t : TypeId} (h : ReadsAs P α t) : ReadsP P w α (fun _ => True) t := fun H enc spare held fuel cs x hf => by
  obtain ⟨a, ha⟩ := h H enc w 0 spare held fuel cs x hf
  exact ⟨a, ha, trivial⟩
end Go.Proofs.Ythoipeamdolfgaa
