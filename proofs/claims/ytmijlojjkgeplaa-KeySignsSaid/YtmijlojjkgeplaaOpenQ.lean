/- Rows opened, with what the form's reach says of their elements; rows of rows of bytes. -/
import Derived.Test.YtmijlojjkgeplaaOpenP
open Go Go.RowKit Go.WideShapes Go.ChangeShapes Go.Deep
namespace Go.Proofs.Ytmijlojjkgeplaa
theorem weightsAll_mem {H : Type} {P : Program} {e : TypeId} : ∀ {ds : List (DataW H)} {d : DataW H}, d ∈ ds → ∀ u ∈ d.weights P e, u ∈ DataW.weightsAll P e ds
  | d0 :: ds, d, hd, u, hu => by
    rw [DataW.weightsAll, List.mem_append]
    rcases List.mem_cons.1 hd with rfl | hd
    · exact .inl hu
    · exact .inr (weightsAll_mem hd u hu)
/-- every value of the type that can be read in this world is such a row of cells, p holds of it, and q where its weights are within reach -/
def ReadsQ (P : Program) (w : World) (α : Type) [RowC α] (p q : α → Prop) (t : TypeId) : Prop :=
  ∀ (H : Type) (enc : TypeId × Value → H) (spare : Nat → Bool) (held : Bool) (fuel : Nat) (cs : List Value) (x : DataW H × List MemPlace), DataW.trod enc P w 0 spare held fuel t cs = some x → ∃ a : α, cs = RowC.enc a ∧ p a ∧ ((∀ y ∈ x.1.weights P t, y ≤ reachBytes) → q a)
theorem rows_trodQ {α : Type} [RowC α] {p q : α → Prop} {H : Type} {enc : TypeId × Value → H} {P : Program} {w : World} {spare : Nat → Bool} {held : Bool} {fuel : Nat} {t e : TypeId} {cs : List Value} {x : DataW H × List MemPlace} (ht : P.underlying t = some (.slice e)) (hc : P.cellsOf e = RowC.size α) (hp : 0 < RowC.size α) (hr : ReadsQ P w α p q e)
    (hf : DataW.trod enc P w 0 spare held fuel t cs = some x) :
    ∃ (A : Option Addr) (n c : Nat) (l : List α), cs = [.slice A n c] ∧ l.length = n ∧ n ≤ maxLen ∧ Rd w A (cellsOf l) ∧ n ≤ c ∧ (∀ b ∈ l, p b) ∧ ((∀ y ∈ x.1.weights P t, y ≤ reachBytes) → n * P.bytesOf e ≤ reachBytes ∧ ∀ b ∈ l, q b) := by
  rcases DataW.trod_slice ht hf with ⟨hcs, _⟩ | ⟨a, n, cap, elems, rest, m, _, hcs, hx, _, hlc, hcm, hel, hrow, _⟩
  · exact ⟨_, _, _, [], hcs, rfl, by simp, Rd.nil _ _, Nat.le_refl _, (fun b hb => by cases hb), (fun _ => ⟨by simp, fun b hb => by cases hb⟩)⟩
  · have hone : ∀ i, i < n → ∃ b : α, w.cells? 0 (a.add (i * RowC.size α)) (RowC.size α) = some (RowC.enc b) ∧ p b ∧ ∀ hi : i < elems.length, ((∀ y ∈ elems[i].1.weights P e, y ≤ reachBytes) → q b) := fun i hi => by
      have h1 := hrow i hi
      rw [hc, List.getElem?_eq_getElem (by omega)] at h1
      obtain ⟨cs, h2, h3⟩ := Option.bind_eq_some_iff.1 h1
      obtain ⟨b, rfl, hb, hq⟩ := hr _ _ _ _ _ _ _ h3
      exact ⟨b, h2, hb, fun _ => hq⟩
    obtain ⟨F, hF⟩ : ∃ F : Nat → α, ∀ i, i < n → w.cells? 0 (a.add (i * RowC.size α)) (RowC.size α) = some (RowC.enc (F i)) ∧ p (F i) ∧ ∀ hi : i < elems.length, ((∀ y ∈ elems[i].1.weights P e, y ≤ reachBytes) → q (F i)) :=
      ⟨fun i => if h : i < n then Classical.choose (hone i h) else RowC.zero, fun i hi => by simp only [dif_pos hi]; exact Classical.choose_spec (hone i hi)⟩
    refine ⟨_, _, _, (List.range n).map F, hcs, by simp, by omega, fun k u hk => ⟨a, rfl, ?_⟩, hlc, fun b hb => ?_, fun hw => ⟨?_, fun b hb => ?_⟩⟩
    · have hlen : k < n * RowC.size α := by
        have := (List.getElem?_eq_some_iff.1 hk).1
        rwa [cellsOf_len, List.length_map, List.length_range] at this
      have hi : k / RowC.size α < n := (Nat.div_lt_iff_lt_mul hp).2 hlen
      have hj : k % RowC.size α < RowC.size α := Nat.mod_lt _ hp
      have hat := cellsOf_at ((List.range n).map F) (k / RowC.size α) (by simpa using hi)
      have hget : ((List.range n).map F).getD (k / RowC.size α) RowC.zero = F (k / RowC.size α) := by simp [List.getD_eq_getElem?_getD, hi]
      rw [hget] at hat
      have hk2 : (RowC.enc (F (k / RowC.size α)))[k % RowC.size α]? = some u := by
        rw [← hat, List.getElem?_take, if_pos hj, List.getElem?_drop, Nat.mul_comm, Nat.div_add_mod]
        exact hk
      have hcl := cells_get (hF _ hi).1 _ _ hk2
      rw [add_of_add, Nat.mul_comm, Nat.div_add_mod] at hcl
      exact hcl
    · obtain ⟨i, hi, rfl⟩ := List.mem_map.1 hb
      exact (hF i (List.mem_range.1 hi)).2.1
    · subst hx
      have h5 := hw ((elems.length + rest.length) * P.bytesOf e) (by simp [DataW.weights, ht])
      exact Nat.le_trans (Nat.mul_le_mul_right _ (by omega)) h5
    · obtain ⟨i, hi, rfl⟩ := List.mem_map.1 hb
      have hi' : i < elems.length := by have := List.mem_range.1 hi; omega
      refine (hF i (List.mem_range.1 hi)).2.2 hi' (fun y hy => hw y ?_)
      subst hx
      simp only [DataW.weights, ht]
      rw [List.mem_cons, List.mem_append]
      exact .inr (.inl (weightsAll_mem (List.mem_map.2 ⟨elems[i], List.getElem_mem hi', rfl⟩) y hy))
theorem open_rowsQ {α : Type} [RowC α] {p q : α → Prop} {H : Type} {enc : TypeId × Value → H} {P : Program} {w : World} {r : Reach} {b0 : Nat} {t e : TypeId} {v : Value} {d : DataW H} {ps : List MemPlace} (ht : P.underlying t = some (.slice e)) (hc : P.cellsOf e = RowC.size α) (hp : 0 < RowC.size α) (hr : ReadsQ P w α p q e)
    (hval : Value.okWide P w r b0 t v) (h : DataW.Trod enc P w 0 (fun _ => true) true t v d ps) :
    ∃ (A : Option Addr) (n c : Nat) (l : List α), v = .slice A n c ∧ l.length = n ∧ n ≤ maxLen ∧ Rd w A (cellsOf l) ∧ n ≤ c ∧ (∀ b ∈ l, p b) ∧ ((∀ y ∈ d.weights P t, y ≤ reachBytes) → n * P.bytesOf e ≤ reachBytes ∧ ∀ b ∈ l, q b) := by
  obtain ⟨A, n, c, rfl⟩ := okWide_slice ht hval
  obtain ⟨fuel, hf⟩ := h
  obtain ⟨A', n', c', l, h1, h2, h3, h4, h5, h6, h7⟩ := rows_trodQ ht hc hp hr hf
  have h1' : (Value.slice A n c) = .slice A' n' c' := by
    have : [Value.slice A n c] = [.slice A' n' c'] := h1
    injection this
  exact ⟨A', n', c', l, h1', h2, h3, h4, h5, h6, h7⟩
instance : RowC Row := ⟨1, fun r => [r.v], fun _ => rfl, fun r u hu => by
    rw [List.mem_singleton.1 hu]
    rfl, ⟨none, 0, []⟩⟩
theorem cellsOf_rows (l : List Row) : cellsOf l = rowsV l := by
  induction l with
  | nil => rfl
  | cons r l ih => show [r.v] ++ cellsOf l = r.v :: rowsV l; rw [ih]; rfl
instance (priority := 600) RowC.byte : RowC UInt8 := ⟨1, fun b => [u8v b], fun _ => rfl, fun b u hu => by
    rw [List.mem_singleton.1 hu]
    rfl, 0⟩
theorem cellsOf_bytes (l : List UInt8) : cellsOf l = bs l := by
  induction l with
  | nil => rfl
  | cons r l ih => show [u8v r] ++ cellsOf l = u8v r :: bs l; rw [ih]; rfl
theorem u8_ofL {z : Int} (h : (Lit.int .u8 z).wf = true) : ∃ y : UInt8, z = (y.toNat : Int) := by
  have h1 : 0 ≤ z ∧ z ≤ 255 := by simpa [Lit.wf, IntKind.min, IntKind.max, IntKind.signed, IntKind.bits, Int.le_iff_lt_add_one] using h
  refine ⟨UInt8.ofNat z.toNat, ?_⟩
  rw [UInt8.toNat_ofNat']
  omega
theorem readsQ_u8 {P : Program} {w : World} {t : TypeId} (ht : P.underlying t = some (.int .u8)) : ReadsQ P w UInt8 (fun _ => True) (fun _ => True) t := fun H enc spare held fuel cs x hf => by
  obtain ⟨z, hz, _, hw⟩ := DataW.trod_int ht hf
  obtain ⟨y, rfl⟩ := u8_ofL hw
  exact ⟨y, hz, trivial, fun _ => trivial⟩
/-- a row of bytes that can be read -/
def RowIn (w : World) (r : Row) : Prop := Rd w r.A (bs r.p) ∧ r.p.length ≤ maxLen ∧ r.p.length ≤ r.c
theorem readsQ_bytes {P : Program} {w : World} {t e : TypeId} (ht : P.underlying t = some (.slice e)) (he : P.underlying e = some (.int .u8)) (hc : P.cellsOf e = 1) (hy : P.bytesOf e = 1) : ReadsQ P w Row (RowIn w) (fun r => r.p.length ≤ 140737488355328) t := fun H enc spare held fuel cs x hf => by
  obtain ⟨A, n, c, l, h1, h2, h3, h4, h5, _, h7⟩ := rows_trodQ (α := UInt8) ht hc (by decide) (readsQ_u8 he) hf
  subst h2
  rw [cellsOf_bytes] at h4
  refine ⟨⟨A, c, l⟩, h1, ⟨h4, h3, h5⟩, fun hw => ?_⟩
  have h8 := (h7 hw).1
  have h9 := reachBytes_lt
  rw [hy] at h8
  show l.length ≤ _
  omega
end Go.Proofs.Ytmijlojjkgeplaa
