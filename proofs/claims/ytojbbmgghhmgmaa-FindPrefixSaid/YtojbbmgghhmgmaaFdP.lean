/- For FindPrefix: bounds of nested rows; appends bounded by bytes; empty rows; one cell of an element written. -/
import Derived.Test.YtojbbmgghhmgmaaFdL3
import Derived.Test.YtojbbmgghhmgmaaFdO
open Go Go.RowKit Go.WideShapes Go.ChangeShapes Go.Deep
namespace Go.Proofs.Ytojbbmgghhmgmaa
theorem weightsAll_mem {H : Type} {P : Program} {e : TypeId} : ∀ {ds : List (DataW H)} {d : DataW H}, d ∈ ds → ∀ u ∈ d.weights P e, u ∈ DataW.weightsAll P e ds
  | d0 :: ds, d, hd, u, hu => by
    rw [DataW.weightsAll, List.mem_append]
    rcases List.mem_cons.1 hd with rfl | hd
    · exact .inl hu
    · exact .inr (weightsAll_mem hd u hu)
/-- every value of the type that can be read in this world is such a row of cells, p holds of it, and q where its weights are within reach -/
def ReadsQ (P : Program) (w : World) (α : Type) [RowC α] (p q : α → Prop) (t : TypeId) : Prop :=
  ∀ (H : Type) (enc : TypeId × Value → H) (spare : Nat → Bool) (held : Bool) (fuel : Nat) (cs : List Value) (x : DataW H × List MemPlace), DataW.trod enc P w 0 spare held fuel t cs = some x → ∃ a : α, cs = RowC.enc a ∧ p a ∧ ((∀ y ∈ x.1.weights P t, y ≤ reachBytes) → q a)
theorem rows_trodQ {α : Type} [RowC α] {p q : α → Prop} {H : Type} {enc : TypeId × Value → H} {P : Program} {w : World} {spare : Nat → Bool} {held : Bool} {fuel : Nat} {t e : TypeId} {cs : List Value} {x : DataW H × List MemPlace} (ht : P.underlying t = some (.slice e)) (hc : P.cellsOf e = RowC.size α) (hp : 0 < RowC.size α) (hr : ReadsQ P w α p q e)
    (hf : DataW.trod enc P w 0 spare held fuel t cs = some x) :
    ∃ (A : Option Addr) (n c : Nat) (l : List α), cs = [.slice A n c] ∧ l.length = n ∧ n ≤ maxLen ∧ Rd w A (cellsOf l) ∧ n ≤ c ∧ (∀ b ∈ l, p b) ∧ ((∀ y ∈ x.1.weights P t, y ≤ reachBytes) → n * P.bytesOf e ≤ reachBytes ∧ ∀ b ∈ l, q b) := by
  rcases DataW.trod_slice ht hf with ⟨hcs, _⟩ | ⟨a, n, cap, elems, rest, m, _, hcs, hx, _, hlc, hcm, hel, hrow, _⟩
  · exact ⟨_, _, _, [], hcs, rfl, by simp, Rd.nil _ _, Nat.le_refl _, (fun b hb => by cases hb), (fun _ => ⟨by simp, fun b hb => by cases hb⟩)⟩
  · have hone : ∀ i, i < n → ∃ b : α, w.cells? 0 (a.add (i * RowC.size α)) (RowC.size α) = some (RowC.enc b) ∧ p b ∧ ∀ hi : i < elems.length, ((∀ y ∈ elems[i].1.weights P e, y ≤ reachBytes) → q b) := fun i hi => by
      have h1 := hrow i hi
      rw [hc, List.getElem?_eq_getElem (by omega)] at h1
      obtain ⟨cs, h2, h3⟩ := Option.bind_eq_some_iff.1 h1
      obtain ⟨b, rfl, hb, hq⟩ := hr _ _ _ _ _ _ _ h3
      exact ⟨b, h2, hb, fun _ => hq⟩
    obtain ⟨F, hF⟩ : ∃ F : Nat → α, ∀ i, i < n → w.cells? 0 (a.add (i * RowC.size α)) (RowC.size α) = some (RowC.enc (F i)) ∧ p (F i) ∧ ∀ hi : i < elems.length, ((∀ y ∈ elems[i].1.weights P e, y ≤ reachBytes) → q (F i)) :=
      ⟨fun i => if h : i < n then Classical.choose (hone i h) else RowC.zero, fun i hi => by simp only [dif_pos hi]; exact Classical.choose_spec (hone i hi)⟩
    refine ⟨_, _, _, (List.range n).map F, hcs, by simp, by omega, fun k u hk => ⟨a, rfl, ?_⟩, hlc, fun b hb => ?_, fun hw => ⟨?_, fun b hb => ?_⟩⟩
    · have hlen : k < n * RowC.size α := by
        have := (List.getElem?_eq_some_iff.1 hk).1
        rwa [cellsOf_len, List.length_map, List.length_range] at this
      have hi : k / RowC.size α < n := (Nat.div_lt_iff_lt_mul hp).2 hlen
      have hj : k % RowC.size α < RowC.size α := Nat.mod_lt _ hp
      have hat := cellsOf_at ((List.range n).map F) (k / RowC.size α) (by simpa using hi)
      have hget : ((List.range n).map F).getD (k / RowC.size α) RowC.zero = F (k / RowC.size α) := by simp [List.getD_eq_getElem?_getD, hi]
      rw [hget] at hat
      have hk2 : (RowC.enc (F (k / RowC.size α)))[k % RowC.size α]? = some u := by
        rw [← hat, List.getElem?_take, if_pos hj, List.getElem?_drop, Nat.mul_comm, Nat.div_add_mod]
        exact hk
      have hcl := cells_get (hF _ hi).1 _ _ hk2
      rw [add_of_add, Nat.mul_comm, Nat.div_add_mod] at hcl
      exact hcl
    · obtain ⟨i, hi, rfl⟩ := List.mem_map.1 hb
      exact (hF i (List.mem_range.1 hi)).2.1
    · subst hx
      have h5 := hw ((elems.length + rest.length) * P.bytesOf e) (by simp [DataW.weights, ht])
      exact Nat.le_trans (Nat.mul_le_mul_right _ (by omega)) h5
    · obtain ⟨i, hi, rfl⟩ := List.mem_map.1 hb
      have hi' : i < elems.length := by have := List.mem_range.1 hi; omega
      refine (hF i (List.mem_range.1 hi)).2.2 hi' (fun y hy => hw y ?_)
      subst hx
      simp only [DataW.weights, ht]
      rw [List.mem_cons, List.mem_append]
      exact .inr (.inl (weightsAll_mem (List.mem_map.2 ⟨elems[i], List.getElem_mem hi', rfl⟩) y hy))
section
variable {P : Program} {ops : Array Oper} {rest : List Oper} {a : Act} {w : World} {Q : Exit → Act → World → Prop} {dst : Option Tmp} {ty : TypeId} {pos : String} {after : Array Edge}
/-- rows behind rows, bounded by their bytes -/
theorem wpl_appendZ {α : Type} [RowC α] {s x : Operand} {t e : TypeId} {size bytes : Nat} {z : Value} {A : Option Addr} {n c : Nat} (hs : a.eval s = .slice A n c) {A2 : Option Addr} {m c2 : Nat} (hx : a.eval x = .slice A2 m c2) (E : ElemT P t e size bytes z)
    {l : List α} (ho : HO w e size A n c (cellsOf l)) {news : List α} (hr : HR w A2 (cellsOf news)) (hsz : size = RowC.size α) (hl : news.length = m) (hlim : n + m ≤ 9223372036854775807) (hb : (n + m) * bytes ≤ 140737488355328) (h0 : 0 < size)
    (h : ∀ A' c' w', Step (rowOf A) w w' → HO w' e size A' (n + m) c' (cellsOf (l ++ news)) → Grew w A A' → n + m ≤ c' → wpList P ops Q rest (a.put dst (.slice A' (n + m) c')) w') :
    wpList P ops Q (⟨dst, .call { callee := .builtin .append, args := #[s, x], argTypes := #[t, t] }, ty, pos, after, none⟩ :: rest) a w :=
  wpList_append_Own rfl s x E.out rfl hs ho.out hx hr.out (by rw [cellsOf_len, hl, hsz]) (cellsOf_one _) (by unfold maxLen; omega)
    hb (fun e => by
      subst e
      rcases Nat.eq_zero_or_pos m with h1 | h1
      · exact h1
      · obtain ⟨ad, h2, _⟩ := hr.out.lt (by rw [cellsOf_len, hl, ← hsz]; exact Nat.mul_pos h1 h0)
        cases h2) fun A' c' w' g1 g2 g3 => by
    rw [← cellsOf_app] at g1
    refine h A' c' w' ⟨g2⟩ ⟨g1⟩ ⟨g3⟩ ?_
    rcases g1.form with ⟨_, h1, h2, _⟩ | ⟨_, _, _, _, h1, _⟩ <;> omega
/-- one cell of an element of a row of the call's own -/
theorem wpl_storeC {α : Type} [RowC α] {t : TypeId} {x y : Operand} {A : Option Addr} {k j s : Nat} {v : Value} (hx : a.eval x = ptrOf A (k * s + j)) (hy : a.eval y = v) {e : TypeId} {n c : Nat} {l : List α} (ho : HO w e s A n c (cellsOf l)) (ht : CellT P t) (hs : RowC.size α = s) (h1 : v.oneCell' = true) (hk : k < l.length) (hj : j < s) (d : α) (hd : RowC.enc d = (RowC.enc (gt l k)).set j v)
    (h : ∀ w', Step (rowOf A) w w' → HO w' e s A n c (cellsOf (l.set k d)) → wpList P ops Q rest (a.put dst undef) w') : wpList P ops Q (⟨dst, .store t x y, ty, pos, after, none⟩ :: rest) a w := by
  subst hs
  have hlen : (cellsOf l).length = l.length * RowC.size α := cellsOf_len l
  have hkl : k * RowC.size α + RowC.size α ≤ (cellsOf l).length := by rw [hlen, ← Nat.succ_mul]; exact Nat.mul_le_mul_right _ hk
  obtain ⟨g, hA, q1, q2, q3⟩ := own_setCells ho.out (k := k * RowC.size α + j) (cs := [v]) (m := 1) rfl (by omega) (by decide)
  refine wpl_of_unit rfl (w' := w.setCells g (k * RowC.size α + j) [v]) ?_ (h _ ⟨q3⟩ ⟨?_⟩)
  · have hc := q1 0 (by decide)
    have hst := run_store P w ⟨g, k * RowC.size α + j, none⟩ v .plain h1
    have hcs : v.cells = #[v] := by cases v <;> simp_all [Value.oneCell', Value.cells]
    rw [Nat.add_zero] at hc
    obtain ⟨u, hu⟩ := Option.isSome_iff_exists.1 hc.1
    rw [hu, hc.2] at hst
    show ((Instr.storeAt t (a.eval x) (a.eval y)) >>= fun _ => pure Next.skip).run P w = _
    rw [hx, hy, hA]
    simp [Instr.storeAt, Instr.sureAddr, ptrOf, shift_some, add_row, storeVar, hcs, ht.size1 w, storeCells, add_zero_spot, hst, World.setCells]
  · have hat := cellsOf_at l k hk
    have hset := cellsOf_set l k d hk
    have hlb : (RowC.enc (gt l k)).length = RowC.size α := RowC.len _
    have hdec : cellsOf l = (cellsOf l).take (k * RowC.size α) ++ (RowC.enc (gt l k) ++ (cellsOf l).drop (k * RowC.size α + RowC.size α)) := by
      conv => lhs; rw [← List.take_append_drop (k * RowC.size α) (cellsOf l), ← List.take_append_drop (RowC.size α) ((cellsOf l).drop (k * RowC.size α)), List.drop_drop]
      rw [show ((cellsOf l).drop (k * RowC.size α)).take (RowC.size α) = RowC.enc (gt l k) from hat]
    have htl : ((cellsOf l).take (k * RowC.size α)).length = k * RowC.size α := by rw [List.length_take]; omega
    have hs1 : (cellsOf l).take (k * RowC.size α + j) ++ [v] ++ (cellsOf l).drop (k * RowC.size α + j + 1) = (cellsOf l).set (k * RowC.size α + j) v := by
      rw [List.set_eq_take_append_cons_drop, if_pos (by omega)]
      simp
    have hs2 : (cellsOf l).set (k * RowC.size α + j) v = (cellsOf l).take (k * RowC.size α) ++ ((RowC.enc (gt l k)).set j v ++ (cellsOf l).drop (k * RowC.size α + RowC.size α)) := by
      conv => lhs; rw [hdec]
      rw [List.set_append, if_neg (by omega), htl, Nat.add_sub_cancel_left, List.set_append, if_pos (by omega)]
    rw [hs1, hs2, ← hd, ← List.append_assoc, hset] at q2
    exact q2
end
instance (priority := 700) HO.ofEmptyT (w : World) (g : Nat) (e : TypeId) [h : HB w g e #[]] : HO w e 5 (some ⟨g, 0, none⟩) 0 0 (cellsOf ([] : List TS)) :=
  ⟨Own.of_blk h.out (Nat.le_refl _) (Nat.zero_le _) (by simp) (by simp [cellsOf])⟩
theorem HO.ofEmptyD (w : World) (g : Nat) (e : TypeId) [h : HB w g e #[]] : HO w e 5 (some ⟨g, 0, none⟩) 0 0 (cellsOf ([] : List DL)) :=
  ⟨Own.of_blk h.out (Nat.le_refl _) (Nat.zero_le _) (by simp) (by simp [cellsOf])⟩
theorem trod_fieldsW {H : Type} {enc : TypeId × Value → H} {P : Program} {w : World} {spare : Nat → Bool} {held : Bool} {fuel : Nat} {t : TypeId} {cs : List Value} {x : DataW H × List MemPlace} {fs : Array Field} (ht : P.underlying t = some (.struct fs)) (hf : DataW.trod enc P w 0 spare held fuel t cs = some x) :
    ∃ m, cs.length = P.cellsOf t ∧ ∀ (i : Nat) (f : Field), nth fs.toList i = some f → ∃ y, DataW.trod enc P w 0 spare held m f.type ((cs.drop f.offset).take (P.cellsOf f.type)) = some y ∧ ∀ u ∈ y.1.weights P f.type, u ∈ x.1.weights P t := by
  obtain ⟨xs, m, _, hx, hl, hxl, hel⟩ := DataW.trod_struct ht hf
  refine ⟨m, hl, fun i f hi => ?_⟩
  rw [← nth_get] at hi
  have hi' : fs[i]? = some f := by simpa using hi
  have hlt : i < xs.length := by
    rw [hxl]
    exact (Array.getElem?_eq_some_iff.1 hi').1
  refine ⟨xs[i], by rw [hel i f hi', List.getElem?_eq_getElem hlt], fun u hu => ?_⟩
  rw [hx]
  simp only [DataW.weights, ht]
  exact DataW.weights_mem_each (j := i) (t := f.type) (by rw [List.getElem?_map, hi]; rfl) (by rw [List.getElem?_map, List.getElem?_eq_getElem hlt]; rfl) u hu
theorem bDL : Try.prog.bytesOf 68 = 72 := by kernel_rfl
set_option maxRecDepth 100000 in
theorem readsTSQ (w : World) : ReadsQ Try.prog w TS (TSP w) (fun t => t.Dn ≤ 1954687338268) 63 := by
  intro H enc spare held fuel cs x hf
  obtain ⟨m, hl, E⟩ := trod_fieldsW Try.underlying63 hf
  obtain ⟨y0, e0, _⟩ := E 0 _ rfl
  obtain ⟨y1, e1, _⟩ := E 1 _ rfl
  obtain ⟨y2, e2, _⟩ := E 2 _ rfl
  obtain ⟨y3, e3, _⟩ := E 3 _ rfl
  obtain ⟨y4, e4, w4⟩ := E 4 _ rfl
  dsimp only at e0 e1 e2 e3 e4 w4
  rw [cS] at e0
  rw [cI] at e1 e2
  rw [cLs] at e3
  rw [cDs] at e4
  rw [cTS] at hl
  obtain ⟨s0, g0, _, hs0⟩ := DataW.trod_string Try.underlying9 e0
  obtain ⟨z1, g1, _, _⟩ := DataW.trod_int Try.underlying3 e1
  obtain ⟨z2, g2, _, _⟩ := DataW.trod_int Try.underlying3 e2
  obtain ⟨LA, Ln, Lc, L, g3, l3, m3, r3, _, _, _⟩ := rows_trodP (α := TG) Try.underlying61 cTG (by decide) (readsTG w) e3
  obtain ⟨DA, Dn, Dc, D, g4, l4, m4, r4, _, p4, q4⟩ := rows_trodP (α := DL) Try.underlying60 cDL (by decide) (readsDL w) e4
  refine ⟨⟨s0, z1, z2, LA, Ln, Lc, DA, Dn, Dc, L, D⟩, ?_, ⟨⟨r3, l3, r4, l4⟩, by unfold maxLen at m3; omega, by unfold maxLen at m4; omega, hs0, p4⟩, fun hw => ?_⟩
  · have q : cs = cs.drop 0 := rfl
    rw [q, seg cs 0 1 1 rfl, seg cs 1 1 2 rfl, seg cs 2 1 3 rfl, seg cs 3 1 4 rfl, seg_last cs 4 1 hl, g0, g1, g2, g3, g4]
    rfl
  · have h8 := q4 (fun u hu => hw u (w4 u hu))
    rw [bDL] at h8
    have h9 := reachBytes_lt
    show Dn ≤ _
    omega
set_option maxRecDepth 100000 in
theorem open_tsQ {H : Type} {enc : TypeId × Value → H} {w : World} {r : Reach} {b0 : Nat} {v : Value} {d : DataW H} {ps : List MemPlace}
    (hval : Value.okWide Try.prog w r b0 58 v) (h : DataW.Trod enc Try.prog w 0 (fun _ => true) true 58 v d ps) :
    ∃ (A : Option Addr) (n c : Nat) (ts : List TS), v = .slice A n c ∧ ts.length = n ∧ HR w A (cellsOf ts) ∧ HTs w ts ∧ TSWf ts ∧ n ≤ c ∧ ((∀ y ∈ d.weights Try.prog 58, y ≤ reachBytes) → n ≤ 1759218604441 ∧ ∀ t ∈ ts, t.Dn ≤ 1954687338268) := by
  obtain ⟨A, n, c, rfl⟩ := okWide_slice Try.underlying58 hval
  obtain ⟨fuel, hf⟩ := h
  obtain ⟨A', n', c', ts, h1, h2, h3, h4, h5, h6, h7⟩ := rows_trodQ (α := TS) Try.underlying58 cTS (by decide) (readsTSQ w) hf
  have h1' : (Value.slice A n c) = .slice A' n' c' := by
    have : [Value.slice A n c] = [.slice A' n' c'] := h1
    injection this
  refine ⟨A', n', c', ts, h1', h2, ⟨h4⟩, ⟨fun t ht => (h6 t ht).1⟩, fun t ht => (h6 t ht).2, h5, fun hw => ?_⟩
  obtain ⟨h8, h10⟩ := h7 hw
  rw [bTS] at h8
  have h9 := reachBytes_lt
  exact ⟨by omega, h10⟩
theorem loopS_nopre (fol : (Int → Bool) → ByteArray → Res) (nm : ByteArray) : ∀ (D : List DL) (f : Int → Bool), (∀ d ∈ D, hasPre nm d.pre = false) → loopS fol nm D f = ⟨f, none, false⟩
  | [], f, _ => rfl
  | d :: D, f, h => by
    rw [loopS, if_neg (by rw [h d (by simp)]; decide), loopS_nopre fol nm D f (fun d hd => h d (by simp [hd]))]
theorem find_nopre (ts : List TS) (nm : ByteArray) (hn : 0 < ts.length) (h : ∀ d ∈ (gt ts 0).D, hasPre nm d.pre = false) : findS ts nm = (ownF (gt ts 0).L nm).map fun g => (g, (gt ts 0).name) := by
  rw [findS, if_neg (by omega), askS_eq]
  cases ownF (gt ts 0).L nm with
  | some g => rfl
  | none => rw [loopS_nopre _ nm _ _ h]; rfl
/-- a copy of a row: rows behind none -/
theorem wpl_append0 {P : Program} {ops : Array Oper} {rest : List Oper} {a : Act} {w : World} {Q : Exit → Act → World → Prop} {dst : Option Tmp} {ty : TypeId} {pos : String} {after : Array Edge} {α : Type} [RowC α] {s x : Operand} {t e : TypeId} {size bytes : Nat} {z : Value} {g : Nat} (hs : a.eval s = .slice (some ⟨g, 0, none⟩) 0 0) {A2 : Option Addr} {m c2 : Nat} (hx : a.eval x = .slice A2 m c2) (E : ElemT P t e size bytes z)
    (hb0 : HB w g e #[]) {news : List α} (hr : HR w A2 (cellsOf news)) (hsz : size = RowC.size α) (hl : news.length = m) (hlim : m ≤ 9223372036854775807) (hb : m * bytes ≤ 140737488355328) (h0 : 0 < size)
    (h : ∀ A' c' w', Step (rowOf (some ⟨g, 0, none⟩)) w w' → HO w' e size A' m c' (cellsOf news) → Grew w (some ⟨g, 0, none⟩) A' → m ≤ c' → wpList P ops Q rest (a.put dst (.slice A' m c')) w') :
    wpList P ops Q (⟨dst, .call { callee := .builtin .append, args := #[s, x], argTypes := #[t, t] }, ty, pos, after, none⟩ :: rest) a w := by
  refine wpl_appendZ (l := ([] : List α)) hs hx E ⟨Own.of_blk hb0.out (Nat.le_refl _) (Nat.zero_le _) (by simp) (by simp [cellsOf])⟩ hr hsz hl (by omega) (by rw [Nat.zero_add]; exact hb) h0 (fun A' c' w' s1 s2 s3 s4 => ?_)
  rw [Nat.zero_add] at s4
  have s2' : HO w' e size A' m c' (cellsOf news) := by
    have h := s2
    rw [List.nil_append, Nat.zero_add] at h
    exact h
  rw [Nat.zero_add]
  exact h A' c' w' s1 s2' s3 s4
end Go.Proofs.Ytojbbmgghhmgmaa
