/- Base -/
import Derived.WalkKit
import Derived.Handy
import Derived.BigQuiet
import Derived.Deep.QuietTactic
import Derived.Deep.Draws
import Derived.Deep.AppendLies
import Derived.Maps.AppendAt
import Derived.Lib.Hide
import Derived.OneCell
import Derived.WalkSpells
import Derived.Lib.SlBytesConst
import Derived.Laws.Rows
import Derived.Deep.MidRow
import Derived.Deep.WholeRow
import Derived.Laws.CopyOwn
import Derived.Laws.ResultCell
import Derived.Deep.RegionHeld
section
open Go Go.RowKit
namespace Go.Proofs.YtmnapacibpnodaaGreat

theorem block_of_add (a : Addr) (n : Nat) : (a.add n).block = a.block := by unfold Addr.add; split <;> rfl
theorem add_of_add (a : Addr) (i j : Nat) : (a.add i).add j = a.add (i + j) := by
  unfold Addr.add
  by_cases hi : i = 0 <;> by_cases hj : j = 0 <;> simp [hi, hj, Nat.add_assoc]
theorem add_zero_spot (a : Addr) : a.add 0 = a := by simp [Addr.add]
theorem add_row (g j : Nat) : (⟨g, 0, none⟩ : Addr).add j = ⟨g, j, none⟩ := by
  unfold Addr.add; split <;> simp_all

/-- What is in S, and what is new, may have changed; nothing else. -/
structure Chg (S : Nat → Prop) (w w' : World) : Prop where
  os : w'.os = w.os
  tape : w'.tape = w.tape
  output : w'.output = w.output
  size : w.heap.size ≤ w'.heap.size
  block : ∀ k, k < w.heap.size → ¬ S k → w'.heap[k]? = w.heap[k]?

def nowhere : Nat → Prop := fun _ => False

section
variable {S T : Nat → Prop} {a b w w' : World}
theorem Chg.refl (S : Nat → Prop) (w : World) : Chg S w w := ⟨rfl, rfl, rfl, Nat.le_refl _, fun _ _ _ => rfl⟩
theorem Chg.trans {c : World} (h : Chg S a b) (k : Chg T b c) (ht : ∀ x, x < a.heap.size → T x → S x) : Chg S a c :=
  ⟨k.os.trans h.os, k.tape.trans h.tape, k.output.trans h.output, Nat.le_trans h.size k.size, fun i hi hs =>
    (k.block i (Nat.lt_of_lt_of_le hi h.size) (fun hT => hs (ht i hi hT))).trans (h.block i hi hs)⟩
theorem Chg.mono (h : Chg S w w') (ht : ∀ x, x < w.heap.size → S x → T x) : Chg T w w' :=
  ⟨h.os, h.tape, h.output, h.size, fun i hi hs => h.block i hi (fun hS => hs (ht i hi hS))⟩
theorem Chg.drewN (h : Chg S a w) (n : Nat) : Chg S a (w.drewN n) := ⟨h.os, h.tape, h.output, h.size, h.block⟩
theorem Chg.drew (h : Chg S a w) : Chg S a w.drew := ⟨h.os, h.tape, h.output, h.size, h.block⟩
theorem Chg.alloc (h : Chg S a w) (o : Obj) : Chg S a (w.alloc o) :=
  h.trans (T := S) ⟨rfl, rfl, rfl, by simp, fun k hk _ => Below.heap_alloc _ _ _ hk⟩ (fun _ _ h => h)
theorem Chg.setCell (h : Chg S a w) {p : Addr} (hp : p.block < a.heap.size → S p.block) (u : Value) : Chg S a (w.setCell p u) :=
  h.trans (T := fun k => k = p.block) ⟨rfl, rfl, rfl, by simp [World.setCell], fun k _ hn => Below.heap_setCell _ _ _ _ hn⟩ (fun x hx e => by subst e; exact hp hx)
theorem Chg.of_grown {row : Option Nat} (h : w.grownBy w' row) : Chg (fun k => row = some k) w w' :=
  ⟨h.os, h.tape, h.output, h.size, fun k hk hn => h.block k hk (fun e => hn e.symm)⟩
theorem Chg.grown {row : Option Nat} (h : Chg S a w) (hg : w.grownBy w' row) (hr : ∀ k, k < a.heap.size → row = some k → S k) : Chg S a w' :=
  h.trans (Chg.of_grown hg) hr
theorem Chg.of_below (h : Below w.heap.size w w') (S : Nat → Prop) : Chg S w w' := ⟨h.os, h.tape, h.output, h.size, fun k hk _ => h.block k hk⟩
theorem Chg.below (h : Chg S w w') {B : Nat} (hB : B ≤ w.heap.size) (hS : ∀ k, S k → B ≤ k) : Below B w w' :=
  ⟨h.os, h.tape, h.output, h.size, fun k hk => h.block k (by omega) (fun hs => by have := hS k hs; omega)⟩
theorem Chg.below' (h : Chg nowhere w w') : Below w.heap.size w w' := h.below (Nat.le_refl _) (fun _ h => h.elim)
theorem Chg.cell (h : Chg S w w') {p : Addr} {v : Value} (hc : w.cell? p = some v) (hS : ¬ S p.block) : w'.cell? p = some v :=
  (World.cell?_of_block (h.block p.block (World.block_lt_of_cell? w p hc) hS)).trans hc
end

/-- A slice that reads as a list of cells. -/
def Rd (w : World) (A : Option Addr) (vs : List Value) : Prop := ∀ k u, vs[k]? = some u → ∃ ad, A = some ad ∧ w.cell? (ad.add k) = some u

section
variable {S : Nat → Prop} {w w' : World} {A : Option Addr} {vs : List Value}
theorem Rd.nil (w : World) (A : Option Addr) : Rd w A [] := fun k u h => by simp at h
/-- A slice that has cells has none of them in S. -/
def Apart (S : Nat → Prop) (A : Option Addr) (vs : List Value) : Prop := vs ≠ [] → ∀ ad, A = some ad → ¬ S ad.block
theorem Rd.chg (h : Rd w A vs) (hc : Chg S w w') (hS : Apart S A vs) : Rd w' A vs := fun k u hk => by
  obtain ⟨ad, rfl, hcell⟩ := h k u hk
  exact ⟨ad, rfl, hc.cell hcell (by rw [block_of_add]; exact hS (by rintro rfl; simp at hk) ad rfl)⟩
theorem Apart.none (A : Option Addr) (vs : List Value) : Apart nowhere A vs := fun _ _ _ h => h
theorem Rd.lt (h : Rd w A vs) (hn : 0 < vs.length) : ∃ ad, A = some ad ∧ ad.block < w.heap.size := by
  obtain ⟨ad, rfl, hc⟩ := h 0 vs[0] (by simp [hn])
  exact ⟨ad, rfl, by have := World.block_lt_of_cell? w _ hc; rwa [block_of_add] at this⟩
/-- What was there lies apart from what is new. -/
theorem Rd.apart (h : Rd w A vs) (hS : ∀ k, S k → w.heap.size ≤ k) : Apart S A vs := fun hne ad e hs => by
  obtain ⟨ad', e', hl⟩ := h.lt (List.length_pos_iff.2 hne)
  rw [e] at e'
  injection e' with e'
  subst e'
  have := hS _ hs
  omega
/-- What could be read in an elder world can be read now. -/
theorem Rd.later (h : Rd w A vs) (hc : Chg nowhere w w') : Rd w' A vs := h.chg hc (Apart.none A vs)
theorem Rd.drewN (h : Rd w A vs) (n : Nat) : Rd (w.drewN n) A vs := h
theorem Rd.alloc (h : Rd w A vs) (o : Obj) : Rd (w.alloc o) A vs := fun k u hk => by
  obtain ⟨ad, rfl, hcell⟩ := h k u hk
  exact ⟨ad, rfl, by rw [World.cell?_alloc_lt w o _ (World.block_lt_of_cell? w _ hcell)]; exact hcell⟩
theorem Rd.setCell (h : Rd w A vs) {p : Addr} (u : Value) (hp : ∀ ad, A = some ad → ad.block ≠ p.block) : Rd (w.setCell p u) A vs := fun k u' hk => by
  obtain ⟨ad, rfl, hcell⟩ := h k u' hk
  exact ⟨ad, rfl, by rw [World.cell?_setCell_other w p _ u (fun e => hp ad rfl (by rw [← block_of_add ad k, e]))]; exact hcell⟩
theorem Rd.drop (h : Rd w A vs) (n : Nat) : Rd w (A.map (·.add n)) (vs.drop n) := fun k u hk => by
  obtain ⟨ad, rfl, hc⟩ := h (n + k) u (by rwa [List.getElem?_drop] at hk)
  exact ⟨ad.add n, rfl, by rw [add_of_add]; exact hc⟩
theorem Rd.take (h : Rd w A vs) (n : Nat) : Rd w A (vs.take n) := fun k u hk => h k u (by
  rw [List.getElem?_take] at hk; split at hk <;> simp_all)
end

theorem Rd.lit (w : World) (l : List Value) (e : TypeId) {f : Nat × Nat} : Rd (w.alloc (.cells l.toArray e f)) (some ⟨w.heap.size, 0, none⟩) l := fun k u hk =>
  ⟨_, rfl, by rw [add_row, (show (w.alloc (.cells l.toArray e f)).cell? ⟨w.heap.size, k, none⟩ = l.toArray[k]? from cell_of_row _ _ k _ e f (heap_alloc_new w _))]; simpa using hk⟩
/-- A row of the call's own: it begins at a block's head; nobody else writes there. -/
def Own (w : World) (e : TypeId) (size : Nat) (A : Option Addr) (n c : Nat) (xs : List Value) : Prop := w.ownsRow 0 e size (.slice A n c) n xs

/-- A block known whole. -/
def Blk (w : World) (g : Nat) (t : TypeId) (cs : Array Value) : Prop := w.heap[g]? = some (.cells cs t (0, 0))

section
variable {S : Nat → Prop} {w w' : World} {g : Nat} {t : TypeId} {cs : Array Value}
theorem Blk.lt (h : Blk w g t cs) : g < w.heap.size := lt_of_block h
theorem Blk.cell (h : Blk w g t cs) (i : Nat) : w.cell? ⟨g, i, none⟩ = cs[i]? := cell_of_row w g i cs t (0, 0) h
theorem Blk.frozen (h : Blk w g t cs) (i : Nat) : w.frozen? ⟨g, i, none⟩ = false := by
  unfold Blk at h
  simp [World.frozen?, h]
theorem Blk.new (w : World) (t : TypeId) (cs : Array Value) : Blk (w.alloc (.cells cs t)) w.heap.size t cs := heap_alloc_new w _
theorem Blk.drewN (h : Blk w g t cs) (n : Nat) : Blk (w.drewN n) g t cs := h
theorem Blk.alloc (h : Blk w g t cs) (o : Obj) : Blk (w.alloc o) g t cs := (Below.heap_alloc w o g h.lt).trans h
theorem Blk.set_ (h : Blk w g t cs) (i : Nat) (u : Value) : Blk (w.setCell ⟨g, i, none⟩ u) g t (cs.setIfInBounds i u) := by
  unfold Blk at h ⊢
  simp [World.setCell, Array.getElem?_modify, h]
theorem Blk.far (h : Blk w g t cs) {p : Addr} (hp : g ≠ p.block) (u : Value) : Blk (w.setCell p u) g t cs := (Below.heap_setCell w p u g hp).trans h
theorem Blk.chg (h : Blk w g t cs) (hc : Chg S w w') (hS : ¬ S g) : Blk w' g t cs := (hc.block g h.lt hS).trans h
end

section
variable {S : Nat → Prop} {w w' : World} {e : TypeId} {size n c : Nat} {A : Option Addr} {xs : List Value}
theorem Own.len (h : Own w e size A n c xs) : xs.length = n * size := h.1
theorem Own.nil (w : World) (e : TypeId) (size : Nat) : Own w e size none 0 0 [] := World.ownsRow_nil w 0 e size
theorem Own.rd (h : Own w e size A n c xs) : Rd w A xs := fun k u hk => by
  rcases h.2 with ⟨e, hn⟩ | ⟨g, cap, cur, hv, _⟩
  · have hl := h.1
    rw [hn] at hl
    have : xs = [] := List.eq_nil_of_length_eq_zero (by simpa using hl)
    subst this
    simp at hk
  · have hA : A = some ⟨g, 0, none⟩ := by injection hv
    subst hA
    exact ⟨_, rfl, World.ownsRow.cells (h : w.ownsRow 0 e size (.slice (some ⟨g, 0, none⟩) n c) n xs) (g := g) rfl k u hk⟩
theorem Own.chg (h : Own w e size A n c xs) (hc : Chg S w w') (hS : ∀ ad, A = some ad → ¬ S ad.block) : Own w' e size A n c xs := by
  obtain ⟨h1, h2⟩ := h
  refine ⟨h1, ?_⟩
  rcases h2 with h2 | ⟨g, cap, cur, hv, hg, hh, r⟩
  · exact .inl h2
  · have hA : A = some ⟨g, 0, none⟩ := by injection hv
    exact .inr ⟨g, cap, cur, hv, hg, (hc.block g (lt_of_block hh) (hS _ hA)).trans hh, r⟩
theorem Own.lt (h : Own w e size A n c xs) {ad : Addr} (hA : A = some ad) : ad.block < w.heap.size := by
  subst hA
  exact (World.ownsRow.lt h ad.block rfl).2
theorem Own.form (h : Own w e size A n c xs) : (A = none ∧ n = 0 ∧ c = 0 ∧ xs = []) ∨ ∃ g cur, A = some ⟨g, 0, none⟩ ∧ Blk w g e cur ∧ n ≤ c ∧ c ≤ maxLen ∧ cur.size = c * size ∧ cur.toList.take (n * size) = xs := by
  obtain ⟨h1, h2⟩ := h
  rcases h2 with ⟨hv, hn⟩ | ⟨g, cap, cur, hv, hg, hh, h3, h4, h5, h6⟩
  · injection hv with ha _ hc
    subst hn
    exact .inl ⟨ha, rfl, hc, List.eq_nil_of_length_eq_zero (by simpa using h1)⟩
  · injection hv with ha _ hc
    subst hc
    exact .inr ⟨g, cur, ha, hh, h3, h4, h5, h6⟩
theorem Own.of_blk {g : Nat} {cur : Array Value} (hb : Blk w g e cur) (hn : n ≤ c) (hm : c ≤ maxLen) (hs : cur.size = c * size) (hx : cur.toList.take (n * size) = xs) :
    Own w e size (some ⟨g, 0, none⟩) n c xs :=
  ⟨by rw [← hx, List.length_take, Array.length_toList, hs, Nat.min_eq_left (Nat.mul_le_mul_right _ hn)], .inr ⟨g, c, cur, rfl, Nat.zero_le _, hb, hn, hm, hs, hx⟩⟩
theorem Own.drewN (h : Own w e size A n c xs) (k : Nat) : Own (w.drewN k) e size A n c xs := h
theorem Own.alloc (h : Own w e size A n c xs) (o : Obj) : Own (w.alloc o) e size A n c xs := World.ownsRow.alloc h o
theorem Own.new (w : World) (e : TypeId) (size n : Nat) (cs : Array Value) (hm : n ≤ maxLen) (hs : cs.size = n * size) :
    Own (w.alloc (.cells cs e)) e size (some ⟨w.heap.size, 0, none⟩) n n cs.toList :=
  Own.of_blk (Blk.new w e cs) (Nat.le_refl _) hm hs (by rw [← hs, ← Array.length_toList, List.take_length])
theorem Own.far (h : Own w e size A n c xs) {p : Addr} (hp : ∀ ad, A = some ad → ad.block ≠ p.block) (u : Value) : Own (w.setCell p u) e size A n c xs :=
  h.chg (S := fun k => k = p.block) ⟨rfl, rfl, rfl, by simp [World.setCell], fun k _ hn => Below.heap_setCell _ _ _ _ hn⟩ hp
end

/-- The blocks that a header at block g and its row at A take. -/
def Wf (g : Nat) (A : Option Addr) : Nat → Prop := fun k => k = g ∨ ∃ ad, A = some ad ∧ ad.block = k
/-- The row is where it was, or in a new block. -/
def Moved (w : World) (A A' : Option Addr) : Prop := A' = A ∨ ∃ ad, A' = some ad ∧ w.heap.size ≤ ad.block
theorem Moved.refl (w : World) (A : Option Addr) : Moved w A A := .inl rfl
theorem Moved.trans {w w1 : World} {A A1 A2 : Option Addr} (h : Moved w A A1) (hz : w.heap.size ≤ w1.heap.size) (k : Moved w1 A1 A2) : Moved w A A2 := by
  rcases k with rfl | ⟨ad, rfl, hk⟩
  · exact h
  · exact .inr ⟨ad, rfl, by omega⟩
theorem wf_trans {w w1 w2 : World} {g : Nat} {A A1 A2 : Option Addr} (h : Chg (Wf g A) w w1) (m : Moved w A A1) (h2 : Chg (Wf g A1) w1 w2) (m2 : Moved w1 A1 A2) :
    Chg (Wf g A) w w2 ∧ Moved w A A2 := by
  refine ⟨h.trans h2 (fun x hx hT => ?_), m.trans h.size m2⟩
  rcases hT with rfl | ⟨ad, rfl, rfl⟩
  · exact .inl rfl
  · rcases m with rfl | ⟨ad', h3, h4⟩
    · exact .inr ⟨ad, rfl, rfl⟩
    · injection h3 with h3
      subst h3
      omega
theorem Chg.step {S : Nat → Prop} {w a b : World} (h : Chg nowhere w a) (k : Chg S a b) (hS : ∀ x, S x → w.heap.size ≤ x) : Chg nowhere w b :=
  h.trans k (fun x hx hs => by have := hS x hs; omega)
/-- What the table says of an element type. -/
structure Elem (P : Program) (t e : TypeId) (size bytes : Nat) (z : Value) : Prop where
  under : P.underlying t = some (.slice e)
  info : (P.info? e).map (fun i => (i.zero, i.size, i.bytes)) = some (some z, size, bytes)
  zsize : z.cells.size = size
  pos : 0 < size

section
variable {P : Program} {w : World} {t e : TypeId} {size bytes : Nat} {z : Value}
theorem run_append_Own (E : Elem P t e size bytes z) (ty : TypeId) {A : Option Addr} {n c : Nat} {xs : List Value} (hown : Own w e size A n c xs)
    {A2 : Option Addr} {m c2 : Nat} {news : List Value} (hr : Rd w A2 news) (hl : news.length = m * size) (h1 : ∀ u ∈ news, u.oneCell' = true)
    (h63 : n + m ≤ maxLen) (hbytes : (n + m) * bytes ≤ 140737488355328) (hnil : A2 = none → m = 0) :
    ∃ A' c' w', (Builtin.append_ #[t, t] ty #[.slice A n c, .slice A2 m c2]).run P w = .ok (.slice A' (n + m) c') w' ∧ Own w' e size A' (n + m) c' (xs ++ news) ∧
      Chg (fun k => ∃ ad, A = some ad ∧ ad.block = k) w w' ∧ (A' = A ∨ A' = some ⟨w.heap.size, 0, none⟩) := by
  obtain ⟨i, hi, hz, hs, hb⟩ := info_parts E.info
  rcases A2 with _ | ad2
  · obtain rfl := hnil rfl
    have hn : news = [] := List.eq_nil_of_length_eq_zero (by simpa using hl)
    subst hn
    refine ⟨A, c, w, ?_, by simpa using hown, Chg.refl _ _, .inl rfl⟩
    rcases hown.form with ⟨rfl, rfl, rfl, rfl⟩ | ⟨g, cur, rfl, _, h3, _⟩
    · simp [Builtin.append_, run_underlying E.under, sizeOf, typeInfo, hi, Builtin.lenOf, Builtin.firstCells]
    · simp [Builtin.append_, run_underlying E.under, sizeOf, typeInfo, hi, Builtin.lenOf, Builtin.firstCells, h3, storeCells]
  · have hcells : ∀ j u, news[j]? = some u → w.cell? (ad2.add j) = some u := fun j u hu => by
      obtain ⟨ad', h, hc⟩ := hr j u hu
      injection h with h
      subst h
      exact hc
    obtain ⟨v', w', hrun, h2, h3, h4, h5⟩ := run_append_own_at (P := P) w 0 t ty e i z size bytes E.under hi hz hs hb E.zsize E.pos (.slice A n c) n xs hown ad2 m c2 news hl hcells h1 h63 hbytes (Nat.zero_le _)
    have hform : ∃ A' c', v' = .slice A' (n + m) c' ∧ (A' = A ∨ A' = some ⟨w.heap.size, 0, none⟩) := by
      rcases h2.2 with ⟨rfl, hn⟩ | ⟨g, cap, cur, rfl, _⟩
      · rw [hn]
        refine ⟨none, 0, rfl, ?_⟩
        obtain ⟨h6, _⟩ := h4.1 rfl
        injection h6 with h6
        exact .inl h6.symm
      · refine ⟨_, cap, rfl, ?_⟩
        rcases h5 with h5 | h5
        · rcases A with _ | ad
          · simp [Value.ownBlock] at h5
          · rcases hown.form with ⟨h, _⟩ | ⟨g', cur', h, _⟩
            · cases h
            · injection h with h
              subst h
              simp [Value.ownBlock] at h5
              subst h5
              exact .inl rfl
        · simp [Value.ownBlock] at h5
          subst h5
          exact .inr rfl
    obtain ⟨A', c', rfl, h6⟩ := hform
    refine ⟨A', c', w', hrun, h2, (Chg.of_grown h3).mono (fun x _ hx => ?_), h6⟩
    rcases A with _ | ad
    · simp [Value.ownBlock] at hx
    · exact ⟨ad, rfl, by simpa [Value.ownBlock] using hx⟩

theorem wp_append_Own {o : Oper} {a : Act} {K : Act → World → Prop} {Q : Exit → Act → World → Prop} (s x : Operand) (E : Elem P t e size bytes z)
    (ho : o.op = .call { callee := .builtin .append, args := #[s, x], argTypes := #[t, t] })
    {A : Option Addr} {n c : Nat} {xs : List Value} (hs : a.eval s = .slice A n c) (hown : Own w e size A n c xs)
    {A2 : Option Addr} {m c2 : Nat} {news : List Value} (hx : a.eval x = .slice A2 m c2) (hr : Rd w A2 news) (hl : news.length = m * size) (h1 : ∀ u ∈ news, u.oneCell' = true)
    (h63 : n + m ≤ maxLen) (hbytes : (n + m) * bytes ≤ 140737488355328) (hnil : A2 = none → m = 0)
    (h : ∀ A' c' w', Own w' e size A' (n + m) c' (xs ++ news) → Chg (fun k => ∃ ad, A = some ad ∧ ad.block = k) w w' → (A' = A ∨ A' = some ⟨w.heap.size, 0, none⟩) → K (a.put o.dst (.slice A' (n + m) c')) w') : o.wp P a w K Q := by
  obtain ⟨A', c', w', hrun, h2, h3, h4⟩ := run_append_Own (P := P) E o.type hown hr hl h1 h63 hbytes hnil (c2 := c2)
  unfold Oper.wp execOp
  simp only [ho, resolve, invoke, builtin, Sem.run_bind, Sem.run_pure, Result.andThen_ok, List.map_toArray, List.map_cons, List.map_nil, hs, hx, hrun]
  exact h A' c' w' h2 h3 h4

theorem wpList_append_Own {ops : Array Oper} {rest : List Oper} {o : Oper} {a : Act} {Q : Exit → Act → World → Prop} (hgd : o.guard = none) (s x : Operand) (E : Elem P t e size bytes z)
    (ho : o.op = .call { callee := .builtin .append, args := #[s, x], argTypes := #[t, t] })
    {A : Option Addr} {n c : Nat} {xs : List Value} (hs : a.eval s = .slice A n c) (hown : Own w e size A n c xs)
    {A2 : Option Addr} {m c2 : Nat} {news : List Value} (hx : a.eval x = .slice A2 m c2) (hr : Rd w A2 news) (hl : news.length = m * size) (h1 : ∀ u ∈ news, u.oneCell' = true)
    (h63 : n + m ≤ maxLen) (hbytes : (n + m) * bytes ≤ 140737488355328) (hnil : A2 = none → m = 0)
    (h : ∀ A' c' w', Own w' e size A' (n + m) c' (xs ++ news) → Chg (fun k => ∃ ad, A = some ad ∧ ad.block = k) w w' → (A' = A ∨ A' = some ⟨w.heap.size, 0, none⟩) → wpList P ops Q rest (a.put o.dst (.slice A' (n + m) c')) w') : wpList P ops Q (o :: rest) a w :=
  wpList_plain hgd fun _ hK => wp_append_Own s x E ho hs hown hx hr hl h1 h63 hbytes hnil fun A' c' w' h2 h3 h4 => hK _ _ (h A' c' w' h2 h3 h4)
end

/-- No row here is ever longer. -/
def lim : Nat := 140737488355328
theorem lim_le {n : Nat} (h : Hid (n ≤ lim)) : n ≤ 140737488355328 := h
theorem hid_lim {n : Nat} (h : n ≤ 140737488355328) : Hid (n ≤ lim) := h
theorem one_of_forall {p : Value → Prop} {v : Value} (h : p v) : ∀ u ∈ [v], p u := by
  intro u hu
  rw [List.mem_singleton.1 hu]
  exact h
/-- One cell behind a row of one-cell elements (of at most one byte each). -/
theorem wpList_append_one {P : Program} {w : World} {t e : TypeId} {z : Value} {ops : Array Oper} {rest : List Oper} {o : Oper} {a : Act} {Q : Exit → Act → World → Prop} (hgd : o.guard = none) (s x : Operand) {bytes : Nat} (E : Elem P t e 1 bytes z)
    (ho : o.op = .call { callee := .builtin .append, args := #[s, x], argTypes := #[t, t] }) (hby : bytes ≤ 1)
    {A : Option Addr} {n c : Nat} {xs : List Value} (hs : a.eval s = .slice A n c) (hown : Own w e 1 A n c xs)
    {ad : Addr} {c2 : Nat} {v : Value} (hx : a.eval x = .slice (some ad) 1 c2) (hr : Rd w (some ad) [v]) (h1 : v.oneCell' = true) (hb : Hid (n + 1 ≤ lim))
    (h : ∀ A' c' w', Own w' e 1 A' (n + 1) c' (xs ++ [v]) → Chg (fun k => ∃ ad, A = some ad ∧ ad.block = k) w w' → (A' = A ∨ A' = some ⟨w.heap.size, 0, none⟩) → wpList P ops Q rest (a.put o.dst (.slice A' (n + 1) c')) w') : wpList P ops Q (o :: rest) a w :=
  wpList_append_Own hgd s x E ho hs hown hx hr rfl (one_of_forall h1) (by have := lim_le hb; unfold maxLen; omega)
    (by have := lim_le hb; have := Nat.mul_le_mul_left (n + 1) hby; omega) (fun h => by cases h) h
/-- A row of bytes behind a row of bytes. -/
theorem wpList_append_many {P : Program} {w : World} {t e : TypeId} {z : Value} {ops : Array Oper} {rest : List Oper} {o : Oper} {a : Act} {Q : Exit → Act → World → Prop} (hgd : o.guard = none) (s x : Operand) {bytes : Nat} (E : Elem P t e 1 bytes z)
    (ho : o.op = .call { callee := .builtin .append, args := #[s, x], argTypes := #[t, t] }) (hby : bytes ≤ 1)
    {A : Option Addr} {n c : Nat} {xs : List Value} (hs : a.eval s = .slice A n c) (hown : Own w e 1 A n c xs)
    {A2 : Option Addr} {m c2 : Nat} {vs : List Value} (hx : a.eval x = .slice A2 m c2) (hr : Rd w A2 vs) (hl : Hid (vs.length = m)) (h1 : ∀ u ∈ vs, u.oneCell' = true) (hb : Hid (n + m ≤ lim))
    (h : ∀ A' c' w', Own w' e 1 A' (n + m) c' (xs ++ vs) → Chg (fun k => ∃ ad, A = some ad ∧ ad.block = k) w w' → (A' = A ∨ A' = some ⟨w.heap.size, 0, none⟩) → wpList P ops Q rest (a.put o.dst (.slice A' (n + m) c')) w') : wpList P ops Q (o :: rest) a w :=
  wpList_append_Own hgd s x E ho hs hown hx hr (by rw [hl.out, Nat.mul_one]) h1 (by have := lim_le hb; unfold maxLen; omega)
    (by have := lim_le hb; have := Nat.mul_le_mul_left (n + m) hby; omega) (fun e => by
      subst e
      have := hl.out
      rcases vs with _ | ⟨v, vs⟩
      · simpa using this.symm
      · obtain ⟨ad, h, _⟩ := hr 0 v rfl
        cases h) h

/-- Bytes as cells. -/
def u8v (b : UInt8) : Value := .int .u8 b.toNat
def bs (xs : List UInt8) : List Value := xs.map u8v
theorem bs_length (xs : List UInt8) : (bs xs).length = xs.length := List.length_map _
theorem bs_append (xs ys : List UInt8) : bs xs ++ bs ys = bs (xs ++ ys) := List.map_append.symm
theorem bs_one (xs : List UInt8) : ∀ u ∈ bs xs, u.oneCell' = true := by
  intro u hu
  obtain ⟨b, _, rfl⟩ := List.mem_map.1 hu
  rfl
theorem bs_take (xs : List UInt8) (n : Nat) : (bs xs).take n = bs (xs.take n) := List.map_take.symm
theorem bs_inj {xs ys : List UInt8} (h : bs xs = bs ys) : xs = ys := by
  refine List.map_inj_right (fun a b h => ?_) |>.1 h
  simpa [u8v, UInt8.toNat_inj, Int.ofNat_inj] using h
theorem Rd.byte {w : World} {A : Option Addr} {xs : List UInt8} (h : Rd w A (bs xs)) {k : Nat} (hk : k < xs.length) :
    ∃ ad b, A = some ad ∧ xs[k]? = some b ∧ w.cell? (ad.add k) = some (.int .u8 b.toNat) := by
  obtain ⟨ad, hA, hc⟩ := h k (u8v xs[k]) (by simp [bs, hk])
  exact ⟨ad, xs[k], hA, by simp [hk], hc⟩
/-- what a list of rows holds: each a slice header -/
structure Row where
  A : Option Addr
  c : Nat
  p : List UInt8
def Row.v (r : Row) : Value := .slice r.A r.p.length r.c
def rowsV (l : List Row) : List Value := l.map Row.v
/-- the rows' bytes can be read -/
def RowsOk (w : World) (l : List Row) : Prop := ∀ r ∈ l, Rd w r.A (bs r.p)
def RowsApart (S : Nat → Prop) (l : List Row) : Prop := ∀ r ∈ l, Apart S r.A (bs r.p)
theorem RowsOk.chg {S : Nat → Prop} {w w' : World} {l : List Row} (h : RowsOk w l) (hc : Chg S w w') (ha : RowsApart S l) : RowsOk w' l := fun r hr => (h r hr).chg hc (ha r hr)
theorem RowsOk.later {w w' : World} {l : List Row} (h : RowsOk w l) (hc : Chg nowhere w w') : RowsOk w' l := fun r hr => (h r hr).later hc
theorem RowsOk.apart {S : Nat → Prop} {w : World} {l : List Row} (h : RowsOk w l) (hS : ∀ k, S k → w.heap.size ≤ k) : RowsApart S l := fun r hr => (h r hr).apart hS
end Go.Proofs.YtmnapacibpnodaaGreat
end
section
open Go Go.RowKit
namespace Go.Proofs.YtmnapacibpnodaaGreat
section
variable {S : Nat → Prop} {w w' : World} {g g' : Nat} {t : TypeId} {cs old : Array Value}
theorem Blk.row_ (h : Blk w g t old) (cs : Array Value) : Blk (w.setRow g cs) g t cs := setRow_heap w g old cs t (0, 0) h
theorem Blk.rowFar (h : Blk w g t cs) (hne : g ≠ g') (cs' : Array Value) : Blk (w.setRow g' cs') g t cs := (setRow_other w g' g cs' hne).trans h
theorem Chg.setRow {a : World} (h : Chg S a w) (hp : g < a.heap.size → S g) (cs : Array Value) : Chg S a (w.setRow g cs) :=
  h.trans (T := fun k => k = g) ⟨rfl, rfl, rfl, by simp, fun k _ hn => setRow_other w g k cs hn⟩ (fun x hx e => by subst e; exact hp hx)
end
theorem Blk.new1 (w : World) (o : Obj) (t : TypeId) (cs : Array Value) : Blk ((w.alloc o).alloc (.cells cs t)) (w.heap.size + 1) t cs := by
  have h := Blk.new (w.alloc o) t cs
  simpa using h
def u32s (ws : List Nat) : Array Value := (ws.map fun x : Nat => Value.int .u32 (x : Int)).toArray
theorem u32s_get (ws : List Nat) (i : Nat) (h : i < ws.length) : (u32s ws)[i]? = some (.int .u32 (ws.getD i 0 : Nat)) := by
  simp [u32s, List.getD_eq_getElem?_getD, List.getElem?_eq_getElem h]
theorem u32s_size (ws : List Nat) : (u32s ws).size = ws.length := by simp [u32s]
theorem u32s_one (ws : List Nat) : (u32s ws).all (·.oneCell') = true := by
  rw [Array.all_eq_true_iff_forall_mem]
  intro x hx
  simp [u32s] at hx
  obtain ⟨y, _, rfl⟩ := hx
  rfl
theorem u32s_set (ws : List Nat) (i x : Nat) : (u32s ws).setIfInBounds i (.int .u32 (x : Int)) = u32s (ws.set i x) := by
  apply Array.ext'
  simp [u32s, List.map_set]
/-- bytes as an array -/
def u8s (xs : List UInt8) : Array Value := (bs xs).toArray
theorem u8s_get (xs : List UInt8) (i : Nat) (h : i < xs.length) : (u8s xs)[i]? = some (.int .u8 ((xs.getD i 0).toNat : Int)) := by
  simp [u8s, bs, u8v, List.getD_eq_getElem?_getD, List.getElem?_eq_getElem h]
theorem u8s_size (xs : List UInt8) : (u8s xs).size = xs.length := by simp [u8s, bs]
theorem u8s_one (xs : List UInt8) : (u8s xs).all (·.oneCell') = true := by
  rw [Array.all_eq_true_iff_forall_mem]
  intro x hx
  simp [u8s, bs] at hx
  obtain ⟨y, _, rfl⟩ := hx
  rfl
theorem u8s_set (xs : List UInt8) (i : Nat) (x : UInt8) : (u8s xs).setIfInBounds i (.int .u8 (x.toNat : Int)) = u8s (xs.set i x) := by
  apply Array.ext'
  simp [u8s, bs, List.map_set, u8v]
theorem rd_u8s {w : World} {g : Nat} {t : TypeId} {xs : List UInt8} (h : Blk w g t (u8s xs)) : Rd w (some ⟨g, 0, none⟩) (bs xs) := fun k u hk => by
  refine ⟨_, rfl, ?_⟩
  rw [add_row, h.cell k]
  simpa [u8s] using hk
theorem wpList_copyB {P : Program} {w : World} {ops : Array Oper} {rest : List Oper} {o : Oper} {a : Act} {Q : Exit → Act → World → Prop} (hgd : o.guard = none) (d s : Operand) (dT sT : TypeId)
    (ho : o.op = .call { callee := .builtin .copy, args := #[d, s], argTypes := #[dT, sT] }) (elem : TypeId) (hu : P.underlying dT = some (.slice elem)) (hsz : (P.info? elem).map (·.size) = some 1)
    {g off dLen dCap : Nat} {sp : Option Addr} {sLen sCap : Nat} (hd : a.eval d = .slice (some ⟨g, off, none⟩) dLen dCap) (hs : a.eval s = .slice sp sLen sCap)
    {cur : List UInt8} {t : TypeId} (hb : Blk w g t (u8s cur)) {xs : List UInt8} (hr : Rd w sp (bs xs)) (hxl : Hid (xs.length = sLen)) (hle : sLen ≤ dLen) (hfit : Hid (off + sLen ≤ cur.length))
    (h : ∀ w', Hid (Blk w' g t (u8s (cur.take off ++ xs ++ cur.drop (off + sLen)))) → Hid (Chg (fun k => k = g) w w') → wpList P ops Q rest (a.put o.dst (.int .i64 sLen)) w') : wpList P ops Q (o :: rest) a w := by
  have hxl := hxl.out
  have hfit := hfit.out
  rcases Nat.eq_zero_or_pos sLen with h0 | h0
  · subst h0
    obtain rfl : xs = [] := List.eq_nil_of_length_eq_zero hxl
    refine wpList_copy_nothing hgd d s dT sT ho elem hu hsz (some ⟨g, off, none⟩) sp dLen dCap 0 sCap hd hs (by simp) ?_
    exact h w (Lib.hid (by simpa using hb)) (Chg.refl _ _)
  · obtain ⟨ad, rfl, _⟩ := hr.lt (by rw [bs_length]; omega)
    refine wpList_copy_own hgd d s dT sT ho elem hu hsz g off dLen dCap ad sLen sCap hd hs (u8s cur) t hb (bs xs) (by rw [bs_length, hxl]; exact (Nat.min_eq_left hle).symm) (fun j v hj => by
      obtain ⟨ad', e, h⟩ := hr j v hj
      injection e with e
      subst e
      exact h) (by rw [bs_length, u8s_size]; omega) (bs_one xs) ?_
    have e1 : ((u8s cur).toList.take off ++ (bs xs ++ (u8s cur).toList.drop (off + (bs xs).length))).toArray = u8s (cur.take off ++ xs ++ cur.drop (off + sLen)) := by
      rw [bs_length, hxl]
      simp [u8s, bs]
    rw [e1, bs_length, hxl]
    exact h _ (hb.row_ _) (Chg.setRow (S := fun k => k = g) (Chg.refl _ _) (fun _ => rfl) _)
end Go.Proofs.YtmnapacibpnodaaGreat
end
section
open Go Go.RowKit
namespace Go.Proofs.YtmnapacibpnodaaGreat
class Fact' (p : Prop) : Prop where
  out : p
/-- one step of the world: what may have changed -/
class Step (S : outParam (Nat → Prop)) (w : outParam World) (w' : World) : Prop where
  chg : Chg S w w'
/-- the block that was made in this world -/
class Born (w : outParam World) (z : Nat) : Prop where
  eq : z = w.heap.size
/-- a block known whole -/
class HB (w : World) (g : Nat) (t : outParam TypeId) (cs : outParam (Array Value)) : Prop where
  out : Blk w g t cs
/-- a slice that reads as a list of cells -/
class HR (w : World) (A : Option Addr) (vs : outParam (List Value)) : Prop where
  out : Rd w A vs
/-- a row of the call's own -/
class HO (w : World) (e : outParam TypeId) (size : outParam Nat) (A : Option Addr) (n c : outParam Nat) (xs : outParam (List Value)) : Prop where
  out : Own w e size A n c xs
/-- it lies in what was made since -/
class NewA (w : outParam World) (A : Option Addr) : Prop where
  out : ∀ ad, A = some ad → w.heap.size ≤ ad.block
/-- only what is new has changed since -/
class Nw (w0 w : World) : Prop where
  out : Chg nowhere w0 w
def only (z : Nat) : Nat → Prop := fun k => k = z
def rowOf (A : Option Addr) : Nat → Prop := fun k => ∃ ad, A = some ad ∧ ad.block = k
class OffB (S : Nat → Prop) (g : Nat) : Prop where
  out : ¬ S g
class OffA (S : Nat → Prop) (A : Option Addr) : Prop where
  out : ∀ ad, A = some ad → ¬ S ad.block
class Above (w : World) (S : Nat → Prop) : Prop where
  out : ∀ k, S k → w.heap.size ≤ k

instance (w : World) : Step nowhere w w.drew := ⟨(Chg.refl _ _).drew⟩
instance (w : World) (n : Nat) : Step nowhere w (w.drewN n) := ⟨(Chg.refl _ _).drewN n⟩
instance (w : World) (o : Obj) : Step nowhere w (w.alloc o) := ⟨(Chg.refl _ _).alloc o⟩
instance (w : World) : Nw w w := ⟨Chg.refl _ _⟩
instance (w : World) : Above w nowhere := ⟨fun _ h => h.elim⟩
instance Above.only_ (w0 w : World) (z : Nat) [b : Born w z] [n : Nw w0 w] : Above w0 (only z) := ⟨fun k h => by
  have h' : k = z := h
  rw [h', b.eq]
  exact n.out.size⟩
instance Above.row_ (w0 w : World) (A : Option Addr) [b : NewA w A] [n : Nw w0 w] : Above w0 (rowOf A) := ⟨fun k ⟨ad, h, e⟩ => by
  rw [← e]
  exact Nat.le_trans n.out.size (b.out ad h)⟩
instance Above.none_ (w0 : World) : Above w0 (rowOf none) := ⟨fun k ⟨ad, h, _⟩ => by cases h⟩
instance Nw.snoc (S : Nat → Prop) (w0 w w' : World) [s : Step S w w'] [n : Nw w0 w] [a : Above w0 S] : Nw w0 w' := ⟨n.out.step s.chg a.out⟩
theorem stepN {w0 w : World} [n : Nw w0 w] : Step nowhere w0 w := ⟨n.out⟩

instance (g : Nat) : OffB nowhere g := ⟨id⟩
instance (A : Option Addr) : OffA nowhere A := ⟨fun _ _ h => h⟩
instance (S : Nat → Prop) : OffA S none := ⟨fun _ h => by cases h⟩
instance OffB.born (w : World) (z g : Nat) (t : TypeId) (cs : Array Value) [b : Born w z] [h : HB w g t cs] : OffB (only z) g := ⟨fun e => by
  have e' : g = z := e
  have := h.out.lt
  rw [e', b.eq] at this
  omega⟩
instance OffB.later (w : World) (z g : Nat) (t : TypeId) (cs : Array Value) [b : Born w g] [h : HB w z t cs] : OffB (only z) g := ⟨fun e => by
  have e' : g = z := e
  have := h.out.lt
  rw [← e', b.eq] at this
  omega⟩
instance OffB.rowNew (w : World) (A : Option Addr) (g : Nat) (t : TypeId) (cs : Array Value) [b : NewA w A] [h : HB w g t cs] : OffB (rowOf A) g := ⟨fun ⟨ad, e, hk⟩ => by
  have h1 := b.out ad e
  have h2 := h.out.lt
  omega⟩
instance OffB.rowOld (w : World) (e : TypeId) (size n c : Nat) (A : Option Addr) (xs : List Value) (g : Nat) [b : Born w g] [h : HO w e size A n c xs] : OffB (rowOf A) g := ⟨fun ⟨ad, e, hk⟩ => by
  have h1 := h.out.lt e
  have h2 := b.eq
  omega⟩
instance OffB.rowNone (g : Nat) : OffB (rowOf none) g := ⟨fun ⟨ad, e, hk⟩ => by cases e⟩
theorem rd_lt {w : World} {A : Option Addr} {vs : List Value} (h : Rd w A vs) (hne : vs ≠ []) {ad : Addr} (e : A = some ad) : ad.block < w.heap.size := by
  obtain ⟨ad', e', hl⟩ := h.lt (List.length_pos_iff.2 hne)
  rw [e] at e'
  injection e' with e'
  subst e'
  exact hl
/-- cells that are read lie apart from S -/
class OffR (S : Nat → Prop) (A : Option Addr) (vs : List Value) : Prop where
  out : Apart S A vs
instance (A : Option Addr) (vs : List Value) : OffR nowhere A vs := ⟨fun _ _ _ h => h⟩
instance OffR.nil (S : Nat → Prop) (A : Option Addr) : OffR S A [] := ⟨fun h => absurd rfl h⟩
instance OffR.none (S : Nat → Prop) (vs : List Value) : OffR S none vs := ⟨fun _ _ h => by cases h⟩
instance OffR.born (w : World) (z : Nat) (A : Option Addr) (vs : List Value) [b : Born w z] [h : HR w A vs] : OffR (only z) A vs := ⟨fun hne ad e hk => by
  have h1 := rd_lt h.out hne e
  have hk' : ad.block = z := hk
  rw [hk', b.eq] at h1
  omega⟩
instance OffR.newA (w : World) (z : Nat) (t : TypeId) (cs : Array Value) (A : Option Addr) (vs : List Value) [b : NewA w A] [h : HB w z t cs] : OffR (only z) A vs := ⟨fun _ ad e hk => by
  have h1 := b.out ad e
  have h2 := h.out.lt
  have hk' : ad.block = z := hk
  omega⟩
instance OffR.rowNew (w : World) (B A : Option Addr) (vs : List Value) [b : NewA w B] [h : HR w A vs] : OffR (rowOf B) A vs := ⟨fun hne ad e ⟨bd, e', hk⟩ => by
  have h1 := rd_lt h.out hne e
  have h2 := b.out bd e'
  omega⟩
instance OffR.rowOld (w : World) (e : TypeId) (size n c : Nat) (B A : Option Addr) (xs vs : List Value) [b : NewA w A] [h : HO w e size B n c xs] : OffR (rowOf B) A vs := ⟨fun hne ad e ⟨bd, e', hk⟩ => by
  have h1 := h.out.lt e'
  have h2 := b.out ad e
  omega⟩
instance OffA.born (w : World) (z : Nat) (e : TypeId) (size n c : Nat) (A : Option Addr) (xs : List Value) [b : Born w z] [h : HO w e size A n c xs] : OffA (only z) A := ⟨fun ad e hk => by
  have h1 := h.out.lt e
  have hk' : ad.block = z := hk
  rw [hk', b.eq] at h1
  omega⟩
instance OffA.newA (w : World) (z : Nat) (t : TypeId) (cs : Array Value) (A : Option Addr) [b : NewA w A] [h : HB w z t cs] : OffA (only z) A := ⟨fun ad e hk => by
  have h1 := b.out ad e
  have h2 := h.out.lt
  have hk' : ad.block = z := hk
  omega⟩
instance OffA.rowNew (w : World) (e : TypeId) (size n c : Nat) (B A : Option Addr) (xs : List Value) [b : NewA w B] [h : HO w e size A n c xs] : OffA (rowOf B) A := ⟨fun ad e ⟨bd, e', hk⟩ => by
  have h1 := h.out.lt e
  have h2 := b.out bd e'
  omega⟩
instance OffA.rowOld (w : World) (e : TypeId) (size n c : Nat) (B A : Option Addr) (xs : List Value) [b : NewA w A] [h : HO w e size B n c xs] : OffA (rowOf B) A := ⟨fun ad e ⟨bd, e', hk⟩ => by
  have h1 := h.out.lt e'
  have h2 := b.out ad e
  omega⟩

instance HB.step (S : Nat → Prop) (w w' : World) (g : Nat) (t : TypeId) (cs : Array Value) [s : Step S w w'] [h : HB w g t cs] [o : OffB S g] : HB w' g t cs := ⟨h.out.chg s.chg o.out⟩
instance HR.step (S : Nat → Prop) (w w' : World) (A : Option Addr) (vs : List Value) [s : Step S w w'] [h : HR w A vs] [o : OffR S A vs] : HR w' A vs := ⟨h.out.chg s.chg o.out⟩
instance HO.step (S : Nat → Prop) (w w' : World) (e : TypeId) (size n c : Nat) (A : Option Addr) (xs : List Value) [s : Step S w w'] [h : HO w e size A n c xs] [o : OffA S A] : HO w' e size A n c xs := ⟨h.out.chg s.chg o.out⟩
instance (priority := 900) HR.ofOwn (w : World) (e : TypeId) (size n c : Nat) (A : Option Addr) (xs : List Value) [h : HO w e size A n c xs] : HR w A xs := ⟨h.out.rd⟩
instance (priority := 900) HR.ofBlk (w : World) (z : Nat) (t : TypeId) (xs : List UInt8) [h : HB w z t (u8s xs)] : HR w (some ⟨z, 0, none⟩) (bs xs) := ⟨rd_u8s h.out⟩
instance HR.nil_ (w : World) : HR w none [] := ⟨Rd.nil _ _⟩
instance HB.new (w : World) (cs : Array Value) (t : TypeId) : HB (w.alloc (.cells cs t)) w.heap.size t cs := ⟨Blk.new w t cs⟩
theorem NewA.of_none (w : World) : NewA w none := ⟨fun _ h => by cases h⟩
theorem NewA.of_born {w : World} {z : Nat} [b : Born w z] (k : Nat) : NewA w (some ⟨z, k, none⟩) := ⟨fun ad h => by
  injection h with h
  subst h
  exact Nat.le_of_eq b.eq.symm⟩
theorem NewA.mono {w0 w : World} {A : Option Addr} (h : NewA w A) [n : Nw w0 w] : NewA w0 A := ⟨fun ad e => Nat.le_trans n.out.size (h.out ad e)⟩
theorem NewA.grown {w0 w : World} {A A' : Option Addr} [h : NewA w0 A] [n : Nw w0 w] (k : A' = A ∨ A' = some ⟨w.heap.size, 0, none⟩) : NewA w0 A' := ⟨fun ad e => by
  rcases k with k | k
  · exact h.out ad (k.symm.trans e)
  · rw [k] at e
    injection e with e
    subst e
    exact n.out.size⟩

theorem HB.eq {w : World} {g : Nat} {t : TypeId} {xs ys : List UInt8} (h : HB w g t (u8s xs)) (e : xs = ys) : HB w g t (u8s ys) := e ▸ h
/-- what a new variable of a type holds -/
class ZeroT (P : Program) (t : TypeId) (cs : outParam (Array Value)) : Prop where
  out : ∃ v, (∀ w, (zeroValue t).run P w = .ok v w) ∧ v.cells = cs
/-- how many cells a type takes, and whether it is an array or a struct -/
class RowT (P : Program) (t : TypeId) (n : outParam Nat) : Prop where
  size : (P.info? t).map (·.size) = some n
  row : ∃ d, P.underlying t = some d ∧ (match d with | .struct _ | .array _ _ => true | _ => false) = true

def b8 (n : Int) : UInt8 := UInt8.ofNat (n % 256).toNat
theorem mod_b8 (n : Int) : n % 256 = ((b8 n).toNat : Int) := by
  unfold b8
  rw [UInt8.toNat_ofNat']
  omega
theorem b8_self (b : UInt8) : b8 (b.toNat : Int) = b := by
  have h := b.toNat_lt
  apply UInt8.toNat_inj.1
  unfold b8
  rw [UInt8.toNat_ofNat']
  omega
theorem b8_mod (n : Int) : b8 (n % 256) = b8 n := by
  unfold b8
  rw [Int.emod_emod_of_dvd _ (by decide)]
theorem b8_in {n : Int} (h0 : 0 ≤ n) (h1 : n < 256) : n = ((b8 n).toNat : Int) := by
  rw [← mod_b8]
  omega
def iget (l : List Int) (k : Nat) : Int := l.getD k 0
def bget (l : List UInt8) (k : Nat) : UInt8 := l.getD k 0
theorem iget_set (l : List Int) (k : Nat) (n : Int) (h : k < l.length) : iget (l.set k n) k = n := by simp [iget, List.getD_eq_getElem?_getD, h]
/-- numbers as cells -/
def i64s (l : List Int) : Array Value := (l.map fun x => Value.int .i64 x).toArray
theorem i64s_get (l : List Int) (k : Nat) (hk : k < l.length) : (i64s l)[k]? = some (.int .i64 (l.getD k 0)) := by
  simp [i64s, List.getD_eq_getElem?_getD, List.getElem?_eq_getElem hk]
theorem i64s_size (l : List Int) : (i64s l).size = l.length := by simp [i64s]
theorem i64s_one (l : List Int) : (i64s l).all (·.oneCell') = true := by
  rw [Array.all_eq_true_iff_forall_mem]
  intro x hx
  simp [i64s] at hx
  obtain ⟨y, _, rfl⟩ := hx
  rfl
theorem i64s_set (l : List Int) (k : Nat) (n : Int) : (i64s l).setIfInBounds k (.int .i64 n) = i64s (l.set k n) := by
  apply Array.ext'
  simp [i64s, List.map_set]
/-- a type of one cell -/
class CellT (P : Program) (t : TypeId) : Prop where
  agg : ∀ w, (isAgg t).run P w = .ok false w
  size1 : ∀ w, (sizeOf t).run P w = .ok 1 w
section
variable {P : Program} {ops : Array Oper} {rest : List Oper} {a : Act} {w : World} {Q : Exit → Act → World → Prop} {dst : Option Tmp} {ty : TypeId} {pos : String} {after : Array Edge}
/-- a halt on the way, for looking about -/
def Stop (p : Prop) : Prop := p
theorem wpl_guard {op : Op} {g : Nat × Bool} (hw : Region.wanted ⟨dst, op, ty, pos, after, some g⟩ (yielded ops a.tmps) = true) (h : wpList P ops Q (⟨dst, op, ty, pos, after, none⟩ :: rest) a w) : wpList P ops Q (⟨dst, op, ty, pos, after, some g⟩ :: rest) a w := by
  unfold wpList at h ⊢
  rw [if_pos (by simp [Region.wanted])] at h
  rw [if_pos hw]
  exact h
theorem wpl_alloc {t : TypeId} {cs : Array Value} [z : ZeroT P t cs]
    (h : ∀ g w', Born w g → Step nowhere w w' → HB w' g t cs → wpList P ops Q rest (a.put dst (.pointer (some ⟨g, 0, none⟩))) w') :
    wpList P ops Q (⟨dst, .alloc t, ty, pos, after, none⟩ :: rest) a w :=
  wpList_plain rfl fun K hK => by
    obtain ⟨v, hv, hc⟩ := z.out
    unfold Oper.wp execOp
    simp only [Instr.alloc, newVar, newRow, newObj, go_sem, Sem.run_bind, Sem.run_pure, Result.andThen_ok, hv]
    rw [← hc] at h
    refine hK _ _ (h w.heap.size (w.alloc (.cells v.cells t)) ⟨rfl⟩ inferInstance ⟨Blk.new w t _⟩)
theorem wpl_of_run {o : Oper} (hg : o.guard = none) {v : Value} {w' : World} (hrun : (execOp a.eval o).run P w = .ok (.value v) w') (h : wpList P ops Q rest (a.put o.dst v) w') : wpList P ops Q (o :: rest) a w :=
  wpList_plain hg fun K hK => by
    unfold Oper.wp
    rw [hrun]
    exact hK _ _ h
theorem wpl_of_unit {o : Oper} (hg : o.guard = none) {w' : World} (hrun : (execOp a.eval o).run P w = .ok .skip w') (h : wpList P ops Q rest (a.put o.dst undef) w') : wpList P ops Q (o :: rest) a w :=
  wpList_plain hg fun K hK => by
    unfold Oper.wp
    rw [hrun]
    exact hK _ _ h
theorem wpl_box {t : TypeId} {x : Operand} {v : Value} (hx : a.eval x = v) {cs : Array Value} (hc : v.cells = cs)
    (h : ∀ g w', Born w g → Step nowhere w w' → HB w' g t cs → wpList P ops Q rest (a.put dst (.pointer (some ⟨g, 0, none⟩))) w') :
    wpList P ops Q (⟨dst, .box t x, ty, pos, after, none⟩ :: rest) a w := by
  subst hx hc
  exact wpl_of_run rfl (v := .pointer (some ⟨w.heap.size, 0, none⟩)) (w' := w.alloc (.cells (a.eval x).cells t)) rfl (h w.heap.size _ ⟨rfl⟩ inferInstance ⟨Blk.new w t _⟩)
theorem wpl_box_agg {t : TypeId} {x : Operand} {cs : Array Value} (hx : a.eval x = .agg cs)
    (h : ∀ g w', Born w g → Step nowhere w w' → HB w' g t cs → wpList P ops Q rest (a.put dst (.pointer (some ⟨g, 0, none⟩))) w') :
    wpList P ops Q (⟨dst, .box t x, ty, pos, after, none⟩ :: rest) a w := wpl_box hx rfl h
theorem wpl_box_int {t : TypeId} {x : Operand} {ik : IntKind} {n : Int} (hx : a.eval x = .int ik n)
    (h : ∀ g w', Born w g → Step nowhere w w' → HB w' g t #[.int ik n] → wpList P ops Q rest (a.put dst (.pointer (some ⟨g, 0, none⟩))) w') :
    wpList P ops Q (⟨dst, .box t x, ty, pos, after, none⟩ :: rest) a w := wpl_box hx rfl h
theorem wpl_box_slice {t : TypeId} {x : Operand} {A : Option Addr} {n c : Nat} (hx : a.eval x = .slice A n c)
    (h : ∀ g w', Born w g → Step nowhere w w' → HB w' g t #[.slice A n c] → wpList P ops Q rest (a.put dst (.pointer (some ⟨g, 0, none⟩))) w') :
    wpList P ops Q (⟨dst, .box t x, ty, pos, after, none⟩ :: rest) a w := wpl_box hx rfl h
theorem wpl_box_str {t : TypeId} {x : Operand} {b : ByteArray} (hx : a.eval x = .string b)
    (h : ∀ g w', Born w g → Step nowhere w w' → HB w' g t #[.string b] → wpList P ops Q rest (a.put dst (.pointer (some ⟨g, 0, none⟩))) w') :
    wpList P ops Q (⟨dst, .box t x, ty, pos, after, none⟩ :: rest) a w := wpl_box hx rfl h
theorem wpl_box_bool {t : TypeId} {x : Operand} {b : Bool} (hx : a.eval x = .bool b)
    (h : ∀ g w', Born w g → Step nowhere w w' → HB w' g t #[.bool b] → wpList P ops Q rest (a.put dst (.pointer (some ⟨g, 0, none⟩))) w') :
    wpList P ops Q (⟨dst, .box t x, ty, pos, after, none⟩ :: rest) a w := wpl_box hx rfl h
theorem wpl_box_ptr {t : TypeId} {x : Operand} {p : Option Addr} (hx : a.eval x = .pointer p)
    (h : ∀ g w', Born w g → Step nowhere w w' → HB w' g t #[.pointer p] → wpList P ops Q rest (a.put dst (.pointer (some ⟨g, 0, none⟩))) w') :
    wpList P ops Q (⟨dst, .box t x, ty, pos, after, none⟩ :: rest) a w := wpl_box hx rfl h
theorem wpl_build {t : TypeId} {ps : List (Nat × Operand)} {cs : Array Value} (hr : (Instr.build t (ps.map fun (i, x) => (i, a.eval x)).toArray).run P w = .ok (.agg cs) w)
    (h : wpList P ops Q rest (a.put dst (.agg cs)) w) : wpList P ops Q (⟨dst, .build t ps.toArray, ty, pos, after, none⟩ :: rest) a w :=
  wpl_of_run rfl (by
    show ((Instr.build t (ps.toArray.map fun (i, x) => (i, a.eval x))) >>= fun v => pure (Next.value v)).run P w = _
    rw [Sem.run_bind, List.map_toArray, hr]
    rfl) h
theorem wpl_max {x y : Operand} {tx ty' : TypeId} {k : IntKind} {p q : Int} (hx : a.eval x = .int k p) (hy : a.eval y = .int k q) (h : wpList P ops Q rest (a.put dst (.int k (max p q))) w) :
    wpList P ops Q (⟨dst, .call { callee := .builtin .max, args := #[x, y], argTypes := #[tx, ty'] }, ty, pos, after, none⟩ :: rest) a w :=
  wpl_of_run rfl (by
    have e : (if q > p then q else p) = max p q := by omega
    simp only [execOp, resolve, invoke, builtin, Sem.run_bind, Sem.run_pure, Result.andThen_ok, List.map_toArray, List.map_cons, List.map_nil, hx, hy, run_max_int2, e]) h
theorem wpl_min {x y : Operand} {tx ty' : TypeId} {k : IntKind} {p q : Int} (hx : a.eval x = .int k p) (hy : a.eval y = .int k q) (h : wpList P ops Q rest (a.put dst (.int k (min p q))) w) :
    wpList P ops Q (⟨dst, .call { callee := .builtin .min, args := #[x, y], argTypes := #[tx, ty'] }, ty, pos, after, none⟩ :: rest) a w :=
  wpl_of_run rfl (by
    have e : (if q < p then q else p) = min p q := by omega
    simp only [execOp, resolve, invoke, builtin, Sem.run_bind, Sem.run_pure, Result.andThen_ok, List.map_toArray, List.map_cons, List.map_nil, hx, hy, run_min_int2, e]) h
/-- a whole array or struct read out of its block -/
theorem wpl_loadrow {t : TypeId} {x : Operand} {g : Nat} (hx : a.eval x = .pointer (some ⟨g, 0, none⟩)) {tb : TypeId} {cs : Array Value} (hb : HB w g tb cs) {n : Nat} (hr : RowT P t n) (hn : cs.size = n)
    (h : wpList P ops Q rest (a.put dst (.agg cs)) w) : wpList P ops Q (⟨dst, .load t x, ty, pos, after, none⟩ :: rest) a w := by
  obtain ⟨d, hd1, hd2⟩ := hr.row
  exact wpList_load_row rfl t x rfl g hx tb cs (0, 0) d hb.out hd1 (by cases d <;> first | rfl | cases hd2) (by rw [hn]; exact hr.size) h
/-- one written into its block -/
theorem wpl_storerow {t : TypeId} {x y : Operand} {g : Nat} {cs : Array Value} (hx : a.eval x = .pointer (some ⟨g, 0, none⟩)) (hy : a.eval y = .agg cs) {tb : TypeId} {old : Array Value} (hb : HB w g tb old) {n : Nat} (hr : RowT P t n)
    (hn : cs.size = n) (ho : old.size = n) (h1 : cs.all (·.oneCell') = true)
    (h : ∀ w', Step (only g) w w' → HB w' g tb cs → wpList P ops Q rest (a.put dst undef) w') : wpList P ops Q (⟨dst, .store t x y, ty, pos, after, none⟩ :: rest) a w :=
  wpList_store_row rfl t x y rfl g cs hx hy tb old hb.out (by rw [hn]; exact hr.size) (by rw [ho, hn]) h1
    (h _ ⟨Chg.setRow (S := only g) (Chg.refl _ _) (fun _ => rfl) _⟩ ⟨hb.out.row_ _⟩)
/-- one cell read -/
theorem wpl_loadcell {t : TypeId} {x : Operand} {g k : Nat} (hx : a.eval x = .pointer (some ⟨g, k, none⟩)) {tb : TypeId} {cs : Array Value} (hb : HB w g tb cs) [ht : CellT P t] {v : Value} (hv : cs[k]? = some v)
    (h : wpList P ops Q rest (a.put dst v) w) : wpList P ops Q (⟨dst, .load t x, ty, pos, after, none⟩ :: rest) a w :=
  wpl_of_run rfl (by
    have hc : w.cell? ⟨g, k, none⟩ = some v := (hb.out.cell k).trans hv
    show ((Instr.loadAt t (a.eval x)) >>= fun v => pure (Next.value v)).run P w = _
    rw [hx]
    simp [Instr.loadAt, Instr.sureAddr, loadVar, ht.agg w, hc]) h
/-- one cell written -/
theorem wpl_storecell {t : TypeId} {x y : Operand} {g k : Nat} {v : Value} (hx : a.eval x = .pointer (some ⟨g, k, none⟩)) (hy : a.eval y = v) {tb : TypeId} {cs : Array Value} (hb : HB w g tb cs) [ht : CellT P t] (h1 : v.oneCell' = true) (hk : k < cs.size)
    (h : ∀ w', Step (only g) w w' → HB w' g tb (cs.setIfInBounds k v) → wpList P ops Q rest (a.put dst undef) w') : wpList P ops Q (⟨dst, .store t x y, ty, pos, after, none⟩ :: rest) a w :=
  wpl_of_unit rfl (w' := w.setCell ⟨g, k, none⟩ v) (by
    have hc : w.cell? ⟨g, k, none⟩ = some cs[k] := (hb.out.cell k).trans (by simp [hk])
    have hf := hb.out.frozen k
    have hcs : v.cells = #[v] := by cases v <;> simp_all [Value.oneCell', Value.cells]
    have hst := run_store P w ⟨g, k, none⟩ v .plain h1
    rw [hc, hf] at hst
    show ((Instr.storeAt t (a.eval x) (a.eval y)) >>= fun _ => pure Next.skip).run P w = _
    rw [hx, hy]
    simp [Instr.storeAt, Instr.sureAddr, storeVar, hcs, ht.size1 w, storeCells, add_zero_spot, hst])
    (h _ ⟨Chg.setCell (S := only g) (Chg.refl _ _) (p := ⟨g, k, none⟩) (fun _ => rfl) _⟩ ⟨hb.out.set_ k v⟩)
/-- a byte of a row of bytes -/
theorem wpl_storebyte {t : TypeId} {x y : Operand} {g k : Nat} {n : Int} (hx : a.eval x = .pointer (some ⟨g, k, none⟩)) (hy : a.eval y = .int .u8 n) {tb : TypeId} {xs : List UInt8} (hb : HB w g tb (u8s xs)) [ht : CellT P t] (hk : k < xs.length) (hn : 0 ≤ n ∧ n < 256)
    (h : ∀ w', Step (only g) w w' → HB w' g tb (u8s (xs.set k (b8 n))) → wpList P ops Q rest (a.put dst undef) w') : wpList P ops Q (⟨dst, .store t x y, ty, pos, after, none⟩ :: rest) a w :=
  wpl_storecell hx hy hb rfl (by rw [u8s_size]; exact hk) (fun w' s hb' => h w' s (by rw [← u8s_set, ← b8_in hn.1 hn.2]; exact hb'))
theorem wpl_loadint {t : TypeId} {x : Operand} {g k : Nat} (hx : a.eval x = .pointer (some ⟨g, k, none⟩)) {tb : TypeId} {l : List Int} (hb : HB w g tb (i64s l)) (ht : CellT P t) (hk : k < l.length)
    (h : wpList P ops Q rest (a.put dst (.int .i64 (iget l k))) w) : wpList P ops Q (⟨dst, .load t x, ty, pos, after, none⟩ :: rest) a w := wpl_loadcell hx hb (i64s_get l k hk) h
theorem wpl_loadbyte {t : TypeId} {x : Operand} {g k : Nat} (hx : a.eval x = .pointer (some ⟨g, k, none⟩)) {tb : TypeId} {l : List UInt8} (hb : HB w g tb (u8s l)) (ht : CellT P t) (hk : k < l.length)
    (h : wpList P ops Q rest (a.put dst (.int .u8 ((bget l k).toNat : Int))) w) : wpList P ops Q (⟨dst, .load t x, ty, pos, after, none⟩ :: rest) a w := wpl_loadcell hx hb (u8s_get l k hk) h
theorem wpl_storeint {t : TypeId} {x y : Operand} {g k : Nat} {n : Int} (hx : a.eval x = .pointer (some ⟨g, k, none⟩)) (hy : a.eval y = .int .i64 n) {tb : TypeId} {l : List Int} (hb : HB w g tb (i64s l)) [ht : CellT P t] (hk : k < l.length)
    (h : ∀ w', Step (only g) w w' → HB w' g tb (i64s (l.set k n)) → wpList P ops Q rest (a.put dst undef) w') : wpList P ops Q (⟨dst, .store t x y, ty, pos, after, none⟩ :: rest) a w :=
  wpl_storecell hx hy hb rfl (by rw [i64s_size]; exact hk) (fun w' s hb' => h w' s (by rw [← i64s_set]; exact hb'))
/-- bytes copied into a row of bytes -/
theorem wpl_copy {d s : Operand} {dT sT elem : TypeId} (hu : P.underlying dT = some (.slice elem)) (hsz : (P.info? elem).map (·.size) = some 1)
    {g off dLen dCap : Nat} {sp : Option Addr} {sLen sCap : Nat} (hd : a.eval d = .slice (some ⟨g, off, none⟩) dLen dCap) (hs : a.eval s = .slice sp sLen sCap)
    {cur : List UInt8} {t : TypeId} (hb : HB w g t (u8s cur)) {xs : List UInt8} (hr : HR w sp (bs xs)) (hxl : xs.length = sLen) (hle : sLen ≤ dLen) (hfit : off + sLen ≤ cur.length)
    (h : ∀ w', Step (only g) w w' → HB w' g t (u8s (cur.take off ++ xs ++ cur.drop (off + sLen))) → wpList P ops Q rest (a.put dst (.int .i64 sLen)) w') :
    wpList P ops Q (⟨dst, .call { callee := .builtin .copy, args := #[d, s], argTypes := #[dT, sT] }, ty, pos, after, none⟩ :: rest) a w :=
  wpList_copyB rfl d s dT sT rfl elem hu hsz hd hs hb.out hr.out hxl hle hfit fun w' h1 h2 => h w' ⟨h2⟩ ⟨h1⟩
end
section
variable {P : Program} {fn : Func} {R : Ending → World → Prop} {a : Act} {w : World}
theorem ret_row {p : Tmp} {ty : TypeId} (h : fn.results = #[.cell p ty]) {g : Nat} (hp : a.tmps.getD p undef = .pointer (some ⟨g, 0, none⟩)) {tb : TypeId} {cs : Array Value} [hb : HB w g tb cs] {n : Nat} [hr : RowT P ty n] (hn : cs.size = n) (hd : a.defers = []) (hR : R (.returned (.agg cs)) w) : bodyPost P fn R .ret a w := by
  obtain ⟨d, hd1, hd2⟩ := hr.row
  exact bodyPost_ret (results_cell_row h a.tmps w g tb cs (0, 0) d hp hb.out hd1 (by cases d <;> first | rfl | cases hd2) (by rw [hn]; exact hr.size)) hd hR
theorem ret_row_ {p u : Tmp} {ty : TypeId} (h : fn.results = #[.cell p ty, .tmp u]) {g : Nat} (hp : a.tmps.getD p undef = .pointer (some ⟨g, 0, none⟩)) {v : Value} (hv : a.tmps.getD u undef = v) {tb : TypeId} {cs : Array Value} [hb : HB w g tb cs] {n : Nat} [hr : RowT P ty n] (hn : cs.size = n) (hd : a.defers = []) (hR : R (.returned (.tuple #[.agg cs, v])) w) : bodyPost P fn R .ret a w := by
  obtain ⟨d, hd1, hd2⟩ := hr.row
  refine bodyPost_ret ?_ hd hR
  rw [results_cell_tmp h, hp, hv]
  simp [asAddr, run_loadVar_row (P := P) w g tb ty cs (0, 0) d hb.out hd1 (by cases d <;> first | rfl | cases hd2) (by rw [hn]; exact hr.size)]
theorem ret_row2 {p u : Tmp} {ty : TypeId} (h : fn.results = #[.cell p ty, .tmp u]) {g : Nat} (hp : a.tmps.getD p undef = .pointer (some ⟨g, 0, none⟩)) {b : Bool} {tb : TypeId} {cs : Array Value} [hb : HB w g tb cs] {n : Nat} [hr : RowT P ty n] (hn : cs.size = n) (hd : a.defers = []) (hR : R (.returned (.tuple #[.agg cs, .bool b])) w) (hv : a.tmps.getD u undef = .bool b := by rfl) : bodyPost P fn R .ret a w :=
  ret_row_ h hp hv hn hd hR
end
/-- a digest -/
structure H32 where
  l : List UInt8
  len : l.length = 32
@[simp] theorem H32.len_ (h : H32) : h.l.length = 32 := h.len
theorem H32.size (h : H32) : (u8s h.l).size = 32 := by rw [u8s_size, h.len]
theorem H32.ext' {a b : H32} (h : a.l = b.l) : a = b := by cases a; cases b; cases h; rfl
end Go.Proofs.YtmnapacibpnodaaGreat
end
section
open Go Go.RowKit
namespace Go.Proofs.YtmnapacibpnodaaGreat
/-- a type of Go's whose values take so many cells -/
class RowC (α : Type) where
  size : Nat
  enc : α → List Value
  len : ∀ a, (enc a).length = size
  one : ∀ a, ∀ u ∈ enc a, u.oneCell' = true
  zero : α
def cellsOf {α : Type} [RowC α] (l : List α) : List Value := l.flatMap RowC.enc
section
variable {α : Type} [RowC α]
theorem cellsOf_len (l : List α) : (cellsOf l).length = l.length * RowC.size α := by
  induction l with
  | nil => simp [cellsOf]
  | cons a l ih =>
    have e : cellsOf (a :: l) = RowC.enc a ++ cellsOf l := rfl
    rw [e, List.length_append, ih, RowC.len, List.length_cons, Nat.succ_mul, Nat.add_comm]
theorem cellsOf_app (l m : List α) : cellsOf (l ++ m) = cellsOf l ++ cellsOf m := by simp [cellsOf]
theorem cellsOf_snoc (l : List α) (x : α) : cellsOf (l ++ [x]) = cellsOf l ++ RowC.enc x := by simp [cellsOf]
theorem cellsOf_one (l : List α) : ∀ u ∈ cellsOf l, u.oneCell' = true := by
  intro u hu
  obtain ⟨a, _, h⟩ := List.mem_flatMap.1 hu
  exact RowC.one a u h
theorem cellsOf_at (l : List α) (i : Nat) (hi : i < l.length) : ((cellsOf l).drop (i * RowC.size α)).take (RowC.size α) = RowC.enc (l.getD i RowC.zero) := by
  induction l generalizing i with
  | nil => simp at hi
  | cons a l ih =>
    have e : cellsOf (a :: l) = RowC.enc a ++ cellsOf l := rfl
    rw [e]
    cases i with
    | zero => rw [Nat.zero_mul, List.drop_zero, List.take_left' (RowC.len a)]; rfl
    | succ i =>
      have h2 : (i + 1) * RowC.size α = (RowC.enc a).length + i * RowC.size α := by rw [RowC.len, Nat.succ_mul, Nat.add_comm]
      rw [h2, ← List.drop_drop, List.drop_left, ih i (by simpa using hi)]
      simp
theorem cellsOf_take (l : List α) (k : Nat) : (cellsOf l).take (k * RowC.size α) = cellsOf (l.take k) := by
  rcases Nat.lt_or_ge k l.length with h | h
  · conv => lhs; rw [← List.take_append_drop k l, cellsOf_app]
    rw [List.take_left' (by rw [cellsOf_len, List.length_take]; congr 1; omega)]
  · rw [List.take_of_length_le h, List.take_of_length_le (by rw [cellsOf_len]; exact Nat.mul_le_mul_right _ h)]
theorem cellsOf_drop (l : List α) (k : Nat) : (cellsOf l).drop (k * RowC.size α) = cellsOf (l.drop k) := by
  rcases Nat.lt_or_ge k l.length with h | h
  · conv => lhs; rw [← List.take_append_drop k l, cellsOf_app]
    rw [List.drop_left' (by rw [cellsOf_len, List.length_take]; congr 1; omega)]
  · rw [List.drop_of_length_le h, List.drop_of_length_le (by rw [cellsOf_len]; exact Nat.mul_le_mul_right _ h)]
    rfl
theorem cellsOf_set (l : List α) (i : Nat) (x : α) (hi : i < l.length) : (cellsOf l).take (i * RowC.size α) ++ RowC.enc x ++ (cellsOf l).drop (i * RowC.size α + RowC.size α) = cellsOf (l.set i x) := by
  have h2 : i * RowC.size α + RowC.size α = (i + 1) * RowC.size α := by rw [Nat.succ_mul]
  rw [h2, cellsOf_take, cellsOf_drop, List.set_eq_take_append_cons_drop, if_pos hi]
  simp [cellsOf]
end
instance iBase_1 : RowC H32 := ⟨32, fun h => bs h.l, fun h => by rw [bs_length, h.len], fun h => bs_one h.l, ⟨List.replicate 32 0, rfl⟩⟩
def zeroH : H32 := ⟨List.replicate 32 0, rfl⟩
def hget (l : List H32) (i : Nat) : H32 := l.getD i zeroH

instance HR.nilB (w : World) : HR w none (bs []) := ⟨Rd.nil _ _⟩
instance HR.nilH (w : World) : HR w none (cellsOf ([] : List H32)) := ⟨Rd.nil _ _⟩
/-- an address inside a row, which may be none -/
def shift (A : Option Addr) (k : Nat) : Option Addr := A.map (·.add k)
def ptrOf (A : Option Addr) (k : Nat) : Value := .pointer (shift A k)
theorem shift_some (ad : Addr) (k : Nat) : shift (some ad) k = some (ad.add k) := rfl
instance HR.cut (w : World) (A : Option Addr) (l : List H32) (i : Nat) [h : HR w A (cellsOf l)] [hi : Fact' (i < l.length)] : HR w (shift A (i * 32)) (bs (hget l i).l) := ⟨by
  have h1 := (h.out.drop (i * 32)).take 32
  rw [show ((cellsOf l).drop (i * 32)).take 32 = bs (hget l i).l from cellsOf_at l i hi.out] at h1
  exact h1⟩
/-- what the table says of a slice's elements -/
class ElemT (P : Program) (t : TypeId) (e : outParam TypeId) (size bytes : outParam Nat) (z : outParam Value) : Prop where
  out : Elem P t e size bytes z
/-- a row that an append has left: where it was, or new -/
class Grew (w : outParam World) (A : outParam (Option Addr)) (A' : Option Addr) : Prop where
  out : A' = A ∨ A' = some ⟨w.heap.size, 0, none⟩
instance NewA.grew (w0 w : World) (A A' : Option Addr) [g : Grew w A A'] [h : NewA w0 A] [n : Nw w0 w] : NewA w0 A' := NewA.grown (w := w) g.out
instance (priority := 1100) NewA.grew0 (w : World) (A' : Option Addr) [g : Grew w none A'] : NewA w A' := ⟨fun ad e => by
  rcases g.out with k | k
  · rw [k] at e; cases e
  · rw [k] at e
    injection e with e
    subst e
    exact Nat.le_refl _⟩
instance NewA.born_ (w : World) (z k : Nat) [b : Born w z] : NewA w (some ⟨z, k, none⟩) := NewA.of_born k
instance OffB.grew (w : World) (A A' : Option Addr) (g : Nat) (t : TypeId) (cs : Array Value) [k : Grew w A A'] [h : HB w g t cs] [o : OffB (rowOf A) g] : OffB (rowOf A') g := ⟨fun ⟨ad, e, hk⟩ => by
  rcases k.out with k | k
  · exact o.out ⟨ad, k.symm.trans e, hk⟩
  · rw [k] at e
    injection e with e
    subst e
    have h1 := h.out.lt
    have h2 : w.heap.size = g := hk
    omega⟩
instance OffB.rowOnly (z k g : Nat) [o : OffB (only z) g] : OffB (rowOf (some ⟨z, k, none⟩)) g := ⟨fun ⟨ad, e, hk⟩ => by
  injection e with e
  subst e
  exact o.out hk.symm⟩
instance OffA.grew (w : World) (A A' B : Option Addr) (e : TypeId) (size n c : Nat) (xs : List Value) [k : Grew w A A'] [h : HO w e size B n c xs] [o : OffA (rowOf A) B] : OffA (rowOf A') B := ⟨fun bd eb ⟨ad, e, hk⟩ => by
  rcases k.out with k | k
  · exact o.out bd eb ⟨ad, k.symm.trans e, hk⟩
  · rw [k] at e
    injection e with e
    subst e
    have h1 := h.out.lt eb
    have h2 : w.heap.size = bd.block := hk
    omega⟩
instance Born.here (w : World) : Born w w.heap.size := ⟨rfl⟩
instance (priority := 800) HO.ofBytes (w : World) (g : Nat) (e : TypeId) (xs : List UInt8) [h : HB w g e (u8s xs)] [m : Fact' (xs.length ≤ maxLen)] : HO w e 1 (some ⟨g, 0, none⟩) xs.length xs.length (bs xs) :=
  ⟨Own.of_blk h.out (Nat.le_refl _) m.out (by rw [u8s_size, Nat.mul_one]) (by rw [Nat.mul_one]; show (bs xs).take xs.length = bs xs; rw [← bs_length, List.take_length])⟩
section
variable {P : Program} {ops : Array Oper} {rest : List Oper} {a : Act} {w : World} {Q : Exit → Act → World → Prop} {dst : Option Tmp} {ty : TypeId} {pos : String} {after : Array Edge}
/-- the address of an element -/
theorem wpl_index {t : TypeId} {x ix : Operand} {A : Option Addr} {n c : Nat} {i : Int} (hx : a.eval x = .slice A n c) (hi : a.eval ix = .int .i64 i) {e : TypeId} {size bytes : Nat} {z : Value} (E : ElemT P t e size bytes z) (h0 : 0 ≤ i) (h1 : i < n)
    {vs : List Value} (hr : HR w A vs) (hl : 0 < vs.length)
    (h : wpList P ops Q rest (a.put dst (ptrOf A (i.toNat * size))) w) : wpList P ops Q (⟨dst, .indexAddr t x ix, ty, pos, after, none⟩ :: rest) a w :=
  wpl_of_run rfl (by
    obtain ⟨ad, hA, _⟩ := hr.out.lt hl
    obtain ⟨ti, hti, hz, hs, hb⟩ := info_parts E.out.info
    show ((Instr.indexAt t (a.eval x) (a.eval ix)) >>= fun v => pure (Next.value v)).run P w = _
    rw [hx, hi, hA]
    simp [Instr.indexAt, asIntOf, run_underlying E.out.under, sizeOf, typeInfo, hti, hs, h0, h1, ptrOf, shift]) h
theorem run_loadshift {t : TypeId} {A : Option Addr} {k : Nat} {vs cs : List Value} (hr : Rd w A vs) {n : Nat} (ht : RowT P t n) (hn : cs.length = n) (hc : (vs.drop k).take n = cs) (hp : 0 < n) :
    (Instr.loadAt t (ptrOf A k)).run P w = .ok (.agg cs.toArray) w := by
  have hlen : k < vs.length := by
    have := congrArg List.length hc
    rw [List.length_take, List.length_drop, hn] at this
    omega
  obtain ⟨ad, rfl, _⟩ := hr.lt (by omega)
  obtain ⟨d, hd1, hd2⟩ := ht.row
  have hl : (loadCells (ad.add k) cs.length).run P w = .ok cs.toArray w :=
    run_loadCells_list (P := P) w (ad.add k) cs (fun j v hv => by
      obtain ⟨ad', e, h⟩ := hr (k + j) v (by
        rw [← hc, List.getElem?_take] at hv
        split at hv
        · rwa [List.getElem?_drop] at hv
        · cases hv)
      injection e with e
      subst e
      rw [add_of_add]
      exact h)
  have hsz := ht.size
  cases hq : P.info? t with
  | none => rw [hq] at hsz; simp at hsz
  | some i =>
    have hs : i.size = cs.length := by rw [hq] at hsz; simp at hsz; omega
    have hagg : (isAgg t).run P w = .ok true w := by
      unfold isAgg
      rw [Sem.run_bind, run_underlying hd1 w]
      cases d <;> simp_all
    simp only [ptrOf, shift_some, Instr.loadAt, Instr.sureAddr, Sem.run_bind, Sem.run_pure, Result.andThen_ok]
    simp [loadVar, Sem.run_bind, hagg, sizeOf, typeInfo, hq, hs, hl]
/-- a digest read out of a row of digests -/
theorem wpl_loadhash {t : TypeId} {x : Operand} {A : Option Addr} {k : Nat} (hx : a.eval x = ptrOf A (k * 32)) {l : List H32} (hr : HR w A (cellsOf l)) (ht : RowT P t 32) (hk : k < l.length)
    (h : wpList P ops Q rest (a.put dst (.agg (u8s (hget l k).l))) w) : wpList P ops Q (⟨dst, .load t x, ty, pos, after, none⟩ :: rest) a w :=
  wpl_of_run rfl (by
    show ((Instr.loadAt t (a.eval x)) >>= fun v => pure (Next.value v)).run P w = _
    rw [hx, Sem.run_bind, run_loadshift (k := k * 32) (cs := bs (hget l k).l) hr.out ht (by rw [bs_length, (hget l k).len]) (cellsOf_at l k hk) (by decide)]
    rfl) h
theorem wpl_indexH {t : TypeId} {x ix : Operand} {A : Option Addr} {n c k : Nat} (hx : a.eval x = .slice A n c) (hi : a.eval ix = .int .i64 (k : Int)) {e : TypeId} {bytes : Nat} {z : Value} (E : ElemT P t e 32 bytes z)
    {l : List H32} (hr : HR w A (cellsOf l)) (hl : l.length = n) (h1 : k < n) (_ : k < l.length)
    (h : wpList P ops Q rest (a.put dst (ptrOf A (k * 32))) w) : wpList P ops Q (⟨dst, .indexAddr t x ix, ty, pos, after, none⟩ :: rest) a w :=
  wpl_index hx hi E (by omega) (by omega) hr (by rw [cellsOf_len]; show 0 < l.length * 32; omega) (by simpa using h)
theorem wpl_indexH' {t : TypeId} {x ix : Operand} {A : Option Addr} {n c : Nat} {i : Int} (hx : a.eval x = .slice A n c) (hi : a.eval ix = .int .i64 i) {e : TypeId} {bytes : Nat} {z : Value} (E : ElemT P t e 32 bytes z)
    {l : List H32} (hr : HR w A (cellsOf l)) (hl : l.length = n) (h0 : 0 ≤ i) (h1 : i < n)
    (h : wpList P ops Q rest (a.put dst (ptrOf A (i.toNat * 32))) w) : wpList P ops Q (⟨dst, .indexAddr t x ix, ty, pos, after, none⟩ :: rest) a w :=
  wpl_index hx hi E (by omega) (by omega) hr (by rw [cellsOf_len]; show 0 < l.length * 32; omega) h
/-- .. as a slice of bytes -/
theorem wpl_slicehash {t e : TypeId} {x : Operand} {A : Option Addr} {k : Nat} (hx : a.eval x = ptrOf A k) (hu : P.underlying t = some (.array 32 e)) (hs : (P.info? e).map (·.size) = some 1) {vs : List Value} (hr : HR w A vs) (hl : 0 < vs.length)
    (h : wpList P ops Q rest (a.put dst (.slice (shift A k) 32 32)) w) : wpList P ops Q (⟨dst, .slice t x none none none, ty, pos, after, none⟩ :: rest) a w :=
  wpl_of_run rfl (by
    obtain ⟨ad, hA, _⟩ := hr.out.lt hl
    show ((Instr.sliceAt t (a.eval x) none none none) >>= fun v => pure (Next.value v)).run P w = _
    rw [hx, hA]
    cases hq : P.info? e with
    | none => rw [hq] at hs; simp at hs
    | some i => simp [Instr.sliceAt, run_underlying hu, ptrOf, shift, Instr.sureAddr, Instr.sliceBounds, sizeOf, typeInfo, hq, add_zero_spot]) h
theorem wpl_sliceH {t e : TypeId} {x : Operand} {A : Option Addr} {k : Nat} (hx : a.eval x = ptrOf A (k * 32)) (hu : P.underlying t = some (.array 32 e)) (hs : (P.info? e).map (·.size) = some 1) {l : List H32} (hr : HR w A (cellsOf l)) (hl : k < l.length)
    (h : wpList P ops Q rest (a.put dst (.slice (shift A (k * 32)) 32 32)) w) : wpList P ops Q (⟨dst, .slice t x none none none, ty, pos, after, none⟩ :: rest) a w :=
  wpl_slicehash hx hu hs hr (by rw [cellsOf_len]; show 0 < l.length * 32; omega) h
theorem own_setCells {e : TypeId} {size n c : Nat} {A : Option Addr} {xs : List Value} (ho : Own w e size A n c xs) {k m : Nat} {cs : List Value} (hm : cs.length = m) (hk : k + m ≤ xs.length) (hm0 : 0 < m) :
    ∃ g, A = some ⟨g, 0, none⟩ ∧ w.there g k m ∧ Own (w.setCells g k cs) e size A n c (xs.take k ++ cs ++ xs.drop (k + m)) ∧ Chg (rowOf A) w (w.setCells g k cs) := by
  rcases ho.form with ⟨_, rfl, rfl, rfl⟩ | ⟨g, cur, rfl, hb, h3, h4, h5, h6⟩
  · simp at hk; omega
  have hlx := ho.len
  have hcur : k + m ≤ cur.size := by
    have := congrArg List.length h6
    rw [List.length_take, Array.length_toList] at this
    omega
  have key : ∀ (cs : List Value) (k : Nat) (w : World) (cur : Array Value), Blk w g e cur → k + cs.length ≤ cur.size →
      Blk (w.setCells g k cs) g e (cur.toList.take k ++ cs ++ cur.toList.drop (k + cs.length)).toArray ∧ Chg (only g) w (w.setCells g k cs) := by
    intro cs
    induction cs with
    | nil =>
      intro k w cur hb _
      refine ⟨?_, Chg.refl _ _⟩
      simpa [World.setCells] using hb
    | cons v cs ih =>
      intro k w cur hb hk
      simp only [List.length_cons] at hk
      obtain ⟨i1, i2⟩ := ih (k + 1) (w.setCell ⟨g, k, none⟩ v) (cur.setIfInBounds k v) (hb.set_ k v) (by simpa using (by omega))
      refine ⟨?_, ((Chg.refl (only g) w).setCell (p := ⟨g, k, none⟩) (fun _ => rfl) v).trans i2 (fun _ _ h => h)⟩
      rw [World.setCells]
      have e1 : (cur.setIfInBounds k v).toList = cur.toList.set k v := by simp
      rw [e1] at i1
      have e2 : (cur.toList.set k v).take (k + 1) ++ cs ++ (cur.toList.set k v).drop (k + 1 + cs.length) = cur.toList.take k ++ (v :: cs) ++ cur.toList.drop (k + (cs.length + 1)) := by
        have hkl : k < cur.toList.length := by simp; omega
        rw [List.set_eq_take_append_cons_drop, if_pos hkl]
        have h1 : (cur.toList.take k ++ [v]).length = k + 1 := by rw [List.length_append, List.length_take]; simp; omega
        have h2 : cur.toList.take k ++ v :: cur.toList.drop (k + 1) = (cur.toList.take k ++ [v]) ++ cur.toList.drop (k + 1) := by simp
        rw [h2, List.take_left' h1, ← List.drop_drop, List.drop_left' h1, List.drop_drop, show k + 1 + cs.length = k + (cs.length + 1) by omega]
        simp
      rw [e2] at i1
      exact i1
  obtain ⟨i1, i2⟩ := key cs k w cur hb (by omega)
  refine ⟨g, rfl, fun j hj => ⟨?_, hb.frozen _⟩, ?_, ⟨i2.os, i2.tape, i2.output, i2.size, fun x hx hn => i2.block x hx (fun e => hn ⟨_, rfl, e.symm⟩)⟩⟩
  · rw [hb.cell]
    simp
    omega
  · refine Own.of_blk i1 h3 h4 (by simp; omega) ?_
    have hxl : xs.length ≤ cur.size := by rw [← h6, List.length_take, Array.length_toList]; omega
    have hcd : cur.toList = xs ++ cur.toList.drop (n * size) := by rw [← h6, List.take_append_drop]
    have h7 : (cur.toList.take k) = xs.take k := by rw [hcd, List.take_append_of_le_length (by omega)]
    rw [h7, hm]
    have h8 : cur.toList.drop (k + m) = xs.drop (k + m) ++ cur.toList.drop (n * size) := by
      conv => lhs; rw [hcd]
      rw [List.drop_append_of_le_length (by omega)]
    rw [h8, ← List.append_assoc, List.take_left']
    simp
    omega
/-- a digest written into a row of digests of the call's own -/
theorem wpl_storehash {t : TypeId} {x y : Operand} {A : Option Addr} {k : Nat} {hh : H32} (hx : a.eval x = ptrOf A (k * 32)) (hy : a.eval y = .agg (u8s hh.l)) {e : TypeId} {size n c : Nat} {l : List H32} (ho : HO w e size A n c (cellsOf l)) (ht : RowT P t 32) (hk : k < l.length)
    (h : ∀ w', Step (rowOf A) w w' → HO w' e size A n c (cellsOf (l.set k hh)) → wpList P ops Q rest (a.put dst undef) w') : wpList P ops Q (⟨dst, .store t x y, ty, pos, after, none⟩ :: rest) a w := by
  have hlen : (cellsOf l).length = l.length * 32 := cellsOf_len l
  have hk32 : k * 32 + 32 ≤ (cellsOf l).length := by rw [hlen]; omega
  obtain ⟨g, hA, h1, h2, h3⟩ := own_setCells ho.out (k := k * 32) (cs := bs hh.l) (m := 32) (by rw [bs_length, hh.len]) hk32 (by decide)
  refine wpl_of_unit rfl (w' := w.setCells g (k * 32) (bs hh.l)) ?_ (h _ ⟨h3⟩ ⟨?_⟩)
  · show ((Instr.storeAt t (a.eval x) (a.eval y)) >>= fun _ => pure Next.skip).run P w = _
    have hz : (u8s hh.l).size = 32 := hh.size
    rw [hx, hy, Sem.run_bind, hA, ptrOf, shift_some, Addr.add_mid, Nat.zero_add, run_storeAt_mid (P := P) w g (k * 32) t (u8s hh.l) (by rw [hz]; exact h1) (by rw [hz]; exact ht.size) (u8s_one _)]
    rfl
  · have e1 := cellsOf_set l k hh hk
    rw [← e1]
    exact h2
/-- bytes behind a row of bytes of the call's own -/
theorem wpl_appendB {s x : Operand} {t e : TypeId} {z : Value} {A : Option Addr} {n c : Nat} (hs : a.eval s = .slice A n c) {A2 : Option Addr} {m c2 : Nat} (hx : a.eval x = .slice A2 m c2) (E : ElemT P t e 1 1 z) {xs : List UInt8} (ho : HO w e 1 A n c (bs xs))
    {ys : List UInt8} (hr : HR w A2 (bs ys)) (hl : ys.length = m) (hlim : n + m ≤ 100000000000)
    (h : ∀ A' c' w', Step (rowOf A) w w' → HO w' e 1 A' (n + m) c' (bs (xs ++ ys)) → Grew w A A' → n + m ≤ c' → wpList P ops Q rest (a.put dst (.slice A' (n + m) c')) w') :
    wpList P ops Q (⟨dst, .call { callee := .builtin .append, args := #[s, x], argTypes := #[t, t] }, ty, pos, after, none⟩ :: rest) a w :=
  wpList_append_Own rfl s x E.out rfl hs ho.out hx hr.out (by rw [bs_length, hl, Nat.mul_one]) (bs_one _) (by unfold maxLen; omega) (by omega) (fun e => by
      subst e
      rcases ys with _ | ⟨y, ys⟩
      · simpa using hl.symm
      · obtain ⟨ad, h, _⟩ := hr.out 0 _ rfl
        cases h) fun A' c' w' g1 g2 g3 => by
    rw [bs_append] at g1
    refine h A' c' w' ⟨g2⟩ ⟨g1⟩ ⟨g3⟩ ?_
    rcases g1.form with ⟨_, h1, h2, _⟩ | ⟨_, _, _, _, h1, _⟩ <;> omega
/-- a digest behind a row of digests of the call's own -/
theorem wpl_appendH {s x : Operand} {t e : TypeId} {z : Value} {A : Option Addr} {n c : Nat} (hs : a.eval s = .slice A n c) {A2 : Option Addr} {c2 : Nat} (hx : a.eval x = .slice A2 1 c2) (E : ElemT P t e 32 32 z) {l : List H32} (ho : HO w e 32 A n c (cellsOf l))
    {hh : H32} (hr : HR w A2 (bs hh.l)) (hlim : n + 1 ≤ 1000000000)
    (h : ∀ A' c' w', Step (rowOf A) w w' → HO w' e 32 A' (n + 1) c' (cellsOf (l ++ [hh])) → Grew w A A' → n + 1 ≤ c' → wpList P ops Q rest (a.put dst (.slice A' (n + 1) c')) w') :
    wpList P ops Q (⟨dst, .call { callee := .builtin .append, args := #[s, x], argTypes := #[t, t] }, ty, pos, after, none⟩ :: rest) a w :=
  wpList_append_Own rfl s x E.out rfl hs ho.out hx hr.out (by rw [bs_length, hh.len]) (bs_one _) (by unfold maxLen; omega) (by omega) (fun e => by
      subst e
      have h5 := hh.len
      rcases h6 : hh.l with _ | ⟨y, ys⟩
      · rw [h6] at h5; simp at h5
      · obtain ⟨ad, h, _⟩ := hr.out 0 (u8v y) (by rw [h6]; rfl)
        cases h) fun A' c' w' g1 g2 g3 => by
    have g1' : Own w' e 32 A' (n + 1) c' (cellsOf (l ++ [hh])) := by rw [cellsOf_snoc]; exact g1
    refine h A' c' w' ⟨g2⟩ ⟨g1'⟩ ⟨g3⟩ ?_
    rcases g1.form with ⟨_, h1, h2, _⟩ | ⟨_, _, _, _, h1, _⟩ <;> omega
/-- a slice written out -/
theorem wpl_bslice {t : TypeId} {len : Nat} {ps : List (Nat × Operand)} {cs : Array Value} {e : TypeId} (hr : (Instr.buildSlice t len (ps.map fun (i, x) => (i, a.eval x)).toArray).run P w = .ok (.slice (some ⟨w.heap.size, 0, none⟩) len len) (w.alloc (.cells cs e)))
    (h : ∀ g w', Born w g → Step nowhere w w' → HB w' g e cs → wpList P ops Q rest (a.put dst (.slice (some ⟨g, 0, none⟩) len len)) w') : wpList P ops Q (⟨dst, .buildSlice t len ps.toArray, ty, pos, after, none⟩ :: rest) a w :=
  wpl_of_run rfl (by
    show ((Instr.buildSlice t len (ps.toArray.map fun (i, x) => (i, a.eval x))) >>= fun v => pure (Next.value v)).run P w = _
    rw [Sem.run_bind, List.map_toArray, hr]
    rfl) (h _ _ ⟨rfl⟩ inferInstance ⟨Blk.new w e cs⟩)
/-- digests made, all noughts -/
theorem wpl_makehash {t e : TypeId} {x y : Operand} {n : Nat} (hx : a.eval x = .int .i64 (n : Int)) (hy : a.eval y = .int .i64 (n : Int)) (E : ElemT P t e 32 32 (.agg (u8s zeroH.l))) (hn : n ≤ 100000)
    (h : ∀ g w', Born w g → Step nowhere w w' → HO w' e 32 (some ⟨g, 0, none⟩) n n (cellsOf (List.replicate n zeroH)) → wpList P ops Q rest (a.put dst (.slice (some ⟨g, 0, none⟩) n n)) w') :
    wpList P ops Q (⟨dst, .makeSlice t x y, ty, pos, after, none⟩ :: rest) a w := by
  obtain ⟨i, hi, hz, hs, hb⟩ := info_parts E.out.info
  obtain ⟨w', h1, h2, h3⟩ := run_makeSlice_full (P := P) (w := w) 0 t e i _ 32 E.out.under hi hz hs .i64 .i64 n (by omega) (by rw [hb]; omega) (by unfold maxLen; omega) (Nat.zero_le _)
  refine wpl_of_run rfl (w' := w') (v := .slice (some ⟨w.heap.size, 0, none⟩) n n) ?_ (h _ w' ⟨rfl⟩ ⟨(Chg.of_grown h3).mono (fun _ _ h => by cases h)⟩ ⟨?_⟩)
  · show ((Instr.makeSlice t (a.eval x) (a.eval y)) >>= fun v => pure (Next.value v)).run P w = _
    rw [hx, hy, Sem.run_bind, h1]
    rfl
  · have e1 : (madeCells (Value.agg (u8s zeroH.l)).cells (n * 32)).toList = cellsOf (List.replicate n zeroH) := by
      have h5 : ∀ v ∈ (madeCells (Value.agg (u8s zeroH.l)).cells (n * 32)).toList, v = .int .u8 0 := by
        intro v hv
        have h9 : (Value.agg (u8s zeroH.l)).cells.size = 32 := by decide
        have h8 : ∀ j, j < 32 → (Value.agg (u8s zeroH.l)).cells[j]! = .int .u8 0 := fun j hj => by
          rw [getElem!_pos _ j (by rw [h9]; exact hj)]
          have h10 : ∀ u ∈ (u8s zeroH.l).toList, u = .int .u8 0 := fun u hu => List.eq_of_mem_replicate (n := 32) hu
          exact h10 _ (by simp [Value.cells])
        simp only [madeCells, Array.toList_map, List.mem_map] at hv
        obtain ⟨j, _, rfl⟩ := hv
        rw [h9]
        exact h8 _ (Nat.mod_lt _ (by decide))
      have h6 : ∀ v ∈ cellsOf (List.replicate n zeroH), v = .int .u8 0 := by
        intro v hv
        obtain ⟨b, hb1, hb2⟩ := List.mem_flatMap.1 hv
        obtain rfl := List.eq_of_mem_replicate hb1
        exact List.eq_of_mem_replicate (n := 32) hb2
      have h7 : (cellsOf (List.replicate n zeroH)).length = n * 32 := by rw [cellsOf_len, List.length_replicate]; rfl
      rw [List.eq_replicate_iff.2 ⟨h7, h6⟩]
      exact List.eq_replicate_iff.2 ⟨by rw [Array.length_toList, size_madeCells], h5⟩
    rw [← e1]
    exact h2
end
end Go.Proofs.YtmnapacibpnodaaGreat
end
section
open Go Go.RowKit
namespace Go.Proofs.YtmnapacibpnodaaGreat
theorem sA {α : Type} {xs : List α} {i : Nat} {a : α} : xs.toArray.setIfInBounds i a = (xs.set i a).toArray := List.setIfInBounds_toArray xs i a
theorem sB {α : Type} {x : α} {xs : List α} {i : Nat} {a : α} : (x :: xs).set (i + 1) a = x :: xs.set i a := rfl
theorem sC {α : Type} {x : α} {xs : List α} {a : α} : (x :: xs).set 0 a = a :: xs := rfl
/-- since the region began only T and what is new has changed -/
class Held (T : outParam (Nat → Prop)) (wd : outParam World) (w : World) : Prop where
  out : Chg T wd w
class Sub (w : World) (S T : Nat → Prop) : Prop where
  out : ∀ k, k < w.heap.size → S k → T k
instance (w : World) (T : Nat → Prop) : Sub w nowhere T := ⟨fun _ _ h => h.elim⟩
instance (w : World) (T : Nat → Prop) : Sub w T T := ⟨fun _ _ h => h⟩
instance (priority := 800) Sub.above (w : World) (S T : Nat → Prop) [a : Above w S] : Sub w S T := ⟨fun k hk hs => by have := a.out k hs; omega⟩
instance (priority := 500) Step.held (T : Nat → Prop) (wd w : World) [h : Held T wd w] : Step T wd w := ⟨h.out⟩
instance Held.snoc (S T : Nat → Prop) (wd w w' : World) [s : Step S w w'] [h : Held T wd w] [u : Sub wd S T] : Held T wd w' := ⟨h.out.trans s.chg u.out⟩
theorem heldStart (T : Nat → Prop) (w : World) : Held T w w := ⟨Chg.refl _ _⟩
section
variable {P : Program} {ops : Array Oper} {Q : Exit → Act → World → Prop} {a : Act} {w : World}
theorem wp_region_N {id : Nat} (T : Nat → Prop) (hm : P.follows .mixedOrders = true)
    (h : ∀ wd, Step nowhere w wd → Held T wd wd → wpAnyH P .any ops Q (Held T wd) ops.size (Array.replicate ops.size false) a wd) : (Code.region id ops true).wp P Q a w :=
  wp_region_held_drew (S := Held T w.drew) hm (heldStart T _) (fun _ => h _ inferInstance (heldStart T _))
/-- one operation alone -/
def onlyN (K : Act → World → Prop) : Exit → Act → World → Prop
  | .normal, a, w => K a w
  | _, _, _ => False
theorem Oper.wp_monoQ {o : Oper} {K : Act → World → Prop} {Q Q' : Exit → Act → World → Prop} (hQ : ∀ e a w, e ≠ .normal → Q e a w → Q' e a w) (h : o.wp P a w K Q) : o.wp P a w K Q' := by
  unfold Oper.wp at *
  generalize (execOp a.eval o).run P w = r at *
  cases r with
  | ok n w' =>
    cases n <;> simp only [Oper.upon] at h ⊢ <;>
      first
        | exact h
        | exact Calls.mono h (fun e w'' he => by
            cases e with
            | returned v => exact he
            | panicked c => exact hQ _ _ _ (by intro h; cases h) he
            | outgrown => exact he.elim fun a he => he.elim fun w he => ⟨a, w, hQ _ _ _ (by intro h; cases h) he⟩)
        | exact Rows.mono h (fun _ _ he => he)
  | halt x w' => cases x <;> simp only [Oper.upon] at h ⊢ <;> first | exact hQ _ _ _ (by intro h; cases h) h | exact h
theorem wpr_of_list {dst : Option Tmp} {op : Op} {ty : TypeId} {pos : String} {after : Array Edge} {g : Option (Nat × Bool)} {K : Act → World → Prop}
    (h : wpList P #[] (onlyN K) [⟨dst, op, ty, pos, after, none⟩] a w) : Oper.wp P ⟨dst, op, ty, pos, after, g⟩ a w K Q := by
  unfold wpList at h
  rw [if_pos (by simp [Region.wanted])] at h
  rcases h with h | ⟨_, a', w', h⟩
  · exact Oper.wp_monoQ (Q := onlyN K) (fun e a w hne h => by cases e <;> first | exact absurd rfl hne | exact (h : False).elim) h
  · exact h.elim
/-- the element itself, written out -/
def nth {α : Type} : List α → Nat → Option α
  | [], _ => none
  | x :: _, 0 => some x
  | _ :: l, n + 1 => nth l n
theorem nth_get {α : Type} : ∀ (l : List α) (i : Nat), l[i]? = nth l i
  | [], _ => by simp [nth]
  | x :: l, 0 => rfl
  | x :: l, n + 1 => by rw [List.getElem?_cons_succ, nth_get l n]; rfl
theorem takeH {md : Region.Mode} {S : World → Prop} {l : List Oper} {i : Nat} {oi : Oper} {v : Value} {fuel : Nat} {listed : Array Bool} (hi : nth l i = some oi)
    (hs : Region.noSelect l.toArray = true) (hf : Region.free md l.toArray listed i = true) (hr : (Region.ready md l.toArray listed).contains i = true)
    (hQ : ∀ c a w, Q (.panic c) (a.put oi.dst v) w → Q (.panic c) a w) (hy : YieldsIf P l.toArray S oi v a) (hS : S w)
    (h : wpAnyH P md l.toArray Q S fuel (listed.setIfInBounds i true) (a.put oi.dst v) w) : wpAnyH P md l.toArray Q S (fuel + 1) listed a w :=
  wpAnyH_take (by rw [List.getElem?_toArray, nth_get, hi]) hs hf hr hQ hy hS h
theorem goH {md : Region.Mode} {S : World → Prop} {l : List Oper} {fuel : Nat} {listed : Array Bool} {i : Nat} {o : Oper} (hr : Region.ready md l.toArray listed = [i]) (ho : nth l i = some o)
    (h : ∀ K' : Act → World → Prop, Shut (∀ a w, S w → (S w → wpAnyH P md l.toArray Q S fuel (listed.setIfInBounds i true) a w) → K' a w) → if Region.wanted o (yielded l.toArray a.tmps) = true then Oper.wp P o a w K' Q else K' (a.put o.dst undef) w) :
    wpAnyH P md l.toArray Q S (fuel + 1) listed a w :=
  wpAnyH_ready hr (by simp) (AllReadyH.cons (by rw [List.getElem?_toArray, nth_get, ho]) h AllReadyH.nil)
/-- what an operation yields in every such world -/
theorem yields_of {T : Nat → Prop} {wd : World} {o : Oper} {v : Value} (hw : Region.wanted o (yielded ops a.tmps) = true) (h : ∀ w, Held T wd w → (execOp a.eval o).run P w = .ok (.value v) w) : YieldsIf P ops (Held T wd) o v a := .inl ⟨hw, h⟩
section
variable {dst : Option Tmp} {ty : TypeId} {pos : String} {after : Array Edge} {gd : Option (Nat × Bool)}
theorem ev_loadrow {t : TypeId} {x : Operand} {g : Nat} (hx : a.eval x = .pointer (some ⟨g, 0, none⟩)) {tb : TypeId} {cs : Array Value} (hb : HB w g tb cs) {n : Nat} (hr : RowT P t n) (hn : cs.size = n) :
    (execOp a.eval ⟨dst, .load t x, ty, pos, after, gd⟩).run P w = .ok (.value (.agg cs)) w := by
  obtain ⟨d, hd1, hd2⟩ := hr.row
  show ((Instr.loadAt t (a.eval x)) >>= fun v => pure (Next.value v)).run P w = _
  rw [hx]
  simp only [Instr.loadAt, Instr.sureAddr, Sem.run_bind, Sem.run_pure, Result.andThen_ok, run_loadVar_row w g tb t cs (0, 0) d hb.out hd1 (by cases d <;> first | rfl | cases hd2) (by rw [hn]; exact hr.size)]
theorem ev_loadcell {t : TypeId} {x : Operand} {g k : Nat} (hx : a.eval x = .pointer (some ⟨g, k, none⟩)) {tb : TypeId} {cs : Array Value} (hb : HB w g tb cs) (ht : CellT P t) {v : Value} (hv : cs[k]? = some v) :
    (execOp a.eval ⟨dst, .load t x, ty, pos, after, gd⟩).run P w = .ok (.value v) w := by
  have hc : w.cell? ⟨g, k, none⟩ = some v := (hb.out.cell k).trans hv
  show ((Instr.loadAt t (a.eval x)) >>= fun v => pure (Next.value v)).run P w = _
  rw [hx]
  simp [Instr.loadAt, Instr.sureAddr, loadVar, ht.agg w, hc]
theorem ev_loadint {t : TypeId} {x : Operand} {g k : Nat} (hx : a.eval x = .pointer (some ⟨g, k, none⟩)) {tb : TypeId} {l : List Int} (hb : HB w g tb (i64s l)) (ht : CellT P t) (hk : k < l.length) :
    (execOp a.eval ⟨dst, .load t x, ty, pos, after, gd⟩).run P w = .ok (.value (.int .i64 (iget l k))) w := ev_loadcell hx hb ht (i64s_get l k hk)
theorem ev_indexH {t : TypeId} {x ix : Operand} {A : Option Addr} {n c k : Nat} (hx : a.eval x = .slice A n c) (hi : a.eval ix = .int .i64 (k : Int)) {e : TypeId} {bytes : Nat} {z : Value} (E : ElemT P t e 32 bytes z)
    {l : List H32} (hr : HR w A (cellsOf l)) (hl : l.length = n) (h1 : k < n) :
    (execOp a.eval ⟨dst, .indexAddr t x ix, ty, pos, after, gd⟩).run P w = .ok (.value (ptrOf A (k * 32))) w := by
  obtain ⟨ad, hA, _⟩ := hr.out.lt (by rw [cellsOf_len]; show 0 < l.length * 32; omega)
  obtain ⟨ti, hti, hz, hs, hb⟩ := info_parts E.out.info
  show ((Instr.indexAt t (a.eval x) (a.eval ix)) >>= fun v => pure (Next.value v)).run P w = _
  rw [hx, hi, hA]
  simp [Instr.indexAt, asIntOf, run_underlying E.out.under, sizeOf, typeInfo, hti, hs, h1, ptrOf, shift]
theorem ev_loadhash {t : TypeId} {x : Operand} {A : Option Addr} {k : Nat} (hx : a.eval x = ptrOf A (k * 32)) {l : List H32} (hr : HR w A (cellsOf l)) (ht : RowT P t 32) (hk : k < l.length) :
    (execOp a.eval ⟨dst, .load t x, ty, pos, after, gd⟩).run P w = .ok (.value (.agg (u8s (hget l k).l))) w := by
  show ((Instr.loadAt t (a.eval x)) >>= fun v => pure (Next.value v)).run P w = _
  rw [hx, Sem.run_bind, run_loadshift (k := k * 32) (cs := bs (hget l k).l) hr.out ht (by rw [bs_length, (hget l k).len]) (cellsOf_at l k hk) (by decide)]
  rfl
end
end
end Go.Proofs.YtmnapacibpnodaaGreat
end
section
open Go Go.RowKit
namespace Go.Proofs.YtmnapacibpnodaaGreat
theorem fold_set (off : Nat) : ∀ (l : List Value) (k : Nat) (z : Array Value), off + k + l.length ≤ z.size →
    ((l.zipIdx k).foldl (fun cs (x : Value × Nat) => cs.setIfInBounds (off + x.2) x.1) z).toList = z.toList.take (off + k) ++ l ++ z.toList.drop (off + k + l.length)
  | [], k, z, _ => by simp
  | v :: l, k, z, h => by
    simp only [List.length_cons] at h
    rw [List.zipIdx_cons, List.foldl_cons, fold_set off l (k + 1) _ (by simp only [Array.size_setIfInBounds]; omega)]
    have e1 : (z.setIfInBounds (off + k) v).toList = z.toList.set (off + k) v := by simp
    have hkl : off + k < z.toList.length := by rw [Array.length_toList]; omega
    have h1 : (z.toList.take (off + k) ++ [v]).length = off + k + 1 := by rw [List.length_append, List.length_take]; simp; omega
    have h2 : z.toList.take (off + k) ++ v :: z.toList.drop (off + k + 1) = (z.toList.take (off + k) ++ [v]) ++ z.toList.drop (off + k + 1) := by simp
    rw [e1, List.set_eq_take_append_cons_drop, if_pos hkl, h2, show off + (k + 1) = off + k + 1 by omega, List.take_left' h1, ← List.drop_drop, List.drop_left' h1, List.drop_drop,
      show off + k + 1 + l.length = off + k + (v :: l).length by simp; omega]
    simp
/-- the cells of one part laid over others -/
def lay (off : Nat) (cs z : Array Value) : Array Value := (z.toList.take off ++ cs.toList ++ z.toList.drop (off + cs.size)).toArray
theorem fill_step (place : Nat → Option (Nat × Nat)) (z : Array Value) (i : Nat) (v : Value) (rest : List (Nat × Value)) {off size : Nat} (hp : place i = some (off, size)) (hs : v.cells.size = size) (hf : off + size ≤ z.size) :
    Instr.fill place z ((i, v) :: rest) = Instr.fill place (lay off v.cells z) rest := by
  rw [Instr.fill, hp]
  simp only []
  rw [if_neg (by simp [hs]; omega)]
  congr 1
  apply Array.ext'
  rw [lay, ← Array.foldl_toList, Array.toList_zipIdx]
  have h := fold_set off v.cells.toList 0 z (by simp; omega)
  simp only [Nat.add_zero, Array.length_toList] at h
  exact h
theorem lay_whole (cs z : Array Value) (h : cs.size = z.size) : lay 0 cs z = cs := by
  apply Array.ext'
  rw [lay, h]
  simp
theorem run_build_struct {P : Program} {t : TypeId} {fields : Array Field} (hu : P.underlying t = some (.struct fields)) {zv : Value} (hz : ∀ w, (zeroValue t).run P w = .ok zv w) {places : Array (Nat × Nat)}
    (hp : ∀ w, (fields.mapM fun f => do pure (f.offset, ← sizeOf f.type) : Sem (Array (Nat × Nat))).run P w = .ok places w) {parts : Array (Nat × Value)} {cells : Array Value} (hf : Instr.fill (places[·]?) zv.cells parts.toList = some cells) (w : World) :
    (Instr.build t parts).run P w = .ok (.agg cells) w := by
  unfold Instr.build
  simp only [Sem.run_bind, hz, Result.andThen_ok, run_underlying hu, hp, hf, Sem.run_pure]
theorem iget_nots (n i : Nat) : iget (List.replicate n 0) i = 0 := by
  unfold iget
  rw [List.getD_eq_getElem?_getD, List.getElem?_replicate]
  split <;> rfl
end Go.Proofs.YtmnapacibpnodaaGreat
end
section
open Go Go.RowKit
namespace Go.Proofs.YtmnapacibpnodaaGreat
/-- the address that a slice of a slice has -/
def cutA (A : Option Addr) (k c s : Nat) : Option Addr := if c = k then A else shift A (k * s)
theorem HR.takeR {α : Type} [RowC α] {w : World} {A : Option Addr} {l : List α} (h : HR w A (cellsOf l)) (k : Nat) : HR w A (cellsOf (l.take k)) := ⟨by
  have := h.out.take (k * RowC.size α)
  rwa [cellsOf_take] at this⟩
theorem HR.cutR {α : Type} [RowC α] {w : World} {A : Option Addr} {l : List α} (h : HR w A (cellsOf l)) {n c : Nat} (hl : l.length = n) (hc : n ≤ c) (k s : Nat) (hs : RowC.size α = s) : HR w (cutA A k c s) (cellsOf (l.drop k)) := ⟨by
  subst hs
  unfold cutA
  split
  · rw [List.drop_eq_nil_of_le (by omega)]
    exact Rd.nil _ _
  · have := h.out.drop (k * RowC.size α)
    rwa [cellsOf_drop] at this⟩
section
variable {P : Program} {ops : Array Oper} {rest : List Oper} {a : Act} {w : World} {Q : Exit → Act → World → Prop} {dst : Option Tmp} {ty : TypeId} {pos : String} {after : Array Edge} {gd : Option (Nat × Bool)}
theorem run_sl_h {t e : TypeId} {size bytes : Nat} {z : Value} (E : ElemT P t e size bytes z) (A : Option Addr) (n c m : Nat) (hm : m ≤ c) (w : World) : (Instr.sliceAt t (.slice A n c) none (some (.int .i64 (m : Int))) none).run P w = .ok (.slice A m c) w := by
  obtain ⟨ti, hti, hz, hs, hb⟩ := info_parts E.out.info
  have e0 : (if c = 0 then A else Option.map (fun x => x.add 0) A) = A := by
    split
    · rfl
    · cases A <;> simp [add_zero_spot]
  simp [Instr.sliceAt, Instr.slice, run_underlying E.out.under, Instr.sliceBounds, Instr.sliceBound, asIntOf, sizeOf, typeInfo, hti, hm, e0]
theorem run_sl_l {t e : TypeId} {size bytes : Nat} {z : Value} (E : ElemT P t e size bytes z) (A : Option Addr) (n c k : Nat) (hk : k ≤ n) (w : World) : (Instr.sliceAt t (.slice A n c) (some (.int .i64 (k : Int))) none none).run P w = .ok (.slice (cutA A k c size) (n - k) (c - k)) w := by
  obtain ⟨ti, hti, hz, hs, hb⟩ := info_parts E.out.info
  simp [Instr.sliceAt, Instr.slice, run_underlying E.out.under, Instr.sliceBounds, Instr.sliceBound, asIntOf, sizeOf, typeInfo, hti, hs, hk, cutA, shift]
theorem ev_sl_h {t e : TypeId} {size bytes : Nat} {z : Value} {x y : Operand} {A : Option Addr} {n c m : Nat} (hx : a.eval x = .slice A n c) (hy : a.eval y = .int .i64 (m : Int)) (E : ElemT P t e size bytes z) (hm : m ≤ c) :
    (execOp a.eval ⟨dst, .slice t x none (some y) none, ty, pos, after, gd⟩).run P w = .ok (.value (.slice A m c)) w := by
  show ((Instr.sliceAt t (a.eval x) none (some (a.eval y)) none) >>= fun v => pure (Next.value v)).run P w = _
  rw [hx, hy, Sem.run_bind, run_sl_h E A n c m hm]
  rfl
theorem ev_sl_l {t e : TypeId} {size bytes : Nat} {z : Value} {x y : Operand} {A : Option Addr} {n c k : Nat} (hx : a.eval x = .slice A n c) (hy : a.eval y = .int .i64 (k : Int)) (E : ElemT P t e size bytes z) (hk : k ≤ n) :
    (execOp a.eval ⟨dst, .slice t x (some y) none none, ty, pos, after, gd⟩).run P w = .ok (.value (.slice (cutA A k c size) (n - k) (c - k))) w := by
  show ((Instr.sliceAt t (a.eval x) (some (a.eval y)) none none) >>= fun v => pure (Next.value v)).run P w = _
  rw [hx, hy, Sem.run_bind, run_sl_l E A n c k hk]
  rfl
theorem ev_build {t : TypeId} {ps : List (Nat × Operand)} {cs : Array Value} (hr : (Instr.build t (ps.map fun (i, x) => (i, a.eval x)).toArray).run P w = .ok (.agg cs) w) :
    (execOp a.eval ⟨dst, .build t ps.toArray, ty, pos, after, gd⟩).run P w = .ok (.value (.agg cs)) w := by
  show ((Instr.build t (ps.toArray.map fun (i, x) => (i, a.eval x))) >>= fun v => pure (Next.value v)).run P w = _
  rw [Sem.run_bind, List.map_toArray, hr]
  rfl
theorem ev_indexH' {t : TypeId} {x ix : Operand} {A : Option Addr} {n c : Nat} {i : Int} (hx : a.eval x = .slice A n c) (hi : a.eval ix = .int .i64 i) {e : TypeId} {bytes : Nat} {z : Value} (E : ElemT P t e 32 bytes z)
    {l : List H32} (hr : HR w A (cellsOf l)) (hl : l.length = n) (h0 : 0 ≤ i) (h1 : i < n) :
    (execOp a.eval ⟨dst, .indexAddr t x ix, ty, pos, after, gd⟩).run P w = .ok (.value (ptrOf A (i.toNat * 32))) w := by
  obtain ⟨k, rfl⟩ : ∃ k : Nat, i = (k : Int) := ⟨i.toNat, by omega⟩
  exact ev_indexH hx hi E hr hl (by omega)
theorem nth_arr {cs : Array Value} {k : Nat} {v : Value} (h : nth cs.toList k = some v) : cs[k]? = some v := by
  rw [← nth_get] at h
  simpa using h
theorem wpl_loadcellN {t : TypeId} {x : Operand} {g k : Nat} (hx : a.eval x = .pointer (some ⟨g, k, none⟩)) {tb : TypeId} {cs : Array Value} (hb : HB w g tb cs) [ht : CellT P t] {v : Value} (hv : nth cs.toList k = some v)
    (h : wpList P ops Q rest (a.put dst v) w) : wpList P ops Q (⟨dst, .load t x, ty, pos, after, none⟩ :: rest) a w := wpl_loadcell hx hb (nth_arr hv) h
theorem ev_loadcellN {t : TypeId} {x : Operand} {g k : Nat} (hx : a.eval x = .pointer (some ⟨g, k, none⟩)) {tb : TypeId} {cs : Array Value} (hb : HB w g tb cs) (ht : CellT P t) {v : Value} (hv : nth cs.toList k = some v) :
    (execOp a.eval ⟨dst, .load t x, ty, pos, after, gd⟩).run P w = .ok (.value v) w := ev_loadcell hx hb ht (nth_arr hv)
theorem wpl_mineq {x y : Operand} {tx ty' : TypeId} {k : IntKind} {p q r : Int} (hx : a.eval x = .int k p) (hy : a.eval y = .int k q) (hr : min p q = r) (h : wpList P ops Q rest (a.put dst (.int k r)) w) :
    wpList P ops Q (⟨dst, .call { callee := .builtin .min, args := #[x, y], argTypes := #[tx, ty'] }, ty, pos, after, none⟩ :: rest) a w := by
  subst hr
  exact wpl_min hx hy h
theorem wpl_sl_h {t e : TypeId} {size bytes : Nat} {z : Value} {x y : Operand} {A : Option Addr} {n c m : Nat} (hx : a.eval x = .slice A n c) (hy : a.eval y = .int .i64 (m : Int)) (E : ElemT P t e size bytes z) (hm : m ≤ c)
    (h : wpList P ops Q rest (a.put dst (.slice A m c)) w) : wpList P ops Q (⟨dst, .slice t x none (some y) none, ty, pos, after, none⟩ :: rest) a w :=
  wpl_of_run rfl (ev_sl_h hx hy E hm) h
theorem wpl_sl_l {t e : TypeId} {size bytes : Nat} {z : Value} {x y : Operand} {A : Option Addr} {n c k : Nat} (hx : a.eval x = .slice A n c) (hy : a.eval y = .int .i64 (k : Int)) (E : ElemT P t e size bytes z) (hk : k ≤ n)
    (h : wpList P ops Q rest (a.put dst (.slice (cutA A k c size) (n - k) (c - k))) w) : wpList P ops Q (⟨dst, .slice t x (some y) none none, ty, pos, after, none⟩ :: rest) a w :=
  wpl_of_run rfl (ev_sl_l hx hy E hk) h
end
end Go.Proofs.YtmnapacibpnodaaGreat
end
section
open Go Go.RowKit
namespace Go.Proofs.YtmnapacibpnodaaGreat
theorem HO.some_ {w : World} {e : TypeId} {size n c : Nat} {A : Option Addr} {xs : List Value} (h : HO w e size A n c xs) (hn : 0 < n) : ∃ g, A = some ⟨g, 0, none⟩ := by
  rcases h.out.form with ⟨_, h1, _⟩ | ⟨g, _, h1, _⟩
  · omega
  · exact ⟨g, h1⟩
instance (priority := 700) HO.ofEmptyH (w : World) (g : Nat) (e : TypeId) [h : HB w g e #[]] : HO w e 32 (some ⟨g, 0, none⟩) 0 0 (cellsOf ([] : List H32)) :=
  ⟨Own.of_blk h.out (Nat.le_refl _) (Nat.zero_le _) (by simp) (by simp [cellsOf])⟩
theorem xor_u8_in (a b : Int) : 0 ≤ bits BinOp.xor IntKind.u8 a b ∧ bits BinOp.xor IntKind.u8 a b < 256 := by
  have h : ∀ x : Int, 0 ≤ IntKind.u8.wrap x ∧ IntKind.u8.wrap x < 256 := fun x => by rw [IntKind.wrap_u8]; omega
  exact h _
/-- one byte of a digest set -/
def setH (h : H32) (j : Nat) (b : UInt8) : H32 := ⟨h.l.set j b, by rw [List.length_set, h.len]⟩
section
variable {P : Program} {ops : Array Oper} {rest : List Oper} {a : Act} {w : World} {Q : Exit → Act → World → Prop} {dst : Option Tmp} {ty : TypeId} {pos : String} {after : Array Edge} {gd : Option (Nat × Bool)}
/-- rows behind rows of the call's own -/
theorem wpl_appendR {α : Type} [RowC α] {s x : Operand} {t e : TypeId} {size bytes : Nat} {z : Value} {A : Option Addr} {n c : Nat} (hs : a.eval s = .slice A n c) {A2 : Option Addr} {m c2 : Nat} (hx : a.eval x = .slice A2 m c2) (E : ElemT P t e size bytes z)
    {l : List α} (ho : HO w e size A n c (cellsOf l)) {news : List α} (hr : HR w A2 (cellsOf news)) (hsz : size = RowC.size α) (hl : news.length = m) (hlim : n + m ≤ 1000000000) (hb : bytes ≤ 100000) (h0 : 0 < size)
    (h : ∀ A' c' w', Step (rowOf A) w w' → HO w' e size A' (n + m) c' (cellsOf (l ++ news)) → Grew w A A' → n + m ≤ c' → wpList P ops Q rest (a.put dst (.slice A' (n + m) c')) w') :
    wpList P ops Q (⟨dst, .call { callee := .builtin .append, args := #[s, x], argTypes := #[t, t] }, ty, pos, after, none⟩ :: rest) a w :=
  wpList_append_Own rfl s x E.out rfl hs ho.out hx hr.out (by rw [cellsOf_len, hl, hsz]) (cellsOf_one _) (by unfold maxLen; omega)
    (Nat.le_trans (Nat.mul_le_mul hlim hb) (by decide)) (fun e => by
      subst e
      rcases Nat.eq_zero_or_pos m with h1 | h1
      · exact h1
      · obtain ⟨ad, h, _⟩ := hr.out.lt (by rw [cellsOf_len, hl, ← hsz]; exact Nat.mul_pos h1 h0)
        cases h) fun A' c' w' g1 g2 g3 => by
    rw [← cellsOf_app] at g1
    refine h A' c' w' ⟨g2⟩ ⟨g1⟩ ⟨g3⟩ ?_
    rcases g1.form with ⟨_, h1, h2, _⟩ | ⟨_, _, _, _, h1, _⟩ <;> omega
theorem wpl_storebyteH {t : TypeId} {x y : Operand} {A : Option Addr} {k j : Nat} {v : Int} (hx : a.eval x = ptrOf A (k * 32 + j)) (hy : a.eval y = .int .u8 v) {e : TypeId} {n c : Nat} {l : List H32} (ho : HO w e 32 A n c (cellsOf l)) [ht : CellT P t] (hk : k < l.length) (hj : j < 32) (hv : 0 ≤ v ∧ v < 256)
    (h : ∀ w', Step (rowOf A) w w' → HO w' e 32 A n c (cellsOf (l.set k (setH (hget l k) j (b8 v)))) → wpList P ops Q rest (a.put dst undef) w') : wpList P ops Q (⟨dst, .store t x y, ty, pos, after, none⟩ :: rest) a w := by
  have hlen : (cellsOf l).length = l.length * 32 := cellsOf_len l
  obtain ⟨g, hA, h1, h2, h3⟩ := own_setCells ho.out (k := k * 32 + j) (cs := [.int .u8 v]) (m := 1) rfl (by rw [hlen]; omega) (by decide)
  refine wpl_of_unit rfl (w' := w.setCells g (k * 32 + j) [.int .u8 v]) ?_ (h _ ⟨h3⟩ ⟨?_⟩)
  · have hc := h1 0 (by decide)
    have hst := run_store P w ⟨g, k * 32 + j, none⟩ (.int .u8 v) .plain rfl
    rw [Nat.add_zero] at hc
    obtain ⟨u, hu⟩ := Option.isSome_iff_exists.1 hc.1
    rw [hu, hc.2] at hst
    show ((Instr.storeAt t (a.eval x) (a.eval y)) >>= fun _ => pure Next.skip).run P w = _
    rw [hx, hy, hA]
    simp [Instr.storeAt, Instr.sureAddr, ptrOf, shift_some, add_row, storeVar, Value.cells, ht.size1 w, storeCells, add_zero_spot, hst, World.setCells]
  · have h32 : RowC.size H32 = 32 := rfl
    have hat := cellsOf_at l k hk
    have hset := cellsOf_set l k (setH (hget l k) j (b8 v)) hk
    rw [h32] at hat hset
    have hlb : (bs (hget l k).l).length = 32 := by rw [bs_length, H32.len]
    have hdec : cellsOf l = (cellsOf l).take (k * 32) ++ (bs (hget l k).l ++ (cellsOf l).drop (k * 32 + 32)) := by
      conv => lhs; rw [← List.take_append_drop (k * 32) (cellsOf l), ← List.take_append_drop 32 ((cellsOf l).drop (k * 32)), List.drop_drop]
      rw [show ((cellsOf l).drop (k * 32)).take 32 = bs (hget l k).l from hat]
    have htl : ((cellsOf l).take (k * 32)).length = k * 32 := by rw [List.length_take]; omega
    have hs1 : (cellsOf l).take (k * 32 + j) ++ [Value.int .u8 v] ++ (cellsOf l).drop (k * 32 + j + 1) = (cellsOf l).set (k * 32 + j) (.int .u8 v) := by
      rw [List.set_eq_take_append_cons_drop, if_pos (by omega)]
      simp
    have hs2 : (cellsOf l).set (k * 32 + j) (.int .u8 v) = (cellsOf l).take (k * 32) ++ ((bs (hget l k).l).set j (.int .u8 v) ++ (cellsOf l).drop (k * 32 + 32)) := by
      conv => lhs; rw [hdec]
      rw [List.set_append, if_neg (by omega), htl, Nat.add_sub_cancel_left, List.set_append, if_pos (by omega)]
    have hs3 : (bs (hget l k).l).set j (.int .u8 v) = bs ((hget l k).l.set j (b8 v)) := by
      have := b8_in hv.1 hv.2
      rw [bs, bs, List.map_set]
      congr 1
      rw [u8v, ← this]
    rw [hs1, hs2, hs3, ← List.append_assoc] at h2
    have hset' : List.take (k * 32) (cellsOf l) ++ bs ((hget l k).l.set j (b8 v)) ++ List.drop (k * 32 + 32) (cellsOf l) = cellsOf (l.set k (setH (hget l k) j (b8 v))) := hset
    rw [hset'] at h2
    exact h2
end
end Go.Proofs.YtmnapacibpnodaaGreat
end
section
open Go Go.RowKit
namespace Go.Proofs.YtmnapacibpnodaaGreat
def both (a b : Nat) : Nat → Prop := fun k => k = a ∨ k = b
class SzLe (w0 w : World) : Prop where
  out : w0.heap.size ≤ w.heap.size
instance (w : World) : SzLe w w := ⟨Nat.le_refl _⟩
instance SzLe.snoc (S : Nat → Prop) (w0 w w' : World) [s : Step S w w'] [n : SzLe w0 w] : SzLe w0 w' := ⟨Nat.le_trans n.out s.chg.size⟩
class Into (w0 : World) (T S : Nat → Prop) : Prop where
  out : ∀ x, x < w0.heap.size → T x → S x
instance (w0 : World) (S : Nat → Prop) : Into w0 nowhere S := ⟨fun _ _ h => h.elim⟩
instance (w0 : World) (a b : Nat) : Into w0 (only a) (both a b) := ⟨fun _ _ h => .inl h⟩
instance (w0 : World) (a b : Nat) : Into w0 (only b) (both a b) := ⟨fun _ _ h => .inr h⟩
instance (priority := 900) Into.refl_ (w0 : World) (S : Nat → Prop) : Into w0 S S := ⟨fun _ _ h => h⟩
instance (priority := 800) Into.born_ (w0 w : World) (z : Nat) (S : Nat → Prop) [b : Born w z] [n : SzLe w0 w] : Into w0 (only z) S := ⟨fun x hx h => by
  have h' : x = z := h
  have := b.eq
  have := n.out
  omega⟩
class Ch (S : Nat → Prop) (w0 w : World) : Prop where
  out : Chg S w0 w
instance Ch.refl_ (S : Nat → Prop) (w : World) : Ch S w w := ⟨Chg.refl _ _⟩
instance Ch.snoc (S T : Nat → Prop) (w0 w w' : World) [s : Step T w w'] [n : Ch S w0 w] [i : Into w0 T S] : Ch S w0 w' := ⟨n.out.trans s.chg i.out⟩
theorem stepC {S : Nat → Prop} {w0 w : World} [n : Ch S w0 w] : Step S w0 w := ⟨n.out⟩
instance OffB.both_ (a b g : Nat) [x : OffB (only a) g] [y : OffB (only b) g] : OffB (both a b) g := ⟨fun h => h.elim x.out y.out⟩
instance OffR.both_ (a b : Nat) (A : Option Addr) (vs : List Value) [x : OffR (only a) A vs] [y : OffR (only b) A vs] : OffR (both a b) A vs := ⟨fun hne ad e h => h.elim (x.out hne ad e) (y.out hne ad e)⟩
theorem NewA.monoS {w0 w : World} {A : Option Addr} (h : NewA w A) [n : SzLe w0 w] : NewA w0 A := ⟨fun ad e => Nat.le_trans n.out (h.out ad e)⟩
instance (priority := 700) Sub.born_ (w0 w : World) (z : Nat) (T : Nat → Prop) [b : Born w z] [n : SzLe w0 w] : Sub w0 (only z) T := ⟨fun x hx h => by
  have h' : x = z := h
  have := b.eq
  have := n.out
  omega⟩
class Inv (I : World → Prop) (w : World) : Prop where
  out : I w
/-- since the region began only T and what is new has changed, and I holds -/
class HeldI (I : outParam (World → Prop)) (T : outParam (Nat → Prop)) (wd : outParam World) (w : World) : Prop where
  out : Chg T wd w
  inv : I w
instance (priority := 500) Step.heldI (I : World → Prop) (T : Nat → Prop) (wd w : World) [h : HeldI I T wd w] : Step T wd w := ⟨h.out⟩
instance (priority := 600) HeldI.invI (I : World → Prop) (T : Nat → Prop) (wd w : World) [h : HeldI I T wd w] : Inv I w := ⟨h.inv⟩
instance HeldI.snoc (I : World → Prop) (S T : Nat → Prop) (wd w w' : World) [s : Step S w w'] [h : HeldI I T wd w] [u : Sub wd S T] [i : Inv I w'] : HeldI I T wd w' := ⟨h.out.trans s.chg u.out, i.out⟩
section
variable {P : Program} {ops : Array Oper} {Q : Exit → Act → World → Prop} {a : Act} {w : World}
theorem stop_dst {rest : List Oper} {Q : Exit → Act → World → Prop} {dst : Option Tmp} {op : Op} {ty : TypeId} {pos : String} {after : Array Edge} (h : wpList P ops Q (⟨dst, op, ty, pos, after, none⟩ :: rest) a w) : wpList P ops Q (⟨dst, op, ty, pos, after, none⟩ :: rest) a w := h
end
end Go.Proofs.YtmnapacibpnodaaGreat
end
section
open Go Go.RowKit
namespace Go.Proofs.YtmnapacibpnodaaGreat
section
variable {P : Program} {ops : Array Oper} {rest : List Oper} {a : Act} {w : World} {Q : Exit → Act → World → Prop} {dst : Option Tmp} {ty : TypeId} {pos : String} {after : Array Edge} {gd : Option (Nat × Bool)}
theorem ev_index1 {t : TypeId} {x ix : Operand} {A : Option Addr} {n c k : Nat} (hx : a.eval x = .slice A n c) (hi : a.eval ix = .int .i64 (k : Int)) {e : TypeId} {bytes : Nat} {z : Value} (E : ElemT P t e 1 bytes z) {vs : List Value} (hr : HR w A vs) (hl : 0 < vs.length) (h1 : k < n) :
    (execOp a.eval ⟨dst, .indexAddr t x ix, ty, pos, after, gd⟩).run P w = .ok (.value (ptrOf A k)) w := by
  obtain ⟨ad, hA, _⟩ := hr.out.lt hl
  obtain ⟨ti, hti, hz, hsz, hb⟩ := info_parts E.out.info
  show ((Instr.indexAt t (a.eval x) (a.eval ix)) >>= fun v => pure (Next.value v)).run P w = _
  rw [hx, hi, hA]
  simp [Instr.indexAt, asIntOf, run_underlying E.out.under, sizeOf, typeInfo, hti, hsz, h1, ptrOf, shift]
theorem ev_load1 {t : TypeId} {x : Operand} {A : Option Addr} {k : Nat} (hx : a.eval x = ptrOf A k) {vs : List Value} (hr : HR w A vs) (ht : CellT P t) {v : Value} (hv : vs[k]? = some v) :
    (execOp a.eval ⟨dst, .load t x, ty, pos, after, gd⟩).run P w = .ok (.value v) w := by
  obtain ⟨ad, hA, hc⟩ := hr.out k _ hv
  show ((Instr.loadAt t (a.eval x)) >>= fun v => pure (Next.value v)).run P w = _
  rw [hx, hA]
  simp [ptrOf, shift, Instr.loadAt, Instr.sureAddr, loadVar, ht.agg w, hc]
theorem wpl_index1 {t : TypeId} {x ix : Operand} {A : Option Addr} {n c k : Nat} (hx : a.eval x = .slice A n c) (hi : a.eval ix = .int .i64 (k : Int)) {e : TypeId} {bytes : Nat} {z : Value} (E : ElemT P t e 1 bytes z) {vs : List Value} (hr : HR w A vs) (hl : 0 < vs.length) (h1 : k < n)
    (h : wpList P ops Q rest (a.put dst (ptrOf A k)) w) : wpList P ops Q (⟨dst, .indexAddr t x ix, ty, pos, after, none⟩ :: rest) a w := wpl_of_run rfl (ev_index1 hx hi E hr hl h1) h
theorem wpl_load1 {t : TypeId} {x : Operand} {A : Option Addr} {k : Nat} (hx : a.eval x = ptrOf A k) {vs : List Value} (hr : HR w A vs) (ht : CellT P t) {v : Value} (hv : vs[k]? = some v)
    (h : wpList P ops Q rest (a.put dst v) w) : wpList P ops Q (⟨dst, .load t x, ty, pos, after, none⟩ :: rest) a w := wpl_of_run rfl (ev_load1 hx hr ht hv) h
end
end Go.Proofs.YtmnapacibpnodaaGreat
end
section
open Go Go.RowKit
namespace Go.Proofs.YtmnapacibpnodaaGreat
def i64l (l : List Int) : List Value := l.map (.int .i64)
theorem i64l_at (l : List Int) (k : Nat) (h : k < l.length) : (i64l l)[k]? = some (.int .i64 (iget l k)) := by
  simp [i64l, iget, List.getD_eq_getElem?_getD, h]
section
variable {P : Program} {ops : Array Oper} {rest : List Oper} {a : Act} {w : World} {Q : Exit → Act → World → Prop} {dst : Option Tmp} {ty : TypeId} {pos : String} {after : Array Edge} {gd : Option (Nat × Bool)}
theorem ev_indexI {t : TypeId} {x ix : Operand} {A : Option Addr} {n c k : Nat} (hx : a.eval x = .slice A n c) (hi : a.eval ix = .int .i64 (k : Int)) {e : TypeId} {bytes : Nat} {z : Value} (E : ElemT P t e 1 bytes z) {l : List Int} (hr : HR w A (i64l l)) (hl : l.length = n) (h1 : k < n) :
    (execOp a.eval ⟨dst, .indexAddr t x ix, ty, pos, after, gd⟩).run P w = .ok (.value (ptrOf A k)) w := by
  obtain ⟨ad, hA, _⟩ := hr.out.lt (by rw [i64l, List.length_map, hl]; omega)
  obtain ⟨ti, hti, hz, hsz, hb⟩ := info_parts E.out.info
  show ((Instr.indexAt t (a.eval x) (a.eval ix)) >>= fun v => pure (Next.value v)).run P w = _
  rw [hx, hi, hA]
  simp [Instr.indexAt, asIntOf, run_underlying E.out.under, sizeOf, typeInfo, hti, hsz, h1, ptrOf, shift]
theorem ev_loadI {t : TypeId} {x : Operand} {A : Option Addr} {k : Nat} (hx : a.eval x = ptrOf A k) {l : List Int} (hr : HR w A (i64l l)) (ht : CellT P t) (hk : k < l.length) :
    (execOp a.eval ⟨dst, .load t x, ty, pos, after, gd⟩).run P w = .ok (.value (.int .i64 (iget l k))) w := by
  obtain ⟨ad, hA, hc⟩ := hr.out k _ (i64l_at l k hk)
  show ((Instr.loadAt t (a.eval x)) >>= fun v => pure (Next.value v)).run P w = _
  rw [hx, hA]
  simp [ptrOf, shift, Instr.loadAt, Instr.sureAddr, loadVar, ht.agg w, hc]
theorem wpl_indexI {t : TypeId} {x ix : Operand} {A : Option Addr} {n c k : Nat} (hx : a.eval x = .slice A n c) (hi : a.eval ix = .int .i64 (k : Int)) {e : TypeId} {bytes : Nat} {z : Value} (E : ElemT P t e 1 bytes z) {l : List Int} (hr : HR w A (i64l l)) (hl : l.length = n) (h1 : k < n)
    (h : wpList P ops Q rest (a.put dst (ptrOf A k)) w) : wpList P ops Q (⟨dst, .indexAddr t x ix, ty, pos, after, none⟩ :: rest) a w := wpl_of_run rfl (ev_indexI hx hi E hr hl h1) h
theorem wpl_loadI {t : TypeId} {x : Operand} {A : Option Addr} {k : Nat} (hx : a.eval x = ptrOf A k) {l : List Int} (hr : HR w A (i64l l)) (ht : CellT P t) (hk : k < l.length)
    (h : wpList P ops Q rest (a.put dst (.int .i64 (iget l k))) w) : wpList P ops Q (⟨dst, .load t x, ty, pos, after, none⟩ :: rest) a w := wpl_of_run rfl (ev_loadI hx hr ht hk) h
end
end Go.Proofs.YtmnapacibpnodaaGreat
end
