/- Words for memory: a slice that reads as a list, a row of the call's own, a block known whole, what a call may have changed. -/
import Derived.WalkKit
import Derived.Handy
import Derived.BigQuiet
import Derived.Deep.QuietTactic
import Derived.Deep.Draws
import Derived.Deep.AppendLies
import Derived.Maps.AppendAt
import Derived.Lib.Hide
import Derived.OneCell
import Derived.WalkSpells
import Derived.Lib.SlBytesConst
open Go Go.RowKit
namespace Go.Proofs.YthoipeamdolfgaaDoor

theorem block_of_add (a : Addr) (n : Nat) : (a.add n).block = a.block := by unfold Addr.add; split <;> rfl
theorem add_of_add (a : Addr) (i j : Nat) : (a.add i).add j = a.add (i + j) := by
  unfold Addr.add
  by_cases hi : i = 0 <;> by_cases hj : j = 0 <;> simp [hi, hj, Nat.add_assoc]
theorem add_zero_spot (a : Addr) : a.add 0 = a := by simp [Addr.add]
theorem add_row (g j : Nat) : (⟨g, 0, none⟩ : Addr).add j = ⟨g, j, none⟩ := by
  unfold Addr.add; split <;> simp_all

/-- What is in S, and what is new, may have changed; nothing else. -/
structure Chg (S : Nat → Prop) (w w' : World) : Prop where
  os : w'.os = w.os
  tape : w'.tape = w.tape
  output : w'.output = w.output
  size : w.heap.size ≤ w'.heap.size
  block : ∀ k, k < w.heap.size → ¬ S k → w'.heap[k]? = w.heap[k]?

def nowhere : Nat → Prop := fun _ => False

section
variable {S T : Nat → Prop} {a b w w' : World}
theorem Chg.refl (S : Nat → Prop) (w : World) : Chg S w w := ⟨rfl, rfl, rfl, Nat.le_refl _, fun _ _ _ => rfl⟩
theorem Chg.trans {c : World} (h : Chg S a b) (k : Chg T b c) (ht : ∀ x, x < a.heap.size → T x → S x) : Chg S a c :=
  ⟨k.os.trans h.os, k.tape.trans h.tape, k.output.trans h.output, Nat.le_trans h.size k.size, fun i hi hs =>
    (k.block i (Nat.lt_of_lt_of_le hi h.size) (fun hT => hs (ht i hi hT))).trans (h.block i hi hs)⟩
theorem Chg.mono (h : Chg S w w') (ht : ∀ x, x < w.heap.size → S x → T x) : Chg T w w' :=
  ⟨h.os, h.tape, h.output, h.size, fun i hi hs => h.block i hi (fun hS => hs (ht i hi hS))⟩
theorem Chg.drewN (h : Chg S a w) (n : Nat) : Chg S a (w.drewN n) := ⟨h.os, h.tape, h.output, h.size, h.block⟩
theorem Chg.drew (h : Chg S a w) : Chg S a w.drew := ⟨h.os, h.tape, h.output, h.size, h.block⟩
theorem Chg.alloc (h : Chg S a w) (o : Obj) : Chg S a (w.alloc o) :=
  h.trans (T := S) ⟨rfl, rfl, rfl, by simp, fun k hk _ => Below.heap_alloc _ _ _ hk⟩ (fun _ _ h => h)
theorem Chg.setCell (h : Chg S a w) {p : Addr} (hp : p.block < a.heap.size → S p.block) (u : Value) : Chg S a (w.setCell p u) :=
  h.trans (T := fun k => k = p.block) ⟨rfl, rfl, rfl, by simp [World.setCell], fun k _ hn => Below.heap_setCell _ _ _ _ hn⟩ (fun x hx e => by subst e; exact hp hx)
theorem Chg.of_grown {row : Option Nat} (h : w.grownBy w' row) : Chg (fun k => row = some k) w w' :=
  ⟨h.os, h.tape, h.output, h.size, fun k hk hn => h.block k hk (fun e => hn e.symm)⟩
theorem Chg.grown {row : Option Nat} (h : Chg S a w) (hg : w.grownBy w' row) (hr : ∀ k, k < a.heap.size → row = some k → S k) : Chg S a w' :=
  h.trans (Chg.of_grown hg) hr
theorem Chg.of_below (h : Below w.heap.size w w') (S : Nat → Prop) : Chg S w w' := ⟨h.os, h.tape, h.output, h.size, fun k hk _ => h.block k hk⟩
theorem Chg.below (h : Chg S w w') {B : Nat} (hB : B ≤ w.heap.size) (hS : ∀ k, S k → B ≤ k) : Below B w w' :=
  ⟨h.os, h.tape, h.output, h.size, fun k hk => h.block k (by omega) (fun hs => by have := hS k hs; omega)⟩
theorem Chg.below' (h : Chg nowhere w w') : Below w.heap.size w w' := h.below (Nat.le_refl _) (fun _ h => h.elim)
theorem Chg.cell (h : Chg S w w') {p : Addr} {v : Value} (hc : w.cell? p = some v) (hS : ¬ S p.block) : w'.cell? p = some v :=
  (World.cell?_of_block (h.block p.block (World.block_lt_of_cell? w p hc) hS)).trans hc
end

/-- A slice that reads as a list of cells. -/
def Rd (w : World) (A : Option Addr) (vs : List Value) : Prop := ∀ k u, vs[k]? = some u → ∃ ad, A = some ad ∧ w.cell? (ad.add k) = some u

section
variable {S : Nat → Prop} {w w' : World} {A : Option Addr} {vs : List Value}
theorem Rd.nil (w : World) (A : Option Addr) : Rd w A [] := fun k u h => by simp at h
/-- A slice that has cells has none of them in S. -/
def Apart (S : Nat → Prop) (A : Option Addr) (vs : List Value) : Prop := vs ≠ [] → ∀ ad, A = some ad → ¬ S ad.block
theorem Rd.chg (h : Rd w A vs) (hc : Chg S w w') (hS : Apart S A vs) : Rd w' A vs := fun k u hk => by
  obtain ⟨ad, rfl, hcell⟩ := h k u hk
  exact ⟨ad, rfl, hc.cell hcell (by rw [block_of_add]; exact hS (by rintro rfl; simp at hk) ad rfl)⟩
theorem Apart.none (A : Option Addr) (vs : List Value) : Apart nowhere A vs := fun _ _ _ h => h
theorem Rd.lt (h : Rd w A vs) (hn : 0 < vs.length) : ∃ ad, A = some ad ∧ ad.block < w.heap.size := by
  obtain ⟨ad, rfl, hc⟩ := h 0 vs[0] (by simp [hn])
  exact ⟨ad, rfl, by have := World.block_lt_of_cell? w _ hc; rwa [block_of_add] at this⟩
/-- What was there lies apart from what is new. -/
theorem Rd.apart (h : Rd w A vs) (hS : ∀ k, S k → w.heap.size ≤ k) : Apart S A vs := fun hne ad e hs => by
  obtain ⟨ad', e', hl⟩ := h.lt (List.length_pos_iff.2 hne)
  rw [e] at e'
  injection e' with e'
  subst e'
  have := hS _ hs
  omega
/-- What could be read in an elder world can be read now. -/
theorem Rd.later (h : Rd w A vs) (hc : Chg nowhere w w') : Rd w' A vs := h.chg hc (Apart.none A vs)
theorem Rd.drewN (h : Rd w A vs) (n : Nat) : Rd (w.drewN n) A vs := h
theorem Rd.alloc (h : Rd w A vs) (o : Obj) : Rd (w.alloc o) A vs := fun k u hk => by
  obtain ⟨ad, rfl, hcell⟩ := h k u hk
  exact ⟨ad, rfl, by rw [World.cell?_alloc_lt w o _ (World.block_lt_of_cell? w _ hcell)]; exact hcell⟩
theorem Rd.setCell (h : Rd w A vs) {p : Addr} (u : Value) (hp : ∀ ad, A = some ad → ad.block ≠ p.block) : Rd (w.setCell p u) A vs := fun k u' hk => by
  obtain ⟨ad, rfl, hcell⟩ := h k u' hk
  exact ⟨ad, rfl, by rw [World.cell?_setCell_other w p _ u (fun e => hp ad rfl (by rw [← block_of_add ad k, e]))]; exact hcell⟩
theorem Rd.drop (h : Rd w A vs) (n : Nat) : Rd w (A.map (·.add n)) (vs.drop n) := fun k u hk => by
  obtain ⟨ad, rfl, hc⟩ := h (n + k) u (by rwa [List.getElem?_drop] at hk)
  exact ⟨ad.add n, rfl, by rw [add_of_add]; exact hc⟩
theorem Rd.take (h : Rd w A vs) (n : Nat) : Rd w A (vs.take n) := fun k u hk => h k u (by
  rw [List.getElem?_take] at hk; split at hk <;> simp_all)
end

theorem Rd.lit (w : World) (l : List Value) (e : TypeId) {f : Nat × Nat} : Rd (w.alloc (.cells l.toArray e f)) (some ⟨w.heap.size, 0, none⟩) l := fun k u hk =>
  ⟨_, rfl, by rw [add_row, (show (w.alloc (.cells l.toArray e f)).cell? ⟨w.heap.size, k, none⟩ = l.toArray[k]? from cell_of_row _ _ k _ e f (heap_alloc_new w _))]; simpa using hk⟩
theorem Rd.lit' (w : World) (z : Nat) (l : List Value) (e : TypeId) {f : Nat × Nat} (hz : z = w.heap.size) : Rd (w.alloc (.cells l.toArray e f)) (some ⟨z, 0, none⟩) l := by
  subst hz
  exact Rd.lit w l e

/-- A row of the call's own: it begins at a block's head; nobody else writes there. -/
def Own (w : World) (e : TypeId) (size : Nat) (A : Option Addr) (n c : Nat) (xs : List Value) : Prop := w.ownsRow 0 e size (.slice A n c) n xs

/-- A block known whole. -/
def Blk (w : World) (g : Nat) (t : TypeId) (cs : Array Value) : Prop := w.heap[g]? = some (.cells cs t (0, 0))

section
variable {S : Nat → Prop} {w w' : World} {g : Nat} {t : TypeId} {cs : Array Value}
theorem Blk.lt (h : Blk w g t cs) : g < w.heap.size := lt_of_block h
theorem Blk.cell (h : Blk w g t cs) (i : Nat) : w.cell? ⟨g, i, none⟩ = cs[i]? := cell_of_row w g i cs t (0, 0) h
theorem Blk.frozen (h : Blk w g t cs) (i : Nat) : w.frozen? ⟨g, i, none⟩ = false := by
  unfold Blk at h
  simp [World.frozen?, h]
theorem Blk.new (w : World) (t : TypeId) (cs : Array Value) : Blk (w.alloc (.cells cs t)) w.heap.size t cs := heap_alloc_new w _
theorem Blk.drewN (h : Blk w g t cs) (n : Nat) : Blk (w.drewN n) g t cs := h
theorem Blk.alloc (h : Blk w g t cs) (o : Obj) : Blk (w.alloc o) g t cs := (Below.heap_alloc w o g h.lt).trans h
theorem Blk.set_ (h : Blk w g t cs) (i : Nat) (u : Value) : Blk (w.setCell ⟨g, i, none⟩ u) g t (cs.setIfInBounds i u) := by
  unfold Blk at h ⊢
  simp [World.setCell, Array.getElem?_modify, h]
theorem Blk.far (h : Blk w g t cs) {p : Addr} (hp : g ≠ p.block) (u : Value) : Blk (w.setCell p u) g t cs := (Below.heap_setCell w p u g hp).trans h
theorem Blk.chg (h : Blk w g t cs) (hc : Chg S w w') (hS : ¬ S g) : Blk w' g t cs := (hc.block g h.lt hS).trans h
theorem Blk.ne_ {g' : Nat} {t' : TypeId} {cs' : Array Value} (h : Blk w g t cs) (h' : Blk w g' t' cs') (hne : t ≠ t') : g ≠ g' := by
  rintro rfl
  unfold Blk at h h'
  rw [h] at h'
  injection h' with h'
  injection h' with _ ht
  exact hne ht
end

section
variable {S : Nat → Prop} {w w' : World} {e : TypeId} {size n c : Nat} {A : Option Addr} {xs : List Value}
theorem Own.len (h : Own w e size A n c xs) : xs.length = n * size := h.1
theorem Own.nil (w : World) (e : TypeId) (size : Nat) : Own w e size none 0 0 [] := World.ownsRow_nil w 0 e size
theorem Own.rd (h : Own w e size A n c xs) : Rd w A xs := fun k u hk => by
  rcases h.2 with ⟨e, hn⟩ | ⟨g, cap, cur, hv, _⟩
  · have hl := h.1
    rw [hn] at hl
    have : xs = [] := List.eq_nil_of_length_eq_zero (by simpa using hl)
    subst this
    simp at hk
  · have hA : A = some ⟨g, 0, none⟩ := by injection hv
    subst hA
    exact ⟨_, rfl, World.ownsRow.cells (h : w.ownsRow 0 e size (.slice (some ⟨g, 0, none⟩) n c) n xs) (g := g) rfl k u hk⟩
theorem Own.chg (h : Own w e size A n c xs) (hc : Chg S w w') (hS : ∀ ad, A = some ad → ¬ S ad.block) : Own w' e size A n c xs := by
  obtain ⟨h1, h2⟩ := h
  refine ⟨h1, ?_⟩
  rcases h2 with h2 | ⟨g, cap, cur, hv, hg, hh, r⟩
  · exact .inl h2
  · have hA : A = some ⟨g, 0, none⟩ := by injection hv
    exact .inr ⟨g, cap, cur, hv, hg, (hc.block g (lt_of_block hh) (hS _ hA)).trans hh, r⟩
theorem Own.lt (h : Own w e size A n c xs) {ad : Addr} (hA : A = some ad) : ad.block < w.heap.size := by
  subst hA
  exact (World.ownsRow.lt h ad.block rfl).2
theorem Own.form (h : Own w e size A n c xs) : (A = none ∧ n = 0 ∧ c = 0 ∧ xs = []) ∨ ∃ g cur, A = some ⟨g, 0, none⟩ ∧ Blk w g e cur ∧ n ≤ c ∧ c ≤ maxLen ∧ cur.size = c * size ∧ cur.toList.take (n * size) = xs := by
  obtain ⟨h1, h2⟩ := h
  rcases h2 with ⟨hv, hn⟩ | ⟨g, cap, cur, hv, hg, hh, h3, h4, h5, h6⟩
  · injection hv with ha _ hc
    subst hn
    exact .inl ⟨ha, rfl, hc, List.eq_nil_of_length_eq_zero (by simpa using h1)⟩
  · injection hv with ha _ hc
    subst hc
    exact .inr ⟨g, cur, ha, hh, h3, h4, h5, h6⟩
theorem Own.of_blk {g : Nat} {cur : Array Value} (hb : Blk w g e cur) (hn : n ≤ c) (hm : c ≤ maxLen) (hs : cur.size = c * size) (hx : cur.toList.take (n * size) = xs) :
    Own w e size (some ⟨g, 0, none⟩) n c xs :=
  ⟨by rw [← hx, List.length_take, Array.length_toList, hs, Nat.min_eq_left (Nat.mul_le_mul_right _ hn)], .inr ⟨g, c, cur, rfl, Nat.zero_le _, hb, hn, hm, hs, hx⟩⟩
theorem Own.drewN (h : Own w e size A n c xs) (k : Nat) : Own (w.drewN k) e size A n c xs := h
theorem Own.alloc (h : Own w e size A n c xs) (o : Obj) : Own (w.alloc o) e size A n c xs := World.ownsRow.alloc h o
theorem Own.new (w : World) (e : TypeId) (size n : Nat) (cs : Array Value) (hm : n ≤ maxLen) (hs : cs.size = n * size) :
    Own (w.alloc (.cells cs e)) e size (some ⟨w.heap.size, 0, none⟩) n n cs.toList :=
  Own.of_blk (Blk.new w e cs) (Nat.le_refl _) hm hs (by rw [← hs, ← Array.length_toList, List.take_length])
theorem Own.far (h : Own w e size A n c xs) {p : Addr} (hp : ∀ ad, A = some ad → ad.block ≠ p.block) (u : Value) : Own (w.setCell p u) e size A n c xs :=
  h.chg (S := fun k => k = p.block) ⟨rfl, rfl, rfl, by simp [World.setCell], fun k _ hn => Below.heap_setCell _ _ _ _ hn⟩ hp
/-- A part from the front. -/
theorem Own.cutTo (h : Own w e size A n c xs) {m : Nat} (hm : m ≤ n) : Own w e size A m c (xs.take (m * size)) := by
  rcases h.form with ⟨rfl, rfl, rfl, rfl⟩ | ⟨g, cur, rfl, hb, h3, h4, h5, h6⟩
  · obtain rfl : m = 0 := by omega
    simpa using Own.nil w e size
  · refine Own.of_blk hb (by omega) h4 h5 ?_
    rw [← h6, List.take_take, Nat.min_eq_left (Nat.mul_le_mul_right _ hm)]
end

/-- The blocks that a header at block g and its row at A take. -/
def Wf (g : Nat) (A : Option Addr) : Nat → Prop := fun k => k = g ∨ ∃ ad, A = some ad ∧ ad.block = k
/-- The row is where it was, or in a new block. -/
def Moved (w : World) (A A' : Option Addr) : Prop := A' = A ∨ ∃ ad, A' = some ad ∧ w.heap.size ≤ ad.block
theorem Moved.refl (w : World) (A : Option Addr) : Moved w A A := .inl rfl
theorem Moved.trans {w w1 : World} {A A1 A2 : Option Addr} (h : Moved w A A1) (hz : w.heap.size ≤ w1.heap.size) (k : Moved w1 A1 A2) : Moved w A A2 := by
  rcases k with rfl | ⟨ad, rfl, hk⟩
  · exact h
  · exact .inr ⟨ad, rfl, by omega⟩
theorem wf_trans {w w1 w2 : World} {g : Nat} {A A1 A2 : Option Addr} (h : Chg (Wf g A) w w1) (m : Moved w A A1) (h2 : Chg (Wf g A1) w1 w2) (m2 : Moved w1 A1 A2) :
    Chg (Wf g A) w w2 ∧ Moved w A A2 := by
  refine ⟨h.trans h2 (fun x hx hT => ?_), m.trans h.size m2⟩
  rcases hT with rfl | ⟨ad, rfl, rfl⟩
  · exact .inl rfl
  · rcases m with rfl | ⟨ad', h3, h4⟩
    · exact .inr ⟨ad, rfl, rfl⟩
    · injection h3 with h3
      subst h3
      omega
theorem wf_far {w : World} {g : Nat} {A A1 : Option Addr} (m : Moved w A A1) (hg : g < w.heap.size) (hf : ∀ ad, A = some ad → ad.block ≠ g) : ∀ ad, A1 = some ad → ad.block ≠ g := by
  rintro ad rfl
  rcases m with rfl | ⟨ad', h3, h4⟩
  · exact hf ad rfl
  · injection h3 with h3
    subst h3
    omega

theorem wf_new (g : Nat) : ∀ k, Wf g none k → g ≤ k := by
  rintro k (rfl | ⟨ad, h, _⟩)
  · exact Nat.le_refl _
  · cases h
theorem Chg.step {S : Nat → Prop} {w a b : World} (h : Chg nowhere w a) (k : Chg S a b) (hS : ∀ x, S x → w.heap.size ≤ x) : Chg nowhere w b :=
  h.trans k (fun x hx hs => by have := hS x hs; omega)
theorem wf_ge {B g : Nat} {w : World} {A A' : Option Addr} (h : ∀ k, Wf g A k → B ≤ k) (hz : B ≤ w.heap.size) (m : Moved w A A') : ∀ k, Wf g A' k → B ≤ k := by
  rintro k (rfl | ⟨ad, rfl, rfl⟩)
  · exact h _ (.inl rfl)
  · rcases m with rfl | ⟨ad', h3, h4⟩
    · exact h _ (.inr ⟨ad, rfl, rfl⟩)
    · injection h3 with h3
      subst h3
      omega

/-- What the table says of an element type. -/
structure Elem (P : Program) (t e : TypeId) (size bytes : Nat) (z : Value) : Prop where
  under : P.underlying t = some (.slice e)
  info : (P.info? e).map (fun i => (i.zero, i.size, i.bytes)) = some (some z, size, bytes)
  zsize : z.cells.size = size
  pos : 0 < size

section
variable {P : Program} {w : World} {t e : TypeId} {size bytes : Nat} {z : Value}
theorem run_append_Own (E : Elem P t e size bytes z) (ty : TypeId) {A : Option Addr} {n c : Nat} {xs : List Value} (hown : Own w e size A n c xs)
    {A2 : Option Addr} {m c2 : Nat} {news : List Value} (hr : Rd w A2 news) (hl : news.length = m * size) (h1 : ∀ u ∈ news, u.oneCell' = true)
    (h63 : n + m ≤ maxLen) (hbytes : (n + m) * bytes ≤ 140737488355328) (hnil : A2 = none → m = 0) :
    ∃ A' c' w', (Builtin.append_ #[t, t] ty #[.slice A n c, .slice A2 m c2]).run P w = .ok (.slice A' (n + m) c') w' ∧ Own w' e size A' (n + m) c' (xs ++ news) ∧
      Chg (fun k => ∃ ad, A = some ad ∧ ad.block = k) w w' ∧ (A' = A ∨ A' = some ⟨w.heap.size, 0, none⟩) := by
  obtain ⟨i, hi, hz, hs, hb⟩ := info_parts E.info
  rcases A2 with _ | ad2
  · obtain rfl := hnil rfl
    have hn : news = [] := List.eq_nil_of_length_eq_zero (by simpa using hl)
    subst hn
    refine ⟨A, c, w, ?_, by simpa using hown, Chg.refl _ _, .inl rfl⟩
    rcases hown.form with ⟨rfl, rfl, rfl, rfl⟩ | ⟨g, cur, rfl, _, h3, _⟩
    · simp [Builtin.append_, run_underlying E.under, sizeOf, typeInfo, hi, Builtin.lenOf, Builtin.firstCells]
    · simp [Builtin.append_, run_underlying E.under, sizeOf, typeInfo, hi, Builtin.lenOf, Builtin.firstCells, h3, storeCells]
  · have hcells : ∀ j u, news[j]? = some u → w.cell? (ad2.add j) = some u := fun j u hu => by
      obtain ⟨ad', h, hc⟩ := hr j u hu
      injection h with h
      subst h
      exact hc
    obtain ⟨v', w', hrun, h2, h3, h4, h5⟩ := run_append_own_at (P := P) w 0 t ty e i z size bytes E.under hi hz hs hb E.zsize E.pos (.slice A n c) n xs hown ad2 m c2 news hl hcells h1 h63 hbytes (Nat.zero_le _)
    have hform : ∃ A' c', v' = .slice A' (n + m) c' ∧ (A' = A ∨ A' = some ⟨w.heap.size, 0, none⟩) := by
      rcases h2.2 with ⟨rfl, hn⟩ | ⟨g, cap, cur, rfl, _⟩
      · rw [hn]
        refine ⟨none, 0, rfl, ?_⟩
        obtain ⟨h6, _⟩ := h4.1 rfl
        injection h6 with h6
        exact .inl h6.symm
      · refine ⟨_, cap, rfl, ?_⟩
        rcases h5 with h5 | h5
        · rcases A with _ | ad
          · simp [Value.ownBlock] at h5
          · rcases hown.form with ⟨h, _⟩ | ⟨g', cur', h, _⟩
            · cases h
            · injection h with h
              subst h
              simp [Value.ownBlock] at h5
              subst h5
              exact .inl rfl
        · simp [Value.ownBlock] at h5
          subst h5
          exact .inr rfl
    obtain ⟨A', c', rfl, h6⟩ := hform
    refine ⟨A', c', w', hrun, h2, (Chg.of_grown h3).mono (fun x _ hx => ?_), h6⟩
    rcases A with _ | ad
    · simp [Value.ownBlock] at hx
    · exact ⟨ad, rfl, by simpa [Value.ownBlock] using hx⟩

theorem wp_append_Own {o : Oper} {a : Act} {K : Act → World → Prop} {Q : Exit → Act → World → Prop} (s x : Operand) (E : Elem P t e size bytes z)
    (ho : o.op = .call { callee := .builtin .append, args := #[s, x], argTypes := #[t, t] })
    {A : Option Addr} {n c : Nat} {xs : List Value} (hs : a.eval s = .slice A n c) (hown : Own w e size A n c xs)
    {A2 : Option Addr} {m c2 : Nat} {news : List Value} (hx : a.eval x = .slice A2 m c2) (hr : Rd w A2 news) (hl : news.length = m * size) (h1 : ∀ u ∈ news, u.oneCell' = true)
    (h63 : n + m ≤ maxLen) (hbytes : (n + m) * bytes ≤ 140737488355328) (hnil : A2 = none → m = 0)
    (h : ∀ A' c' w', Own w' e size A' (n + m) c' (xs ++ news) → Chg (fun k => ∃ ad, A = some ad ∧ ad.block = k) w w' → (A' = A ∨ A' = some ⟨w.heap.size, 0, none⟩) → K (a.put o.dst (.slice A' (n + m) c')) w') : o.wp P a w K Q := by
  obtain ⟨A', c', w', hrun, h2, h3, h4⟩ := run_append_Own (P := P) E o.type hown hr hl h1 h63 hbytes hnil (c2 := c2)
  unfold Oper.wp execOp
  simp only [ho, resolve, invoke, builtin, Sem.run_bind, Sem.run_pure, Result.andThen_ok, List.map_toArray, List.map_cons, List.map_nil, hs, hx, hrun]
  exact h A' c' w' h2 h3 h4

theorem wpList_append_Own {ops : Array Oper} {rest : List Oper} {o : Oper} {a : Act} {Q : Exit → Act → World → Prop} (hgd : o.guard = none) (s x : Operand) (E : Elem P t e size bytes z)
    (ho : o.op = .call { callee := .builtin .append, args := #[s, x], argTypes := #[t, t] })
    {A : Option Addr} {n c : Nat} {xs : List Value} (hs : a.eval s = .slice A n c) (hown : Own w e size A n c xs)
    {A2 : Option Addr} {m c2 : Nat} {news : List Value} (hx : a.eval x = .slice A2 m c2) (hr : Rd w A2 news) (hl : news.length = m * size) (h1 : ∀ u ∈ news, u.oneCell' = true)
    (h63 : n + m ≤ maxLen) (hbytes : (n + m) * bytes ≤ 140737488355328) (hnil : A2 = none → m = 0)
    (h : ∀ A' c' w', Own w' e size A' (n + m) c' (xs ++ news) → Chg (fun k => ∃ ad, A = some ad ∧ ad.block = k) w w' → (A' = A ∨ A' = some ⟨w.heap.size, 0, none⟩) → wpList P ops Q rest (a.put o.dst (.slice A' (n + m) c')) w') : wpList P ops Q (o :: rest) a w :=
  wpList_plain hgd fun _ hK => wp_append_Own s x E ho hs hown hx hr hl h1 h63 hbytes hnil fun A' c' w' h2 h3 h4 => hK _ _ (h A' c' w' h2 h3 h4)
end

/-- No row here is ever longer. -/
def lim : Nat := 100000000000000
theorem lim_le {n : Nat} (h : Hid (n ≤ lim)) : n ≤ 100000000000000 := h
theorem hid_lim {n : Nat} (h : n ≤ 100000000000000) : Hid (n ≤ lim) := h
theorem one_of_forall {p : Value → Prop} {v : Value} (h : p v) : ∀ u ∈ [v], p u := by
  intro u hu
  rw [List.mem_singleton.1 hu]
  exact h
/-- One cell behind a row of one-cell elements (of at most one byte each). -/
theorem wpList_append_one {P : Program} {w : World} {t e : TypeId} {z : Value} {ops : Array Oper} {rest : List Oper} {o : Oper} {a : Act} {Q : Exit → Act → World → Prop} (hgd : o.guard = none) (s x : Operand) {bytes : Nat} (E : Elem P t e 1 bytes z)
    (ho : o.op = .call { callee := .builtin .append, args := #[s, x], argTypes := #[t, t] }) (hby : bytes ≤ 1)
    {A : Option Addr} {n c : Nat} {xs : List Value} (hs : a.eval s = .slice A n c) (hown : Own w e 1 A n c xs)
    {ad : Addr} {c2 : Nat} {v : Value} (hx : a.eval x = .slice (some ad) 1 c2) (hr : Rd w (some ad) [v]) (h1 : v.oneCell' = true) (hb : Hid (n + 1 ≤ lim))
    (h : ∀ A' c' w', Own w' e 1 A' (n + 1) c' (xs ++ [v]) → Chg (fun k => ∃ ad, A = some ad ∧ ad.block = k) w w' → (A' = A ∨ A' = some ⟨w.heap.size, 0, none⟩) → wpList P ops Q rest (a.put o.dst (.slice A' (n + 1) c')) w') : wpList P ops Q (o :: rest) a w :=
  wpList_append_Own hgd s x E ho hs hown hx hr rfl (one_of_forall h1) (by have := lim_le hb; unfold maxLen; omega)
    (by have := lim_le hb; have := Nat.mul_le_mul_left (n + 1) hby; omega) (fun h => by cases h) h
/-- A row of bytes behind a row of bytes. -/
theorem wpList_append_many {P : Program} {w : World} {t e : TypeId} {z : Value} {ops : Array Oper} {rest : List Oper} {o : Oper} {a : Act} {Q : Exit → Act → World → Prop} (hgd : o.guard = none) (s x : Operand) {bytes : Nat} (E : Elem P t e 1 bytes z)
    (ho : o.op = .call { callee := .builtin .append, args := #[s, x], argTypes := #[t, t] }) (hby : bytes ≤ 1)
    {A : Option Addr} {n c : Nat} {xs : List Value} (hs : a.eval s = .slice A n c) (hown : Own w e 1 A n c xs)
    {A2 : Option Addr} {m c2 : Nat} {vs : List Value} (hx : a.eval x = .slice A2 m c2) (hr : Rd w A2 vs) (hl : Hid (vs.length = m)) (h1 : ∀ u ∈ vs, u.oneCell' = true) (hb : Hid (n + m ≤ lim))
    (h : ∀ A' c' w', Own w' e 1 A' (n + m) c' (xs ++ vs) → Chg (fun k => ∃ ad, A = some ad ∧ ad.block = k) w w' → (A' = A ∨ A' = some ⟨w.heap.size, 0, none⟩) → wpList P ops Q rest (a.put o.dst (.slice A' (n + m) c')) w') : wpList P ops Q (o :: rest) a w :=
  wpList_append_Own hgd s x E ho hs hown hx hr (by rw [hl.out, Nat.mul_one]) h1 (by have := lim_le hb; unfold maxLen; omega)
    (by have := lim_le hb; have := Nat.mul_le_mul_left (n + m) hby; omega) (fun e => by
      subst e
      have := hl.out
      rcases vs with _ | ⟨v, vs⟩
      · simpa using this.symm
      · obtain ⟨ad, h, _⟩ := hr 0 v rfl
        cases h) h

/-- Bytes as cells. -/
def u8v (b : UInt8) : Value := .int .u8 b.toNat
def bs (xs : List UInt8) : List Value := xs.map u8v
theorem bs_length (xs : List UInt8) : (bs xs).length = xs.length := List.length_map _
theorem bs_append (xs ys : List UInt8) : bs xs ++ bs ys = bs (xs ++ ys) := List.map_append.symm
theorem bs_one (xs : List UInt8) : ∀ u ∈ bs xs, u.oneCell' = true := by
  intro u hu
  obtain ⟨b, _, rfl⟩ := List.mem_map.1 hu
  rfl
theorem bs_take (xs : List UInt8) (n : Nat) : (bs xs).take n = bs (xs.take n) := List.map_take.symm
theorem bs_inj {xs ys : List UInt8} (h : bs xs = bs ys) : xs = ys := by
  refine List.map_inj_right (fun a b h => ?_) |>.1 h
  simpa [u8v, UInt8.toNat_inj, Int.ofNat_inj] using h
theorem Rd.byte {w : World} {A : Option Addr} {xs : List UInt8} (h : Rd w A (bs xs)) {k : Nat} (hk : k < xs.length) :
    ∃ ad b, A = some ad ∧ xs[k]? = some b ∧ w.cell? (ad.add k) = some (.int .u8 b.toNat) := by
  obtain ⟨ad, hA, hc⟩ := h k (u8v xs[k]) (by simp [bs, hk])
  exact ⟨ad, xs[k], hA, by simp [hk], hc⟩
/-- what a list of rows holds: each a slice header -/
structure Row where
  A : Option Addr
  c : Nat
  p : List UInt8
def Row.v (r : Row) : Value := .slice r.A r.p.length r.c
def rowsV (l : List Row) : List Value := l.map Row.v
/-- the rows' bytes can be read -/
def RowsOk (w : World) (l : List Row) : Prop := ∀ r ∈ l, Rd w r.A (bs r.p)
def RowsApart (S : Nat → Prop) (l : List Row) : Prop := ∀ r ∈ l, Apart S r.A (bs r.p)
theorem RowsOk.chg {S : Nat → Prop} {w w' : World} {l : List Row} (h : RowsOk w l) (hc : Chg S w w') (ha : RowsApart S l) : RowsOk w' l := fun r hr => (h r hr).chg hc (ha r hr)
theorem RowsOk.later {w w' : World} {l : List Row} (h : RowsOk w l) (hc : Chg nowhere w w') : RowsOk w' l := fun r hr => (h r hr).later hc
theorem RowsOk.apart {S : Nat → Prop} {w : World} {l : List Row} (h : RowsOk w l) (hS : ∀ k, S k → w.heap.size ≤ k) : RowsApart S l := fun r hr => (h r hr).apart hS
end Go.Proofs.YthoipeamdolfgaaDoor
