/- RowE, SnM, RoA, RoR -/
import Derived.Test.YthcleccofccbdaaGreatTyBase
import Derived.Test.YthcleccofccbdaaGreatTyTkM
import Derived.Test.YthcleccofccbdaaGreatTyHasW
import Derived.Test.YthcleccofccbdaaGreatTyWsB
import Derived.Test.YthcleccofccbdaaGreatTyRrC
section
open Go Go.RowKit
namespace Go.Proofs.YthcleccofccbdaaGreat
def gt {α : Type} [RowC α] (l : List α) (k : Nat) : α := l.getD k RowC.zero
theorem gt_mem {α : Type} [RowC α] (l : List α) (k : Nat) (h : k < l.length) : gt l k ∈ l := by
  simp [gt, List.getD_eq_getElem?_getD, h]
theorem enc_sz {α : Type} [RowC α] (a : α) {n : Nat} (h : RowC.size α = n) : (RowC.enc a).toArray.size = n := by
  simp [RowC.len, h]
theorem enc_one {α : Type} [RowC α] (a : α) : (RowC.enc a).toArray.all (·.oneCell') = true := by
  rw [Array.all_eq_true_iff_forall_mem]
  intro x hx
  exact RowC.one a x (by simpa using hx)
section
variable {P : Program} {ops : Array Oper} {rest : List Oper} {a : Act} {w : World} {Q : Exit → Act → World → Prop} {dst : Option Tmp} {ty : TypeId} {pos : String} {after : Array Edge} {gd : Option (Nat × Bool)}
/-- the address of an element -/
theorem ev_indexE {α : Type} [RowC α] {t : TypeId} {x ix : Operand} {A : Option Addr} {n c k : Nat} (hx : a.eval x = .slice A n c) (hi : a.eval ix = .int .i64 (k : Int)) {e : TypeId} {size bytes : Nat} {z : Value} (E : ElemT P t e size bytes z)
    {l : List α} (hr : HR w A (cellsOf l)) (hl : l.length = n) (hs : RowC.size α = size) (hp : 0 < size) (h1 : k < n) :
    (execOp a.eval ⟨dst, .indexAddr t x ix, ty, pos, after, gd⟩).run P w = .ok (.value (ptrOf A (k * size))) w := by
  obtain ⟨ad, hA, _⟩ := hr.out.lt (by rw [cellsOf_len, hs, hl]; exact Nat.mul_pos (by omega) hp)
  obtain ⟨ti, hti, hz, hsz, hb⟩ := info_parts E.out.info
  show ((Instr.indexAt t (a.eval x) (a.eval ix)) >>= fun v => pure (Next.value v)).run P w = _
  rw [hx, hi, hA]
  simp [Instr.indexAt, asIntOf, run_underlying E.out.under, sizeOf, typeInfo, hti, hsz, h1, ptrOf, shift]
/-- a whole element -/
theorem ev_loadE {α : Type} [RowC α] {t : TypeId} {x : Operand} {A : Option Addr} {k n : Nat} (ht : RowT P t n) (hx : a.eval x = ptrOf A (k * n)) {l : List α} (hr : HR w A (cellsOf l)) (hs : RowC.size α = n) (hp : 0 < n) (hk : k < l.length) :
    (execOp a.eval ⟨dst, .load t x, ty, pos, after, gd⟩).run P w = .ok (.value (.agg (RowC.enc (gt l k)).toArray)) w := by
  show ((Instr.loadAt t (a.eval x)) >>= fun v => pure (Next.value v)).run P w = _
  subst hs
  rw [hx, Sem.run_bind, run_loadshift (k := k * RowC.size α) (cs := RowC.enc (gt l k)) hr.out ht (RowC.len _) (cellsOf_at l k hk) hp]
  rfl
/-- the address of a field of an element -/
theorem ev_fieldE {t : TypeId} {x : Operand} {i : Nat} {A : Option Addr} {k : Nat} {fs : Array Field} {f : Field} (hu : P.underlying t = some (.struct fs)) (hf : fs[i]? = some f) (hz : (P.info? f.type).map (fun i => decide (i.size = 0)) = some false) (hx : a.eval x = ptrOf A k) {vs : List Value} (hr : HR w A vs) (hl : 0 < vs.length) :
    (execOp a.eval ⟨dst, .fieldAddr t x i, ty, pos, after, gd⟩).run P w = .ok (.value (ptrOf A (k + f.offset))) w := by
  obtain ⟨ad, rfl, _⟩ := hr.out.lt hl
  show ((Instr.fieldAt t (a.eval x) i) >>= fun v => pure (Next.value v)).run P w = _
  rw [hx]
  cases hq : P.info? f.type with
  | none => rw [hq] at hz; simp at hz
  | some inf =>
    rw [hq] at hz
    simp at hz
    simp [Instr.fieldAt, run_underlying hu, hf, ptrOf, shift, Instr.sureAddr, fieldPlace, sizeOf, typeInfo, hq, hz, add_of_add]
/-- a field of an element -/
theorem ev_loadF {α : Type} [RowC α] {t : TypeId} {x : Operand} {A : Option Addr} {k j s : Nat} (ht : CellT P t) (hx : a.eval x = ptrOf A (k * s + j)) {l : List α} (hr : HR w A (cellsOf l)) (hs : RowC.size α = s) (hk : k < l.length) {v : Value} (hv : nth (RowC.enc (gt l k)) j = some v) :
    (execOp a.eval ⟨dst, .load t x, ty, pos, after, gd⟩).run P w = .ok (.value v) w := by
  subst hs
  rw [← nth_get] at hv
  have hj : j < RowC.size α := by
    have := (List.getElem?_eq_some_iff.1 hv).1
    rwa [RowC.len] at this
  have hat := cellsOf_at l k hk
  have hv2 : (cellsOf l)[k * RowC.size α + j]? = some v := by
    have h1 : (((cellsOf l).drop (k * RowC.size α)).take (RowC.size α))[j]? = (RowC.enc (gt l k))[j]? := by rw [hat]; rfl
    rw [List.getElem?_take, if_pos hj, List.getElem?_drop] at h1
    rw [h1, hv]
  obtain ⟨ad, rfl, hc⟩ := hr.out _ _ hv2
  show ((Instr.loadAt t (a.eval x)) >>= fun v => pure (Next.value v)).run P w = _
  rw [hx]
  simp [ptrOf, shift, Instr.loadAt, Instr.sureAddr, loadVar, ht.agg w, hc]
end
theorem cells_pos {α : Type} [RowC α] {l : List α} (hp : 0 < RowC.size α) (h : 0 < l.length) : 0 < (cellsOf l).length := by
  rw [cellsOf_len]
  exact Nat.mul_pos h hp
section
variable {P : Program} {ops : Array Oper} {rest : List Oper} {a : Act} {w : World} {Q : Exit → Act → World → Prop} {dst : Option Tmp} {ty : TypeId} {pos : String} {after : Array Edge}
theorem wpl_indexE {α : Type} [RowC α] {t : TypeId} {x ix : Operand} {A : Option Addr} {n c k : Nat} (hx : a.eval x = .slice A n c) (hi : a.eval ix = .int .i64 (k : Int)) {e : TypeId} {size bytes : Nat} {z : Value} (E : ElemT P t e size bytes z)
    {l : List α} (hr : HR w A (cellsOf l)) (hl : l.length = n) (hs : RowC.size α = size) (hp : 0 < size) (h1 : k < n)
    (h : wpList P ops Q rest (a.put dst (ptrOf A (k * size))) w) : wpList P ops Q (⟨dst, .indexAddr t x ix, ty, pos, after, none⟩ :: rest) a w := wpl_of_run rfl (ev_indexE hx hi E hr hl hs hp h1) h
theorem wpl_loadE {α : Type} [RowC α] {t : TypeId} {x : Operand} {A : Option Addr} {k n : Nat} (ht : RowT P t n) (hx : a.eval x = ptrOf A (k * n)) {l : List α} (hr : HR w A (cellsOf l)) (hs : RowC.size α = n) (hp : 0 < n) (hk : k < l.length)
    (h : wpList P ops Q rest (a.put dst (.agg (RowC.enc (gt l k)).toArray)) w) : wpList P ops Q (⟨dst, .load t x, ty, pos, after, none⟩ :: rest) a w := wpl_of_run rfl (ev_loadE ht hx hr hs hp hk) h
theorem wpl_fieldE {t : TypeId} {x : Operand} {i : Nat} {A : Option Addr} {k : Nat} {fs : Array Field} {f : Field} (hu : P.underlying t = some (.struct fs)) (hf : fs[i]? = some f) (hz : (P.info? f.type).map (fun i => decide (i.size = 0)) = some false) (hx : a.eval x = ptrOf A k) {vs : List Value} (hr : HR w A vs) (hl : 0 < vs.length)
    (h : wpList P ops Q rest (a.put dst (ptrOf A (k + f.offset))) w) : wpList P ops Q (⟨dst, .fieldAddr t x i, ty, pos, after, none⟩ :: rest) a w := wpl_of_run rfl (ev_fieldE hu hf hz hx hr hl) h
theorem wpl_loadF {α : Type} [RowC α] {t : TypeId} {x : Operand} {A : Option Addr} {k j s : Nat} (ht : CellT P t) (hx : a.eval x = ptrOf A (k * s + j)) {l : List α} (hr : HR w A (cellsOf l)) (hs : RowC.size α = s) (hk : k < l.length) {v : Value} (hv : nth (RowC.enc (gt l k)) j = some v)
    (h : wpList P ops Q rest (a.put dst v) w) : wpList P ops Q (⟨dst, .load t x, ty, pos, after, none⟩ :: rest) a w := wpl_of_run rfl (ev_loadF ht hx hr hs hk hv) h
end
end Go.Proofs.YthcleccofccbdaaGreat
end
section
open Go Go.RowKit
namespace Go.Proofs.YthcleccofccbdaaGreat
/-- a pin: its name's bytes, its version -/
structure PinR where
  l : List UInt8
  v : Int
instance rowCPin : RowC PinR := ⟨2, fun p => [.string (strL p.l), .int .i64 p.v], fun _ => rfl, fun p u hu => by
  simp only [List.mem_cons, List.not_mem_nil, or_false] at hu
  rcases hu with rfl | rfl <;> rfl, ⟨[], 0⟩⟩
def pinTk (s : RS) : PinR × RS := (⟨s.row.1, (s.row.2.num.1 : Nat)⟩, s.row.2.num.2)
def pinE (p : PinR) : List UInt8 := encRow p.l ++ encAll [p.v]
theorem pinTakes : Takes pinTk pinE := ⟨fun s => Nat.le_trans (RS.num_le _) (RS.row_le s), fun s h => by
  obtain ⟨a1, a2, a3⟩ := num_back (s := s.row.2) h
  obtain ⟨b1, b2⟩ := row_back (s := s) a1
  refine ⟨b1, ?_⟩
  show s.b = (encRow s.row.1 ++ encAll [(s.row.2.num.1 : Int)]) ++ s.row.2.num.2.b
  rw [encN a3, List.append_assoc, ← a2]
  exact b2⟩
def pinOk (p : PinR) : Bool := nameL p.l && verB p.v
def pinLt (a b : PinR) : Bool := Op.bytesLess a.l b.l
/-- each above the one ahead of it, of the first -/
def riseB (P : List PinR) : Nat → Bool
  | 0 => true
  | k + 1 => riseB P k && (decide (k = 0) || pinLt (gt P (k - 1)) (gt P k))
theorem riseB_no (P : List PinR) (k : Nat) (h : riseB P k = false) : ∀ n, k ≤ n → riseB P n = false
  | 0, hn => by
    obtain rfl : k = 0 := by omega
    exact h
  | n + 1, hn => by
    by_cases e : k = n + 1
    · subst e; exact h
    · rw [riseB, riseB_no P k h n (by omega), Bool.false_and]
def snapOk (v e : Int) (P : List PinR) : Bool := verB v && numB e && decide (P.length ≤ 16) && P.all pinOk && riseB P P.length
/-- a snapshot's bytes -/
def pinsE (P : List PinR) : List UInt8 := P.flatMap pinE
def snapE (v e : Int) (P : List PinR) : List UInt8 := encAll [3] ++ (encAll [v, e] ++ (encAll [(P.length : Int)] ++ pinsE P))
def snV (b : List UInt8) : Nat := (kindS 3 b).num.1
def snX (b : List UInt8) : Nat := ((kindS 3 b).at 1).num.1
def snS (b : List UInt8) : RS := (kindS 3 b).at 2
def snP (b : List UInt8) : List PinR := lstL pinTk 16 (snS b)
def snR (b : List UInt8) : RS := lstS pinTk 16 (snS b)
def snOk (b : List UInt8) : Bool := wholeB (snR b) && snapOk (snV b) (snX b) (snP b)
end Go.Proofs.YthcleccofccbdaaGreat
end
section
open Go Go.RowKit
namespace Go.Proofs.YthcleccofccbdaaGreat
/-- keys, and what their row holds -/
structure KR where
  A : Option Addr
  n : Nat
  c : Nat
  l : List H32
  need : Int
def KR.m (k : KR) : List H32 × Int := (k.l, k.need)
instance rowCKR : RowC KR := ⟨2, fun k => [.slice k.A k.n k.c, .int .i64 k.need], fun _ => rfl, fun k u hu => by
  simp only [List.mem_cons, List.not_mem_nil, or_false] at hu
  rcases hu with rfl | rfl <;> rfl, ⟨none, 0, 0, [], 0⟩⟩
structure KIn (w : World) (k : KR) : Prop where
  rd : Rd w k.A (cellsOf k.l)
  len : k.l.length = k.n
  cap : k.n ≤ k.c
  le : k.n ≤ 1000
theorem KIn.nw {w0 w : World} [n : Nw w0 w] {k : KR} (h : KIn w0 k) : KIn w k := ⟨h.rd.chg n.out (fun _ _ _ h => h), h.len, h.cap, h.le⟩
/-- the blocks that a row of digests lies in -/
def inRow (A : Option Addr) (l : List H32) : Nat → Prop := fun x => cellsOf l ≠ [] ∧ rowOf A x
theorem KIn.chg {S : Nat → Prop} {w0 w : World} {k : KR} (h : KIn w0 k) (hc : Chg S w0 w) (hS : ∀ x, inRow k.A k.l x → ¬ S x) : KIn w k := ⟨h.rd.chg hc (fun hne ad e hk => hS _ ⟨hne, ad, e, rfl⟩ hk), h.len, h.cap, h.le⟩
theorem KIn.low {w : World} {k : KR} (h : KIn w k) (x : Nat) (hx : inRow k.A k.l x) : x < w.heap.size := by
  obtain ⟨hne, ad, e, hk⟩ := hx
  rw [← hk]
  exact rd_lt h.rd hne e
instance elemKR : ElemT Tryz.prog 106 42 2 32 (.agg #[.slice none 0 0, .int .i64 0]) := ⟨⟨Tryz.underlying106, by kernel_rfl, rfl, by decide⟩⟩
instance rowTKeys : RowT Tryz.prog 42 2 := ⟨by kernel_rfl, _, Tryz.underlying42, rfl⟩
instance rowTRoot : RowT Tryz.prog 45 10 := ⟨by kernel_rfl, _, Tryz.underlying45, rfl⟩
instance cellKRs : CellT Tryz.prog 106 := ⟨fun _ => by kernel_rfl, fun _ => by kernel_rfl⟩
/-- a root's cells -/
def rtL (v e : Int) (K : List KR) : List Value := .int .i64 v :: .int .i64 e :: cellsOf K
theorem rtL_len (v e : Int) (K : List KR) (h : K.length = 4) : (rtL v e K).toArray.size = 10 := by
  show (rtL v e K).length = 10
  have h1 := cellsOf_len K
  rw [h] at h1
  have h2 : (cellsOf K).length = 8 := h1
  simp [rtL, h2]
theorem rtL_one (v e : Int) (K : List KR) : (rtL v e K).toArray.all (·.oneCell') = true := by
  rw [Array.all_eq_true_iff_forall_mem]
  intro u hu
  have hu' : u ∈ rtL v e K := by simpa using hu
  rcases List.mem_cons.1 hu' with rfl | hu'
  · rfl
  rcases List.mem_cons.1 hu' with rfl | hu'
  · rfl
  exact cellsOf_one K u hu'
def noKR : KR := ⟨none, 0, 0, [], 0⟩
def noK : List KR := [noKR, noKR, noKR, noKR]
theorem noKIn (w : World) : ∀ k ∈ noK, KIn w k := by
  intro k hk
  simp only [noK, List.mem_cons, List.not_mem_nil, or_false] at hk
  have : k = noKR := by rcases hk with h | h | h | h <;> exact h
  subst this
  exact ⟨Rd.nil _ _, rfl, Nat.le_refl _, by decide⟩
instance zeroRoot : ZeroT Tryz.prog 45 (rtL 0 0 noK).toArray := ⟨.agg (rtL 0 0 noK).toArray, fun _ => by kernel_rfl, rfl⟩
theorem root_tail {w : World} {z : Nat} {v e0 : Int} {K : List KR} {t : TypeId} (hb : HB w z t (rtL v e0 K).toArray) : HR w (some ⟨z, 2, none⟩) (cellsOf K) := ⟨by
  have h1 : Rd w (some ⟨z, 0, none⟩) (rtL v e0 K) := fun k u hk => by
    refine ⟨_, rfl, ?_⟩
    rw [add_row, hb.out.cell k]
    simpa using hk
  have h2 := h1.drop 2
  simpa [Addr.add, rtL] using h2⟩
section
variable {P : Program} {ops : Array Oper} {rest : List Oper} {a : Act} {w : World} {Q : Exit → Act → World → Prop} {dst : Option Tmp} {ty : TypeId} {pos : String} {after : Array Edge} {gd : Option (Nat × Bool)}
/-- an array of structs within a block as a slice -/
theorem ev_sl_arrS {t e : TypeId} {x : Operand} {g k m : Nat} (hx : a.eval x = .pointer (some ⟨g, k, none⟩)) (hu : P.underlying t = some (.array m e)) (hs : (P.info? e).map (·.size) = some 2) :
    (execOp a.eval ⟨dst, .slice t x none none none, ty, pos, after, gd⟩).run P w = .ok (.value (.slice (some ⟨g, k, none⟩) m m)) w := by
  show ((Instr.sliceAt t (a.eval x) none none none) >>= fun v => pure (Next.value v)).run P w = _
  rw [hx]
  cases hq : P.info? e with
  | none => rw [hq] at hs; simp at hs
  | some j =>
    rw [hq] at hs
    simp at hs
    simp [Instr.sliceAt, run_underlying hu, Instr.sureAddr, Instr.sliceBounds, sizeOf, typeInfo, hq, add_zero_spot]
theorem wpl_sl_arrS {t e : TypeId} {x : Operand} {g k m : Nat} (hx : a.eval x = .pointer (some ⟨g, k, none⟩)) (hu : P.underlying t = some (.array m e)) (hs : (P.info? e).map (·.size) = some 2)
    (h : wpList P ops Q rest (a.put dst (.slice (some ⟨g, k, none⟩) m m)) w) : wpList P ops Q (⟨dst, .slice t x none none none, ty, pos, after, none⟩ :: rest) a w := wpl_of_run rfl (ev_sl_arrS hx hu hs) h
end
/-- what a maker of a field answers -/
def FldPost (w : World) (ys : List UInt8) (U : Nat → Prop) : Ending → World → Prop := fun e w' => ∃ f caps T, e = .returned (.func (.func f) #[] caps) ∧ Step nowhere w w' ∧ Lays w' T (.func (.func f) #[] caps) ys ∧ ∀ x, T x → w.heap.size ≤ x ∨ U x
end Go.Proofs.YthcleccofccbdaaGreat
end
section
open Go Go.RowKit
namespace Go.Proofs.YthcleccofccbdaaGreat
section
variable {P : Program} {ops : Array Oper} {rest : List Oper} {a : Act} {w : World} {Q : Exit → Act → World → Prop} {dst : Option Tmp} {ty : TypeId} {pos : String} {after : Array Edge} {gd : Option (Nat × Bool)}
/-- the address of an element of an array -/
theorem ev_indexRK {t e : TypeId} {x ix : Operand} {g k m : Nat} {i : Nat} (hx : a.eval x = .pointer (some ⟨g, k, none⟩)) (hi : a.eval ix = .int .i64 (i : Int)) (hu : P.underlying t = some (.array m e)) (hs : (P.info? e).map (·.size) = some 2) (h1 : i < m) :
    (execOp a.eval ⟨dst, .indexAddr t x ix, ty, pos, after, gd⟩).run P w = .ok (.value (.pointer (some ⟨g, k + i * 2, none⟩))) w := by
  show ((Instr.indexAt t (a.eval x) (a.eval ix)) >>= fun v => pure (Next.value v)).run P w = _
  rw [hx, hi]
  cases hq : P.info? e with
  | none => rw [hq] at hs; simp at hs
  | some j =>
    rw [hq] at hs
    simp at hs
    have h2 : (i : Int) < m := by omega
    simp [Instr.indexAt, asIntOf, run_underlying hu, sizeOf, typeInfo, hq, hs, h1, Instr.sureAddr, Addr.add]
theorem wpl_indexRK {t e : TypeId} {x ix : Operand} {g k m : Nat} {i : Nat} (hx : a.eval x = .pointer (some ⟨g, k, none⟩)) (hi : a.eval ix = .int .i64 (i : Int)) (hu : P.underlying t = some (.array m e)) (hs : (P.info? e).map (·.size) = some 2) (h1 : i < m)
    (h : wpList P ops Q rest (a.put dst (.pointer (some ⟨g, k + i * 2, none⟩))) w) : wpList P ops Q (⟨dst, .indexAddr t x ix, ty, pos, after, none⟩ :: rest) a w := wpl_of_run rfl (ev_indexRK hx hi hu hs h1) h
/-- a root's keys, whole -/
theorem ev_loadRK {t : TypeId} {x : Operand} {g i : Nat} (hx : a.eval x = .pointer (some ⟨g, 2 + i * 2, none⟩)) {tb : TypeId} {v e : Int} {K : List KR} (hb : HB w g tb (rtL v e K).toArray) (ht : RowT P t 2) (hk : i < K.length) :
    (execOp a.eval ⟨dst, .load t x, ty, pos, after, gd⟩).run P w = .ok (.value (.agg (RowC.enc (gt K i)).toArray)) w := by
  have e : a.eval x = ptrOf (some ⟨g, 2, none⟩) (i * 2) := by
    rw [hx]
    simp [ptrOf, shift, Addr.add]
  show ((Instr.loadAt t (a.eval x)) >>= fun v => pure (Next.value v)).run P w = _
  rw [e, Sem.run_bind, run_loadshift (k := i * 2) (cs := RowC.enc (gt K i)) (root_tail hb).out ht rfl (cellsOf_at K i hk) (by decide)]
  rfl
theorem wpl_loadRK {t : TypeId} {x : Operand} {g i : Nat} (hx : a.eval x = .pointer (some ⟨g, 2 + i * 2, none⟩)) {tb : TypeId} {v e : Int} {K : List KR} (hb : HB w g tb (rtL v e K).toArray) (ht : RowT P t 2) (hk : i < K.length)
    (h : wpList P ops Q rest (a.put dst (.agg (RowC.enc (gt K i)).toArray)) w) : wpList P ops Q (⟨dst, .load t x, ty, pos, after, none⟩ :: rest) a w := wpl_of_run rfl (ev_loadRK hx hb ht hk) h
theorem wpl_storeRK {t : TypeId} {x y : Operand} {g i : Nat} {k : KR} (hx : a.eval x = .pointer (some ⟨g, 2 + i * 2, none⟩)) (hy : a.eval y = .agg (RowC.enc k).toArray) {tb : TypeId} {v e : Int} {K : List KR} (hb : HB w g tb (rtL v e K).toArray) (ht : RowT P t 2) (hk : i < K.length)
    (h : ∀ w', Step (only g) w w' → HB w' g tb (rtL v e (K.set i k)).toArray → wpList P ops Q rest (a.put dst undef) w') : wpList P ops Q (⟨dst, .store t x y, ty, pos, after, none⟩ :: rest) a w := by
  have hsz : (rtL v e K).length = 2 + 2 * K.length := by
    simp [rtL, cellsOf_len, show RowC.size KR = 2 from rfl]
    omega
  have h1 : (cellsOf K).take (i * 2) ++ RowC.enc k ++ (cellsOf K).drop (i * 2 + 2) = cellsOf (K.set i k) := cellsOf_set K i k hk
  refine wpl_storepart hx hy hb ht rfl (by decide) (by rw [List.size_toArray, hsz]; omega) (by rw [Array.all_eq_true_iff_forall_mem]; intro u hu; exact RowC.one k u (by simpa using hu)) (cs' := (rtL v e (K.set i k)).toArray) ?_ h
  show (rtL v e K).take (2 + i * 2) ++ (RowC.enc k) ++ (rtL v e K).drop (2 + i * 2 + 2) = rtL v e (K.set i k)
  rw [rtL, rtL, ← h1, show 2 + i * 2 = (i * 2 + 1) + 1 by omega, show i * 2 + 1 + 1 + 2 = (i * 2 + 2 + 1) + 1 by omega]
  simp
end
/-- keys that are all at hand, in rows of their own -/
def KsIn (w0 w : World) (K : List KR) : Prop := ∀ k ∈ K, KIn w k ∧ NewA w0 k.A
theorem KsIn.chg {S : Nat → Prop} {w0 w w' : World} {K : List KR} (h : KsIn w0 w K) (hc : Chg S w w') (hS : ∀ x, S x → x < w0.heap.size) : KsIn w0 w' K := fun k hk => ⟨(h k hk).1.chg hc (fun x ⟨_, ad, e, hx⟩ hs => by
  have := (h k hk).2.out ad e
  have := hS x hs
  omega), (h k hk).2⟩
theorem KsIn.set {w0 w : World} {K : List KR} (h : KsIn w0 w K) (i : Nat) {k : KR} (h1 : KIn w k) (h2 : NewA w0 k.A) : KsIn w0 w (K.set i k) := fun x hx => by
  rcases List.mem_or_eq_of_mem_set hx with h3 | rfl
  · exact h x h3
  · exact ⟨h1, h2⟩
theorem KsIn.none (w0 w : World) : KsIn w0 w noK := fun k hk => by
  refine ⟨noKIn w k hk, ?_⟩
  simp only [noK, List.mem_cons, List.not_mem_nil, or_false] at hk
  have : k = noKR := by rcases hk with h | h | h | h <;> exact h
  subst this
  exact ⟨fun ad e => by cases e⟩
theorem KsIn.first {w0 w1 w : World} {K : List KR} (h : KsIn w1 w K) (hs : w0.heap.size ≤ w1.heap.size) : KsIn w0 w K := fun k hk => ⟨(h k hk).1, ⟨fun ad e => Nat.le_trans hs ((h k hk).2.out ad e)⟩⟩
theorem set_take_map {α β : Type} (f : α → β) (K : List α) (i : Nat) (x : α) (h : i < K.length) : ((K.set i x).take (i + 1)).map f = (K.take i).map f ++ [f x] := by
  rw [List.take_add_one, List.map_append]
  congr 1
  · rw [List.take_set_of_le (Nat.le_refl _)]
  · simp [h]
end Go.Proofs.YthcleccofccbdaaGreat
end
