/- Targets and delegations: rows of their cells; what memory holds of them. -/
import Derived.Test.YtojbbmgghhmgmaaEqP
import Derived.Test.YtojbbmgghhmgmaaMaps
open Go Go.RowKit
namespace Go.Proofs.Ytojbbmgghhmgmaa
structure TG where
  name : ByteArray
  size : Int
  sum : H32
  hw : ByteArray
  ctr : Int
  ecu : ByteArray
structure DL where
  name : ByteArray
  kA : Option Addr
  kn : Nat
  kc : Nat
  need : Int
  pre : ByteArray
  last : Bool
structure TS where
  name : ByteArray
  ver : Int
  exp : Int
  LA : Option Addr
  Ln : Nat
  Lc : Nat
  DA : Option Addr
  Dn : Nat
  Dc : Nat
  L : List TG
  D : List DL
def noS : ByteArray := ⟨#[]⟩
def zTG : TG := ⟨noS, 0, zeroH, noS, 0, noS⟩
def zDL : DL := ⟨noS, none, 0, 0, 0, noS, false⟩
def zTS : TS := ⟨noS, 0, 0, none, 0, 0, none, 0, 0, [], []⟩
instance : RowC TG := ⟨37, fun t => .string t.name :: .int .i64 t.size :: (bs t.sum.l ++ [.string t.hw, .int .i64 t.ctr, .string t.ecu]),
  fun t => by simp [bs_length], fun t u hu => by
    simp only [List.mem_cons, List.mem_append, List.not_mem_nil, or_false] at hu
    rcases hu with rfl | rfl | hu | rfl | rfl | rfl
    · rfl
    · rfl
    · exact bs_one _ u hu
    · rfl
    · rfl
    · rfl, zTG⟩
instance : RowC DL := ⟨5, fun d => [.string d.name, .slice d.kA d.kn d.kc, .int .i64 d.need, .string d.pre, .bool d.last], fun d => rfl, fun d u hu => by
    simp only [List.mem_cons, List.not_mem_nil, or_false] at hu
    rcases hu with rfl | rfl | rfl | rfl | rfl <;> rfl, zDL⟩
instance : RowC TS := ⟨5, fun t => [.string t.name, .int .i64 t.ver, .int .i64 t.exp, .slice t.LA t.Ln t.Lc, .slice t.DA t.Dn t.Dc], fun d => rfl, fun d u hu => by
    simp only [List.mem_cons, List.not_mem_nil, or_false] at hu
    rcases hu with rfl | rfl | rfl | rfl | rfl <;> rfl, zTS⟩
def gt {α : Type} [RowC α] (l : List α) (k : Nat) : α := l.getD k RowC.zero
theorem gt_mem {α : Type} [RowC α] (l : List α) (k : Nat) (h : k < l.length) : gt l k ∈ l := by
  simp [gt, List.getD_eq_getElem?_getD, h]
theorem enc_sz {α : Type} [RowC α] (a : α) {n : Nat} (h : RowC.size α = n) : (RowC.enc a).toArray.size = n := by
  simp [RowC.len, h]
theorem enc_one {α : Type} [RowC α] (a : α) : (RowC.enc a).toArray.all (·.oneCell') = true := by
  rw [Array.all_eq_true_iff_forall_mem]
  intro x hx
  exact RowC.one a x (by simpa using hx)
theorem nth_app {α : Type} : ∀ (l m : List α) (k : Nat), nth (l ++ m) (l.length + k) = nth m k
  | [], m, k => by simp
  | x :: l, m, k => by
    rw [List.cons_append, List.length_cons, show l.length + 1 + k = (l.length + k) + 1 by omega, nth, nth_app l m k]
theorem tg_hw (t : TG) : nth (RowC.enc t) 34 = some (.string t.hw) := by
  have h := nth_app (bs t.sum.l) [.string t.hw, .int .i64 t.ctr, .string t.ecu] 0
  rw [bs_length, H32.len] at h
  exact h
theorem tg_ctr (t : TG) : nth (RowC.enc t) 35 = some (.int .i64 t.ctr) := by
  have h := nth_app (bs t.sum.l) [.string t.hw, .int .i64 t.ctr, .string t.ecu] 1
  rw [bs_length, H32.len] at h
  exact h
theorem tg_ecu (t : TG) : nth (RowC.enc t) 36 = some (.string t.ecu) := by
  have h := nth_app (bs t.sum.l) [.string t.hw, .int .i64 t.ctr, .string t.ecu] 2
  rw [bs_length, H32.len] at h
  exact h
/-- what the rows of targets and of delegations read as -/
def TSOk (w : World) (ts : List TS) : Prop := ∀ t ∈ ts, Rd w t.LA (cellsOf t.L) ∧ t.L.length = t.Ln ∧ Rd w t.DA (cellsOf t.D) ∧ t.D.length = t.Dn
class HTs (w : World) (ts : List TS) : Prop where
  out : TSOk w ts
class OffT (S : Nat → Prop) (ts : List TS) : Prop where
  out : ∀ t ∈ ts, Apart S t.LA (cellsOf t.L) ∧ Apart S t.DA (cellsOf t.D)
instance (ts : List TS) : OffT nowhere ts := ⟨fun _ _ => ⟨fun _ _ _ h => h, fun _ _ _ h => h⟩⟩
instance OffT.born (w : World) (z : Nat) (ts : List TS) [b : Born w z] [h : HTs w ts] : OffT (only z) ts := ⟨fun t ht => by
  obtain ⟨h1, _, h2, _⟩ := h.out t ht
  have a1 : OffR (only z) t.LA (cellsOf t.L) := @OffR.born w z _ _ b ⟨h1⟩
  have a2 : OffR (only z) t.DA (cellsOf t.D) := @OffR.born w z _ _ b ⟨h2⟩
  exact ⟨a1.out, a2.out⟩⟩
instance HTs.step (S : Nat → Prop) (w w' : World) (ts : List TS) [s : Step S w w'] [h : HTs w ts] [o : OffT S ts] : HTs w' ts := ⟨fun t ht => by
  obtain ⟨h1, h2, h3, h4⟩ := h.out t ht
  obtain ⟨a1, a2⟩ := o.out t ht
  exact ⟨h1.chg s.chg a1, h2, h3.chg s.chg a2, h4⟩⟩
/-- what is known of their numbers -/
def TSWf (ts : List TS) : Prop := ∀ t ∈ ts, t.Ln ≤ 9223372036854775807 ∧ t.Dn ≤ 9223372036854775807 ∧ t.name.size ≤ maxLen ∧ ∀ d ∈ t.D, d.name.size ≤ maxLen
theorem TSWf.Ln {ts : List TS} (h : TSWf ts) {k : Nat} (hk : k < ts.length) : (gt ts k).Ln ≤ 9223372036854775807 := (h _ (gt_mem ts k hk)).1
theorem TSWf.Dn {ts : List TS} (h : TSWf ts) {k : Nat} (hk : k < ts.length) : (gt ts k).Dn ≤ 9223372036854775807 := (h _ (gt_mem ts k hk)).2.1
theorem HTs.rowL {w : World} {ts : List TS} [h : HTs w ts] {k : Nat} (hk : k < ts.length) : HR w (gt ts k).LA (cellsOf (gt ts k).L) := ⟨(h.out _ (gt_mem ts k hk)).1⟩
theorem HTs.rowD {w : World} {ts : List TS} [h : HTs w ts] {k : Nat} (hk : k < ts.length) : HR w (gt ts k).DA (cellsOf (gt ts k).D) := ⟨(h.out _ (gt_mem ts k hk)).2.2.1⟩
theorem TSOk.lenL {w : World} {ts : List TS} (h : TSOk w ts) {k : Nat} (hk : k < ts.length) : (gt ts k).L.length = (gt ts k).Ln := (h _ (gt_mem ts k hk)).2.1
theorem TSOk.lenD {w : World} {ts : List TS} (h : TSOk w ts) {k : Nat} (hk : k < ts.length) : (gt ts k).D.length = (gt ts k).Dn := (h _ (gt_mem ts k hk)).2.2.2
section
variable {P : Program} {ops : Array Oper} {rest : List Oper} {a : Act} {w : World} {Q : Exit → Act → World → Prop} {dst : Option Tmp} {ty : TypeId} {pos : String} {after : Array Edge} {gd : Option (Nat × Bool)}
/-- the address of an element -/
theorem ev_indexE {α : Type} [RowC α] {t : TypeId} {x ix : Operand} {A : Option Addr} {n c k : Nat} (hx : a.eval x = .slice A n c) (hi : a.eval ix = .int .i64 (k : Int)) {e : TypeId} {size bytes : Nat} {z : Value} (E : ElemT P t e size bytes z)
    {l : List α} (hr : HR w A (cellsOf l)) (hl : l.length = n) (hs : RowC.size α = size) (hp : 0 < size) (h1 : k < n) :
    (execOp a.eval ⟨dst, .indexAddr t x ix, ty, pos, after, gd⟩).run P w = .ok (.value (ptrOf A (k * size))) w := by
  obtain ⟨ad, hA, _⟩ := hr.out.lt (by rw [cellsOf_len, hs, hl]; exact Nat.mul_pos (by omega) hp)
  obtain ⟨ti, hti, hz, hsz, hb⟩ := info_parts E.out.info
  show ((Instr.indexAt t (a.eval x) (a.eval ix)) >>= fun v => pure (Next.value v)).run P w = _
  rw [hx, hi, hA]
  simp [Instr.indexAt, asIntOf, run_underlying E.out.under, sizeOf, typeInfo, hti, hsz, h1, ptrOf, shift]
theorem ev_indexE0 {α : Type} [RowC α] {t : TypeId} {x : Operand} {A : Option Addr} {n c : Nat} (hx : a.eval x = .slice A n c) {e : TypeId} {size bytes : Nat} {z : Value} (E : ElemT P t e size bytes z)
    {l : List α} (hr : HR w A (cellsOf l)) (hl : l.length = n) (hs : RowC.size α = size) (hp : 0 < size) (h1 : 0 < n) :
    (execOp a.eval ⟨dst, .indexAddr t x (.const (.int .i64 0)), ty, pos, after, gd⟩).run P w = .ok (.value (ptrOf A (0 * size))) w :=
  ev_indexE (k := 0) hx rfl E hr hl hs hp h1
/-- a whole element -/
theorem ev_loadE {α : Type} [RowC α] {t : TypeId} {x : Operand} {A : Option Addr} {k n : Nat} (ht : RowT P t n) (hx : a.eval x = ptrOf A (k * n)) {l : List α} (hr : HR w A (cellsOf l)) (hs : RowC.size α = n) (hp : 0 < n) (hk : k < l.length) :
    (execOp a.eval ⟨dst, .load t x, ty, pos, after, gd⟩).run P w = .ok (.value (.agg (RowC.enc (gt l k)).toArray)) w := by
  show ((Instr.loadAt t (a.eval x)) >>= fun v => pure (Next.value v)).run P w = _
  subst hs
  rw [hx, Sem.run_bind, run_loadshift (k := k * RowC.size α) (cs := RowC.enc (gt l k)) hr.out ht (RowC.len _) (cellsOf_at l k hk) hp]
  rfl
/-- the address of a field of an element -/
theorem ev_fieldE {t : TypeId} {x : Operand} {i : Nat} {A : Option Addr} {k : Nat} {fs : Array Field} {f : Field} (hu : P.underlying t = some (.struct fs)) (hf : fs[i]? = some f) (hz : (P.info? f.type).map (fun i => decide (i.size = 0)) = some false) (hx : a.eval x = ptrOf A k) {vs : List Value} (hr : HR w A vs) (hl : 0 < vs.length) :
    (execOp a.eval ⟨dst, .fieldAddr t x i, ty, pos, after, gd⟩).run P w = .ok (.value (ptrOf A (k + f.offset))) w := by
  obtain ⟨ad, rfl, _⟩ := hr.out.lt hl
  show ((Instr.fieldAt t (a.eval x) i) >>= fun v => pure (Next.value v)).run P w = _
  rw [hx]
  cases hq : P.info? f.type with
  | none => rw [hq] at hz; simp at hz
  | some inf =>
    rw [hq] at hz
    simp at hz
    simp [Instr.fieldAt, run_underlying hu, hf, ptrOf, shift, Instr.sureAddr, fieldPlace, sizeOf, typeInfo, hq, hz, add_of_add]
/-- a field of an element -/
theorem ev_loadF {α : Type} [RowC α] {t : TypeId} {x : Operand} {A : Option Addr} {k j s : Nat} (ht : CellT P t) (hx : a.eval x = ptrOf A (k * s + j)) {l : List α} (hr : HR w A (cellsOf l)) (hs : RowC.size α = s) (hk : k < l.length) {v : Value} (hv : nth (RowC.enc (gt l k)) j = some v) :
    (execOp a.eval ⟨dst, .load t x, ty, pos, after, gd⟩).run P w = .ok (.value v) w := by
  subst hs
  rw [← nth_get] at hv
  have hj : j < RowC.size α := by
    have := (List.getElem?_eq_some_iff.1 hv).1
    rwa [RowC.len] at this
  have hat := cellsOf_at l k hk
  have hv2 : (cellsOf l)[k * RowC.size α + j]? = some v := by
    have h1 : (((cellsOf l).drop (k * RowC.size α)).take (RowC.size α))[j]? = (RowC.enc (gt l k))[j]? := by rw [hat]; rfl
    rw [List.getElem?_take, if_pos hj, List.getElem?_drop] at h1
    rw [h1, hv]
  obtain ⟨ad, rfl, hc⟩ := hr.out _ _ hv2
  show ((Instr.loadAt t (a.eval x)) >>= fun v => pure (Next.value v)).run P w = _
  rw [hx]
  simp [ptrOf, shift, Instr.loadAt, Instr.sureAddr, loadVar, ht.agg w, hc]
end
end Go.Proofs.Ytojbbmgghhmgmaa
