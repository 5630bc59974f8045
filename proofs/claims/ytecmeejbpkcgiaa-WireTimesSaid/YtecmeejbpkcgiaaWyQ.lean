/- Times and reports compared. -/
import Derived.Test.YtecmeejbpkcgiaaWvA
import Derived.Stop.BytesEq
import Derived.Laws.StructEq
open Go Go.RowKit
namespace Go.Proofs.Ytecmeejbpkcgiaa
theorem partW_cell {P : Program} {t : TypeId} [h : CellT P t] {xs : Array Value} {off : Nat} {v : Value} (hx : nth xs.toList off = some v) (w : World) : (part t xs off).run P w = .ok v w := by
  rw [← nth_get] at hx
  have hx' : xs[off]? = some v := by simpa using hx
  simp [part, h.agg w, hx']
theorem partW_cell' {P : Program} {t : TypeId} [h : CellT P t] {l : List Value} {off : Nat} {v : Value} (hx : nth l off = some v) (w : World) : (part t l.toArray off).run P w = .ok v w := partW_cell hx w
theorem partW_row {P : Program} {t : TypeId} {n : Nat} [h : RowT P t n] {xs : Array Value} {off : Nat} {cs : Array Value} (hx : (xs.toList.drop off).take n = cs.toList) (w : World) : (part t xs off).run P w = .ok (.agg cs) w := by
  obtain ⟨d, hd1, hd2⟩ := h.row
  have hsz := h.size
  cases hq : P.info? t with
  | none => rw [hq] at hsz; simp at hsz
  | some i =>
    have hs : i.size = n := by rw [hq] at hsz; simpa using hsz
    have hagg : (isAgg t).run P w = .ok true w := by
      unfold isAgg
      rw [Sem.run_bind, run_underlying hd1 w]
      cases d <;> simp_all
    have e : xs.extract off (off + n) = cs := by
      apply Array.ext'
      rw [← hx]
      simp [List.extract]
    simp [part, hagg, sizeOf, typeInfo, hq, hs, e]
theorem eqFW_cons {P : Program} {d : Nat} {xs ys : Array Value} {f : Field} {fs : List Field} {w : World} (hn : f.name ≠ "_") {a b : Value} (ha : (part f.type xs f.offset).run P w = .ok a w) (hb : (part f.type ys f.offset).run P w = .ok b w) {r : Bool} (hr : (Op.equalIn d f.type a b).run P w = .ok r w) {s : Bool} (hs : (Op.eqFields d xs ys fs).run P w = .ok s w) :
    (Op.eqFields d xs ys (f :: fs)).run P w = .ok (r && s) w := by
  rw [Op.eqFields, if_pos hn]
  simp only [Sem.run_bind, ha, hb, hr, Result.andThen_ok]
  cases r
  · simp
  · simp [hs]
instance decH32W : DecidableEq H32 := fun a b => decidable_of_iff (a.l = b.l) ⟨H32.ext', congrArg _⟩
theorem beq_hashW (a b : H32) : (a.l == b.l) = decide (a = b) := by
  rw [Bool.eq_iff_iff]
  simp only [beq_iff_eq, decide_eq_true_eq]
  exact ⟨H32.ext', fun h => by rw [h]⟩
/-- a time's parts -/
structure TimR where
  v : Int
  e : Int
  s : Int
  h : H32
def TimR.arr (t : TimR) : Array Value := (timL t.v t.e t.s t.h).toArray
def tmB (a b : TimR) : Bool := (a.v == b.v) && ((a.e == b.e) && ((a.s == b.s) && decide (a.h = b.h)))
theorem tmB_iff {a b : TimR} (h : tmB a b = true) : a = b := by
  obtain ⟨v, e, s, h1⟩ := a
  obtain ⟨v2, e2, s2, h2⟩ := b
  simp only [tmB, Bool.and_eq_true, decide_eq_true_eq, beq_iff_eq] at h
  obtain ⟨rfl, rfl, rfl, rfl⟩ := h
  rfl
theorem tm_sum (a : TimR) : (a.arr.toList.drop 3).take 32 = (u8s a.h.l).toList := by
  rw [TimR.arr, tim_sum]
  simp [u8s]
set_option maxRecDepth 100000 in
set_option maxHeartbeats 1600000 in
theorem neqTim (a b : TimR) (w : World) : (binOp .neq 45 (.agg a.arr) (.agg b.arr)).run Try.prog w = .ok (.bool (!tmB a b)) w := by
  rw [run_neq_struct]
  have key : (Op.equalIn (9999 + 1) 45 (.agg a.arr) (.agg b.arr)).run Try.prog w = .ok (tmB a b) w := by
    rw [run_equalIn_struct w 9999 45 _ _ (by kernel_rfl) (by kernel_rfl)]
    rw [Program.fieldsOf, Try.underlying45]
    unfold tmB
    refine eqFW_cons (by decide) (partW_cell (t := 3) rfl w) (partW_cell (t := 3) rfl w) (run_equalIn_int w 9998 3 _ _ _ _ Try.underlying3) ?_
    refine eqFW_cons (by decide) (partW_cell (t := 3) rfl w) (partW_cell (t := 3) rfl w) (run_equalIn_int w 9998 3 _ _ _ _ Try.underlying3) ?_
    refine eqFW_cons (by decide) (partW_cell (t := 3) rfl w) (partW_cell (t := 3) rfl w) (run_equalIn_int w 9998 3 _ _ _ _ Try.underlying3) ?_
    rw [← Bool.and_true (decide (a.h = b.h))]
    refine eqFW_cons (by decide) (partW_row (t := 43) (n := 32) (tm_sum a) w) (partW_row (t := 43) (n := 32) (tm_sum b) w) ?_ ?_
    · rw [← beq_hashW]
      exact run_equalIn_bytes (P := Try.prog) w 9997 43 5 32 Try.underlying43 Try.underlying5 Try.sizeOf5 a.h.l b.h.l a.h.len b.h.len
    rfl
  show ((Op.equalIn 10000 45 (.agg a.arr) (.agg b.arr)).run Try.prog w).andThen _ = _
  rw [show (Op.equalIn 10000 45 (.agg a.arr) (.agg b.arr)).run Try.prog w = .ok (tmB a b) w from key]
  rfl
/-- a report's parts -/
structure RepR where
  u : ByteArray
  n : ByteArray
  h : H32
  c : Int
  k : Int
def RepR.arr (t : RepR) : Array Value := (repL t.u t.n t.h t.c t.k).toArray
def rpB (a b : RepR) : Bool := (a.u.toList == b.u.toList) && ((a.n.toList == b.n.toList) && (decide (a.h = b.h) && ((a.c == b.c) && (a.k == b.k))))
theorem rp_sum (a : RepR) : (a.arr.toList.drop 2).take 32 = (u8s a.h.l).toList := by
  rw [RepR.arr, rep_sum]
  simp [u8s]
set_option maxRecDepth 100000 in
set_option maxHeartbeats 1600000 in
theorem neqRep (a b : RepR) (w : World) : (binOp .neq 47 (.agg a.arr) (.agg b.arr)).run Try.prog w = .ok (.bool (!rpB a b)) w := by
  rw [run_neq_struct]
  have key : (Op.equalIn (9999 + 1) 47 (.agg a.arr) (.agg b.arr)).run Try.prog w = .ok (rpB a b) w := by
    rw [run_equalIn_struct w 9999 47 _ _ (by kernel_rfl) (by kernel_rfl)]
    rw [Program.fieldsOf, Try.underlying47]
    unfold rpB
    refine eqFW_cons (by decide) (partW_cell (t := 9) (rep_at0 _ _ _ _ _) w) (partW_cell (t := 9) (rep_at0 _ _ _ _ _) w) (run_equalIn_string w 9998 9 _ _ Try.underlying9) ?_
    refine eqFW_cons (by decide) (partW_cell (t := 9) (rep_at1 _ _ _ _ _) w) (partW_cell (t := 9) (rep_at1 _ _ _ _ _) w) (run_equalIn_string w 9998 9 _ _ Try.underlying9) ?_
    refine eqFW_cons (by decide) (partW_row (t := 43) (n := 32) (rp_sum a) w) (partW_row (t := 43) (n := 32) (rp_sum b) w) ?_ ?_
    · rw [← beq_hashW]
      exact run_equalIn_bytes (P := Try.prog) w 9997 43 5 32 Try.underlying43 Try.underlying5 Try.sizeOf5 a.h.l b.h.l a.h.len b.h.len
    refine eqFW_cons (by decide) (partW_cell (t := 3) (rep_at34 _ _ _ _ _) w) (partW_cell (t := 3) (rep_at34 _ _ _ _ _) w) (run_equalIn_int w 9998 3 _ _ _ _ Try.underlying3) ?_
    rw [← Bool.and_true (a.k == b.k)]
    refine eqFW_cons (by decide) (partW_cell (t := 3) (rep_at35 _ _ _ _ _) w) (partW_cell (t := 3) (rep_at35 _ _ _ _ _) w) (run_equalIn_int w 9998 3 _ _ _ _ Try.underlying3) ?_
    rfl
  show ((Op.equalIn 10000 47 (.agg a.arr) (.agg b.arr)).run Try.prog w).andThen _ = _
  rw [show (Op.equalIn 10000 47 (.agg a.arr) (.agg b.arr)).run Try.prog w = .ok (rpB a b) w from key]
  rfl
end Go.Proofs.Ytecmeejbpkcgiaa
