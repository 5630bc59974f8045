/- Targets compared. -/
import Derived.Test.YtojbbmgghhmgmaaFdR
import Derived.Laws.StructEq
open Go Go.RowKit
namespace Go.Proofs.Ytojbbmgghhmgmaa
def tgB (a b : TG) : Bool := (a.name.toList == b.name.toList) && ((a.size == b.size) && (decide (a.sum = b.sum) && ((a.hw.toList == b.hw.toList) && ((a.ctr == b.ctr) && (a.ecu.toList == b.ecu.toList)))))
theorem tgB_self (a : TG) : tgB a a = true := by simp [tgB]
theorem part_cell {P : Program} {t : TypeId} [h : CellT P t] {xs : Array Value} {off : Nat} {v : Value} (hx : nth xs.toList off = some v) (w : World) : (part t xs off).run P w = .ok v w := by
  rw [← nth_get] at hx
  have hx' : xs[off]? = some v := by simpa using hx
  simp [part, h.agg w, hx']
theorem part_cell' {P : Program} {t : TypeId} [h : CellT P t] {l : List Value} {off : Nat} {v : Value} (hx : nth l off = some v) (w : World) : (part t l.toArray off).run P w = .ok v w := part_cell hx w
theorem part_row {P : Program} {t : TypeId} {n : Nat} [h : RowT P t n] {xs : Array Value} {off : Nat} {cs : Array Value} (hx : (xs.toList.drop off).take n = cs.toList) (w : World) : (part t xs off).run P w = .ok (.agg cs) w := by
  obtain ⟨d, hd1, hd2⟩ := h.row
  have hsz := h.size
  cases hq : P.info? t with
  | none => rw [hq] at hsz; simp at hsz
  | some i =>
    have hs : i.size = n := by rw [hq] at hsz; simpa using hsz
    have hagg : (isAgg t).run P w = .ok true w := by
      unfold isAgg
      rw [Sem.run_bind, run_underlying hd1 w]
      cases d <;> simp_all
    have e : xs.extract off (off + n) = cs := by
      apply Array.ext'
      rw [← hx]
      simp [List.extract]
    simp [part, hagg, sizeOf, typeInfo, hq, hs, e]
theorem eqF_cons {P : Program} {d : Nat} {xs ys : Array Value} {f : Field} {fs : List Field} {w : World} (hn : f.name ≠ "_") {a b : Value} (ha : (part f.type xs f.offset).run P w = .ok a w) (hb : (part f.type ys f.offset).run P w = .ok b w) {r : Bool} (hr : (Op.equalIn d f.type a b).run P w = .ok r w) {s : Bool} (hs : (Op.eqFields d xs ys fs).run P w = .ok s w) :
    (Op.eqFields d xs ys (f :: fs)).run P w = .ok (r && s) w := by
  rw [Op.eqFields, if_pos hn]
  simp only [Sem.run_bind, ha, hb, hr, Result.andThen_ok]
  cases r
  · simp
  · simp [hs]
theorem tg_sum (t : TG) : ((RowC.enc t).drop 2).take 32 = (u8s t.sum.l).toList := by
  show (bs t.sum.l ++ [Value.string t.hw, Value.int .i64 t.ctr, Value.string t.ecu]).take 32 = _
  have h : (bs t.sum.l).length = 32 := by rw [bs_length, H32.len]
  rw [List.take_left' h]
  rfl
set_option maxRecDepth 100000 in
set_option maxHeartbeats 3200000 in
theorem eqlTG (a b : TG) (w : World) : (binOp .eql 72 (.agg (RowC.enc a).toArray) (.agg (RowC.enc b).toArray)).run Try.prog w = .ok (.bool (tgB a b)) w := by
  rw [run_eql_struct]
  have key : (Op.equalIn (9999 + 1) 72 (.agg (RowC.enc a).toArray) (.agg (RowC.enc b).toArray)).run Try.prog w = .ok (tgB a b) w := by
    rw [run_equalIn_struct w 9999 72 _ _ (by kernel_rfl) (by kernel_rfl)]
    rw [Program.fieldsOf, Try.underlying72]
    unfold tgB
    refine eqF_cons (by decide) (part_cell (t := 9) rfl w) (part_cell (t := 9) rfl w) (run_equalIn_string w 9998 9 _ _ Try.underlying9) ?_
    refine eqF_cons (by decide) (part_cell (t := 3) rfl w) (part_cell (t := 3) rfl w) (run_equalIn_int w 9998 3 _ _ _ _ Try.underlying3) ?_
    refine eqF_cons (by decide) (part_row (t := 70) (n := 32) (tg_sum a) w) (part_row (t := 70) (n := 32) (tg_sum b) w) ?_ ?_
    · rw [← beq_hash]
      exact run_equalIn_bytes (P := Try.prog) w 9997 70 5 32 Try.underlying70 Try.underlying5 Try.sizeOf5 a.sum.l b.sum.l a.sum.len b.sum.len
    refine eqF_cons (by decide) (part_cell' (t := 9) (tg_hw a) w) (part_cell' (t := 9) (tg_hw b) w) (run_equalIn_string w 9998 9 _ _ Try.underlying9) ?_
    refine eqF_cons (by decide) (part_cell' (t := 3) (tg_ctr a) w) (part_cell' (t := 3) (tg_ctr b) w) (run_equalIn_int w 9998 3 _ _ _ _ Try.underlying3) ?_
    rw [← Bool.and_true (a.ecu.toList == b.ecu.toList)]
    refine eqF_cons (by decide) (part_cell' (t := 9) (tg_ecu a) w) (part_cell' (t := 9) (tg_ecu b) w) (run_equalIn_string w 9998 9 _ _ Try.underlying9) ?_
    rfl
  show ((Op.equalIn 10000 72 (.agg (RowC.enc a).toArray) (.agg (RowC.enc b).toArray)).run Try.prog w).andThen _ = _
  rw [show (Op.equalIn 10000 72 (.agg (RowC.enc a).toArray) (.agg (RowC.enc b).toArray)).run Try.prog w = .ok (tgB a b) w from key]
  rfl
theorem tgB_iff (a b : TG) : tgB a b = true ↔ a = b := by
  constructor
  · intro h
    simp only [tgB, Bool.and_eq_true, decide_eq_true_eq, beq_iff_eq, ByteArray.toList_eq] at h
    obtain ⟨h1, h2, h3, h4, h5, h6⟩ := h
    cases a; cases b
    simp only at h1 h2 h3 h4 h5 h6
    rw [bytes_inj h1, h2, h3, bytes_inj h4, h5, bytes_inj h6]
  · rintro rfl
    exact tgB_self a
end Go.Proofs.Ytojbbmgghhmgmaa
