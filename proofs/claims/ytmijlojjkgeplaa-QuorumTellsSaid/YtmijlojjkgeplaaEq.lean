/- Digests and rows of numbers compared. -/
import Derived.Test.YtmijlojjkgeplaaTy
import Derived.Stop.BytesEq
open Go Go.RowKit
namespace Go.Proofs.Ytmijlojjkgeplaa
instance : DecidableEq H32 := fun a b => decidable_of_iff (a.l = b.l) ⟨H32.ext', congrArg _⟩
theorem beq_hash (a b : H32) : (a.l == b.l) = decide (a = b) := by
  rw [Bool.eq_iff_iff]
  simp only [beq_iff_eq, decide_eq_true_eq]
  exact ⟨H32.ext', fun h => by rw [h]⟩
theorem eqlH (a b : H32) (w : World) : (binOp .eql 23 (.agg (u8s a.l)) (.agg (u8s b.l))).run Try.prog w = .ok (.bool (decide (a = b))) w := by
  rw [← beq_hash]
  exact run_eql_bytes (P := Try.prog) w 23 5 32 Try.underlying23 Try.underlying5 Try.sizeOf5 a.l b.l a.len b.len
theorem neqH (a b : H32) (w : World) : (binOp .neq 23 (.agg (u8s a.l)) (.agg (u8s b.l))).run Try.prog w = .ok (.bool (!decide (a = b))) w := by
  rw [← beq_hash, run_neq_struct]
  have h := run_equalIn_bytes (P := Try.prog) w 9998 23 5 32 Try.underlying23 Try.underlying5 Try.sizeOf5 a.l b.l a.len b.len
  show ((Op.equalIn 10000 23 (.agg (u8s a.l)) (.agg (u8s b.l))).run Try.prog w).andThen _ = _
  have e : (Op.equalIn 10000 23 (.agg (u8s a.l)) (.agg (u8s b.l))).run Try.prog w = .ok (a.l == b.l) w := h
  rw [e]
  rfl
theorem eqlI {P : Program} {t e : TypeId} {n : Nat} (ht : P.underlying t = some (.array n e)) (he : P.underlying e = some (.int .i64)) (hsz : ∀ w, (sizeOf e).run P w = .ok 1 w) (xs : List Int) (hx : xs.length = n) (w : World) :
    (binOp .eql t (.agg (i64s xs)) (.agg (i64s xs))).run P w = .ok (.bool true) w := by
  rw [run_eql_struct]
  have key : (Op.equalIn (9998 + 2) t (.agg (i64s xs)) (.agg (i64s xs))).run P w = .ok true w := by
    rw [Op.equalIn]
    simp only [Sem.run_bind, run_underlying ht, Result.andThen_ok, hsz, Std.Legacy.Range.forIn_eq_forIn_range', Std.Legacy.Range.size, Nat.sub_zero, Nat.add_sub_cancel, Nat.div_one]
    have hl : ∀ i ∈ List.range' 0 n 1, i < n := fun i hi => by simpa using (List.mem_range'_1.1 hi).2
    generalize List.range' 0 n 1 = l at hl ⊢
    induction l with
    | nil => simp
    | cons i l ih =>
      have hi : i < n := hl i (by simp)
      have px : (part e (i64s xs) (i * 1)).run P w = .ok (.int .i64 (xs.getD i 0)) w := by
        simp [part, isAgg, run_underlying he, List.getD, i64s, List.getElem?_eq_getElem (show i < xs.length by omega)]
      have pe : (Op.equalIn (9998 + 1) e (.int .i64 (xs.getD i 0)) (.int .i64 (xs.getD i 0))).run P w = .ok true w := by
        rw [run_equalIn_int w 9998 e .i64 .i64 _ _ he, beq_self_eq_true]
      simp only [List.forIn_cons, Sem.run_bind, px, pe, Result.andThen_ok]
      simp only [Bool.not_true, Bool.false_eq_true, if_false, Sem.run_pure, Result.andThen_ok]
      exact ih fun j hj => hl j (by simp [hj])
  show ((Op.equalIn 10000 t (.agg (i64s xs)) (.agg (i64s xs))).run P w).andThen _ = _
  rw [show (Op.equalIn 10000 t (.agg (i64s xs)) (.agg (i64s xs))).run P w = .ok true w from key]
  rfl
end Go.Proofs.Ytmijlojjkgeplaa
