/- Noughts behind a row of bytes: append(x, make([]byte, m)...), which makes no row of its own. -/
import Derived.Test.YtlaohifjdpjocaaRoom
import Derived.Test.YtlaohifjdpjocaaArr
open Go Go.RowKit
namespace Go.Proofs.Ytlaohifjdpjocaa
theorem run_append_noughts {P : Program} {w : World} {t e ti : TypeId} (E : Elem P t e 1 1 (.int .u8 0)) (ht : P.underlying ti = some (.int .i64)) (ty : TypeId) {A : Option Addr} {n c m : Nat} {xs : List UInt8} (hR : Own w e 1 A n c (bs xs)) (hm : n + m ≤ 100000000000) :
    ∃ A' c' w', (Builtin.append_ #[t, ti] ty #[.slice A n c, .int .i64 (m : Int)]).run P w = .ok (.slice A' (n + m) c') w' ∧ Own w' e 1 A' (n + m) c' (bs (xs ++ List.replicate m 0)) ∧
      Chg (fun k => ∃ ad, A = some ad ∧ ad.block = k) w w' ∧ (A' = A ∨ A' = some ⟨w.heap.size, 0, none⟩) := by
  obtain ⟨i, hi, hz, hs, hb⟩ := info_parts E.info
  have hu := E.under
  have hw : IntKind.i64.wrap (m : Int) = m := by rw [IntKind.wrap_i64]; omega
  have h0 : ¬ ((m : Int) < 0) := by omega
  have h48 : ¬ (281474976710656 < (m : Int)) := by omega
  have hzb := zero_bytes m
  have hlen : n = xs.length := by have := hR.len; simp [bs_length] at this; omega
  by_cases hm0 : m = 0
  · subst hm0
    have hle : n ≤ c := by rcases hR.form with ⟨_, h, _⟩ | ⟨_, _, _, _, h, _⟩ <;> omega
    have hw0 : IntKind.i64.wrap 0 = 0 := by decide
    refine ⟨A, c, w, ?_, by simpa using hR, Chg.refl _ _, .inl rfl⟩
    rcases A with _ | ad
    · simp [Builtin.append_, run_underlying hu, run_underlying ht, sizeOf, typeInfo, hi, hb, asInt, asIntOf, hw0, hle]
    · simp [Builtin.append_, run_underlying hu, run_underlying ht, sizeOf, typeInfo, hi, hb, asInt, asIntOf, hw0, hle, storeCells]
  · by_cases hroom : n + m ≤ c
    · rcases hR.form with ⟨_, h1, h2, _⟩ | ⟨g, cur, rfl, hblk, h3, h4, h5, h6⟩
      · omega
      · have hst := run_storeCells_at P g n e (bs (List.replicate m 0)) 0 cur w hblk (by simp [bs_length, h5]; omega) (bs_one _)
        simp only [Nat.add_zero] at hst
        refine ⟨some ⟨g, 0, none⟩, c, w.setRow g (cur.toList.take n ++ bs (List.replicate m 0) ++ cur.toList.drop (n + m)).toArray, ?_, ?_, ?_, .inl rfl⟩
        · simp [Builtin.append_, run_underlying hu, run_underlying ht, sizeOf, typeInfo, zeroValue, hi, hz, hs, hb, asInt, asIntOf, hw, h0, h48, hm0, hroom, hzb, Addr.add_lit, hst]
          simp [bs_length]
        · refine Own.of_blk (setRow_heap w g cur _ e _ hblk) hroom h4 ?_ ?_
          · simp [bs_length, h5]
            omega
          · rw [Nat.mul_one] at h6 ⊢
            rw [h6]
            simp only [List.append_assoc]
            rw [List.take_append, List.take_of_length_le (by rw [bs_length]; omega), bs_length, List.take_left' (by rw [bs_length, List.length_replicate]; omega), bs_append]
        · exact (Chg.refl _ w).setRow (fun _ => ⟨_, rfl, rfl⟩) _
    · have h63 : ¬ (9223372036854775807 < ((n : Int) + (m : Int))) := by omega
      have h48' : ¬ (281474976710656 < Builtin.nextslicecap (n + m) c * 1) := by
        have := growslice_fits (need := n + m) (old := c) (bytes := 1) (by omega) (by omega)
        omega
      have hge := grownCap_ge w (n + m) c e
      have hcm := grownCap_le_maxLen w (n + m) c e (by unfold maxLen; omega)
      have hold : (Builtin.firstCells 1 n (.slice A n c)).run P w.drew = .ok (bs xs).toArray w.drew := by
        rcases A with _ | ad
        · rcases hR.form with ⟨_, h1, h2, h3⟩ | ⟨_, _, h, _⟩
          · rw [h3, h1]
            exact run_firstCells_none w.drew 1 0 0 c
          · cases h
        · exact run_firstCells_some (P := P) w.drew 1 n ad n c (bs xs) (by rw [bs_length]; omega) (fun j u hu => by
            obtain ⟨ad', h, hc⟩ := hR.rd j u hu
            injection h with h
            subst h
            exact hc)
      refine ⟨some ⟨w.heap.size, 0, none⟩, grownCap w (n + m) c e, w.drew.alloc (.cells ((bs xs).toArray ++ (bs (List.replicate m 0)).toArray ++ (bs (List.replicate (grownCap w (n + m) c e - (n + m)) 0)).toArray) e), ?_, ?_, ?_, .inr rfl⟩
      · simp [Builtin.append_, run_underlying hu, run_underlying ht, sizeOf, typeInfo, zeroValue, hi, hz, hs, hb, asInt, asIntOf, hw, h0, h48, hm0, hroom, h63, Question.forced, hold, zero_bytes, newRow, grownCap]
        intro h
        exact absurd h (by rw [Nat.mul_one] at h48'; exact h48')
      · refine Own.of_blk (heap_alloc_new w.drew _) hge hcm ?_ ?_
        · simp [bs_length]
          omega
        · rw [Nat.mul_one]
          simp only [Array.toList_append, List.append_assoc]
          rw [← List.append_assoc, List.take_left' (by simp [bs_length]; omega), bs_append]
      · exact ((Chg.refl _ w).drew).alloc _
theorem wpList_append_noughts {P : Program} {w : World} {t e ti : TypeId} {ops : Array Oper} {rest : List Oper} {o : Oper} {a : Act} {Q : Exit → Act → World → Prop} (hgd : o.guard = none) (s x : Operand) (E : Elem P t e 1 1 (.int .u8 0)) (ht : P.underlying ti = some (.int .i64))
    (ho : o.op = .call { callee := .builtin .append, args := #[s, x], argTypes := #[t, ti] })
    {A : Option Addr} {n c m : Nat} {xs : List UInt8} (hs : a.eval s = .slice A n c) (hown : Own w e 1 A n c (bs xs)) (hx : a.eval x = .int .i64 (m : Int)) (hm : Hid (n + m ≤ 100000000000))
    (h : ∀ A' c' w', Own w' e 1 A' (n + m) c' (bs (xs ++ List.replicate m 0)) → Chg (fun k => ∃ ad, A = some ad ∧ ad.block = k) w w' → (A' = A ∨ A' = some ⟨w.heap.size, 0, none⟩) → wpList P ops Q rest (a.put o.dst (.slice A' (n + m) c')) w') : wpList P ops Q (o :: rest) a w :=
  wpList_plain hgd fun _ hK => by
    obtain ⟨A', c', w', hrun, h2, h3, h4⟩ := run_append_noughts (P := P) E ht o.type hown hm.out
    unfold Oper.wp execOp
    simp only [ho, resolve, invoke, builtin, Sem.run_bind, Sem.run_pure, Result.andThen_ok, List.map_toArray, List.map_cons, List.map_nil, hs, hx, hrun]
    exact hK _ _ (h A' c' w' h2 h3 h4)
end Go.Proofs.Ytlaohifjdpjocaa
