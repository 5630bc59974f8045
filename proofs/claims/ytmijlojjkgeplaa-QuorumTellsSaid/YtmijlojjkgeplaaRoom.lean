/- One byte behind a row with room (append in place, or in a new block). -/
import Derived.Test.YtmijlojjkgeplaaJoin
open Go Go.RowKit
namespace Go.Proofs.Ytmijlojjkgeplaa
/-- a row of the call's own whose cells all are bytes -/
theorem room_of_blk {w : World} {g n c : Nat} {e : TypeId} {zs : List UInt8} (hb : Blk w g e (bs zs).toArray) (hn : n ≤ c) (hc : zs.length = c) (hm : c ≤ maxLen) : Room w (some ⟨g, 0, none⟩) n c (zs.take n) := by
  refine ⟨by rw [List.length_take]; omega, hn, hm, .inr ⟨g, zs, rfl, hc, rfl, fun k u hk => ⟨_, rfl, ?_⟩, fun i _ => hb.frozen i⟩⟩
  rw [add_row, hb.cell k]
  simpa using hk
theorem zero_bytes (k : Nat) : Builtin.zeroCells (Value.int .u8 0).cells k = (bs (List.replicate k 0)).toArray := by
  apply Array.ext'
  apply List.ext_getElem
  · simp [Builtin.zeroCells, Value.cells, bs]
  · intro i h1 h2
    simp [Builtin.zeroCells, Value.cells, bs, u8v, Nat.mod_one]
theorem bytes_of_cells {e : TypeId} {w : World} {A : Option Addr} {n c : Nat} {xs : List UInt8} (h : Own w e 1 A n c (bs xs)) : xs.length = n := by
  have := h.len
  rw [bs_length] at this
  omega
theorem run_append_room {P : Program} {w : World} {t e : TypeId} (E : Elem P t e 1 1 (.int .u8 0)) (ty : TypeId) {A : Option Addr} {n c : Nat} {xs : List UInt8} (hR : Room w A n c xs)
    {ad2 : Addr} {c2 : Nat} {y : UInt8} (hc : w.cell? ad2 = some (u8v y)) (hx : n ≤ 100000000000) :
    ∃ A' c' w', (Builtin.append_ #[t, t] ty #[.slice A n c, .slice (some ad2) 1 c2]).run P w = .ok (.slice A' (n + 1) c') w' ∧ Room w' A' (n + 1) c' (xs ++ [y]) ∧
      Chg (fun k => ∃ ad, A = some ad ∧ ad.block = k) w w' ∧ (A' = A ∨ A' = some ⟨w.heap.size, 0, none⟩) := by
  obtain ⟨i, hi, hz, hs, hb⟩ := info_parts E.info
  have hnews : ∀ j v, [u8v y][j]? = some v → w.cell? (ad2.add j) = some v := fun j v hj => by
    cases j with
    | zero => simp at hj; subst hj; rw [add_zero_spot]; exact hc
    | succ j => simp at hj
  have hlen := hR.len
  have hle := hR.le
  have hmax := hR.max
  rcases hR.at_ with ⟨rfl, rfl⟩ | ⟨g, zs, rfl, hzl, htk, hrd, hfz⟩
  · obtain rfl : n = 0 := by omega
    obtain rfl : xs = [] := List.eq_nil_of_length_eq_zero (by omega)
    have hr := run_append_nil (P := P) w t ty e i (.int .u8 0) E.under hi hz ad2 1 c2 [u8v y] (by rw [hs]; rfl) hnews (by omega) (by omega) (by rw [hb]; omega)
    have hge := grownCap_ge w 1 0 e
    have hcm := grownCap_le_maxLen w 1 0 e (by unfold maxLen; omega)
    generalize grownCap w 1 0 e = cap at hr hge hcm
    refine ⟨_, _, _, hr, ?_, (Chg.refl _ w).drew.alloc _, .inr rfl⟩
    have hb1 : Blk (w.drew.alloc (.cells ([u8v y].toArray ++ Builtin.zeroCells (Value.int .u8 0).cells (cap - 1)) e)) w.heap.size e (bs ([y] ++ List.replicate (cap - 1) 0)).toArray := by
      rw [zero_bytes]
      have h1 := Blk.new w.drew e (bs ([y] ++ List.replicate (cap - 1) 0)).toArray
      have h2 : [u8v y].toArray ++ (bs (List.replicate (cap - 1) 0)).toArray = (bs ([y] ++ List.replicate (cap - 1) 0)).toArray := by
        simp [bs]
      rw [h2]
      exact h1
    exact room_of_blk (n := 0 + 1) (c := cap) hb1 hge (by simp; omega) hcm
  · have hcz : ∀ j (hj : j < zs.length), w.cell? ⟨g, j, none⟩ = some (u8v zs[j]) := fun j hj => by
      obtain ⟨ad, h1, h2⟩ := hrd j (u8v zs[j]) (by simp [bs, hj])
      injection h1 with h1
      subst h1
      rwa [add_row] at h2
    by_cases hroom : n + 1 ≤ c
    · have hcell := hcz n (by omega)
      have hfn := hfz n (by omega)
      have hf := run_firstCells_some (P := P) w 1 1 ad2 1 c2 [u8v y] rfl hnews
      refine ⟨some ⟨g, 0, none⟩, c, w.setCell ⟨g, n, none⟩ (u8v y), ?_, ?_, ?_, .inl rfl⟩
      · have hst : (store ⟨g, n, none⟩ (u8v y)).run P w = .ok () (w.setCell ⟨g, n, none⟩ (u8v y)) := by
          unfold u8v at hcell ⊢
          rw [run_store_int]
          simp [stored, hcell, hfn]
        simp [Builtin.append_, run_underlying E.under, sizeOf, typeInfo, hi, hs, Builtin.lenOf, hf, hroom, storeCells, add_row, add_zero_spot, hst]
      · refine ⟨by simp [hlen], hroom, hmax, .inr ⟨g, zs.set n y, rfl, by simp [hzl], ?_, ?_, ?_⟩⟩
        · have hnl : n < zs.length := by omega
          rw [List.take_set, List.take_succ_eq_append_getElem hnl, htk, List.set_append_right _ _ (by omega), hlen, Nat.sub_self]
          rfl
        · intro k u hk
          refine ⟨_, rfl, ?_⟩
          rw [add_row]
          have hk' : k < zs.length := by simpa [bs] using (List.getElem?_eq_some_iff.1 hk).1
          simp only [bs, List.getElem?_map] at hk
          rw [List.getElem?_set] at hk
          by_cases hkn : n = k
          · subst hkn
            rw [if_pos rfl, if_pos hk'] at hk
            simp at hk
            subst hk
            exact World.cell?_setCell_same w _ _ hcell
          · rw [if_neg hkn, List.getElem?_eq_getElem hk'] at hk
            simp at hk
            subst hk
            rw [World.cell?_setCell_other w _ _ _ (fun e => hkn (congrArg Addr.off e))]
            exact hcz k hk'
        · intro j hj
          have h1 : (w.setCell ⟨g, n, none⟩ (u8v y)).frozen? ⟨g, j, none⟩ = w.frozen? ⟨g, j, none⟩ := by simp
          rw [h1]
          exact hfz j hj
      · exact (Chg.refl _ w).setCell (p := ⟨g, n, none⟩) (fun _ => ⟨_, rfl, rfl⟩) _
    · obtain rfl : n = c := by omega
      have hzx : zs = xs := by rw [← htk, List.take_of_length_le (by omega)]
      subst hzx
      have hr := run_append_grow (P := P) (w := w) t ty e i (.int .u8 0) E.under hi hz ⟨g, 0, none⟩ n n (bs zs) (by rw [hs, bs_length]; omega) (fun j v hj => by
        obtain ⟨ad, h1, h2⟩ := hrd j v hj
        injection h1 with h1
        subst h1
        exact h2) ad2 1 c2 [u8v y] (by rw [hs]; rfl) hnews (by omega) (by omega) (growslice_fits (by omega) (by rw [hb]; omega))
      have hge := grownCap_ge w (n + 1) n e
      have hcm := grownCap_le_maxLen w (n + 1) n e (by unfold maxLen; omega)
      generalize grownCap w (n + 1) n e = cap at hr hge hcm
      refine ⟨_, _, _, hr, ?_, (Chg.refl _ w).drew.alloc _, .inr rfl⟩
      have hb1 : Blk (w.drew.alloc (.cells ((bs zs).toArray ++ [u8v y].toArray ++ Builtin.zeroCells (Value.int .u8 0).cells (cap - (n + 1))) e)) w.heap.size e (bs (zs ++ [y] ++ List.replicate (cap - (n + 1)) 0)).toArray := by
        rw [zero_bytes]
        have h1 := Blk.new w.drew e (bs (zs ++ [y] ++ List.replicate (cap - (n + 1)) 0)).toArray
        have h2 : (bs zs).toArray ++ [u8v y].toArray ++ (bs (List.replicate (cap - (n + 1)) 0)).toArray = (bs (zs ++ [y] ++ List.replicate (cap - (n + 1)) 0)).toArray := by
          simp [bs]
        rw [h2]
        exact h1
      have h3 := room_of_blk (n := n + 1) (c := cap) hb1 hge (by simp; omega) hcm
      rw [List.take_left' (by simp; omega)] at h3
      exact h3
theorem wpList_append_run {P : Program} {t : TypeId} {ops : Array Oper} {rest : List Oper} {o : Oper} {a : Act} {w w' : World} {v : Value} {Q : Exit → Act → World → Prop} (hgd : o.guard = none) (s x : Operand)
    (ho : o.op = .call { callee := .builtin .append, args := #[s, x], argTypes := #[t, t] }) {vs vx : Value} (hs : a.eval s = vs) (hx : a.eval x = vx)
    (hrun : (Builtin.append_ #[t, t] o.type #[vs, vx]).run P w = .ok v w') (h : wpList P ops Q rest (a.put o.dst v) w') : wpList P ops Q (o :: rest) a w :=
  wpList_plain hgd fun _ hK => by
    unfold Oper.wp execOp
    simp only [ho, resolve, invoke, builtin, Sem.run_bind, Sem.run_pure, Result.andThen_ok, List.map_toArray, List.map_cons, List.map_nil, hs, hx, hrun]
    exact hK _ _ h
end Go.Proofs.Ytmijlojjkgeplaa
