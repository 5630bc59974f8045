/- Bytes of which one is turned are never read as what they were (the law WireTurned). -/
import Derived.Test.YtecmeejbpkcgiaaWyM
import Derived.Test.YtecmeejbpkcgiaaWyQ
import Derived.Test.YtecmeejbpkcgiaaWxB
import Derived.Test.YtecmeejbpkcgiaaWuC
open Go Go.RowKit
namespace Go.Proofs.Ytecmeejbpkcgiaa
section
variable {P : Program} {ops : Array Oper} {rest : List Oper} {a : Act} {w : World} {Q : Exit → Act → World → Prop} {dst : Option Tmp} {ty : TypeId} {pos : String} {after : Array Edge} {gd : Option (Nat × Bool)}
/-- an address within a slice that is somewhere -/
theorem ev_indexNW {t : TypeId} {x ix : Operand} {ad : Addr} {n c k : Nat} (hx : a.eval x = .slice (some ad) n c) (hi : a.eval ix = .int .i64 (k : Int)) {e : TypeId} {bytes : Nat} {z : Value} (E : ElemT P t e 1 bytes z) (h1 : k < n) :
    (execOp a.eval ⟨dst, .indexAddr t x ix, ty, pos, after, gd⟩).run P w = .ok (.value (ptrOf (some ad) k)) w := by
  obtain ⟨ti, hti, hz, hsz, hb⟩ := info_parts E.out.info
  show ((Instr.indexAt t (a.eval x) (a.eval ix)) >>= fun v => pure (Next.value v)).run P w = _
  rw [hx, hi]
  simp [Instr.indexAt, asIntOf, run_underlying E.out.under, sizeOf, typeInfo, hti, hsz, h1, ptrOf, shift]
theorem wpl_indexNW {t : TypeId} {x ix : Operand} {ad : Addr} {n c k : Nat} (hx : a.eval x = .slice (some ad) n c) (hi : a.eval ix = .int .i64 (k : Int)) {e : TypeId} {bytes : Nat} {z : Value} (E : ElemT P t e 1 bytes z) (h1 : k < n)
    (h : wpList P ops Q rest (a.put dst (ptrOf (some ad) k)) w) : wpList P ops Q (⟨dst, .indexAddr t x ix, ty, pos, after, none⟩ :: rest) a w := wpl_of_run rfl (ev_indexNW hx hi E h1) h
theorem bs_setW {d : List UInt8} {k : Nat} {v : Int} (hk : k < d.length) (hv : 0 ≤ v ∧ v < 256) : (bs d).take k ++ [Value.int .u8 v] ++ (bs d).drop (k + 1) = bs (d.set k (b8 v)) := by
  have hs1 : (bs d).take k ++ [Value.int .u8 v] ++ (bs d).drop (k + 1) = (bs d).set k (.int .u8 v) := by
    rw [List.set_eq_take_append_cons_drop, if_pos (by rw [bs_length]; exact hk)]
    simp
  rw [hs1]
  have := b8_in hv.1 hv.2
  rw [bs, bs, List.map_set]
  congr 1
  rw [u8v, ← this]
/-- a byte of a row of the call's own written -/
theorem wpl_storeBW {t : TypeId} {x y : Operand} {A : Option Addr} {k : Nat} {v : Int} (hx : a.eval x = ptrOf A k) (hy : a.eval y = .int .u8 v) {e : TypeId} {n c : Nat} {d : List UInt8} (ho : HO w e 1 A n c (bs d)) [ht : CellT P t] (hk : k < d.length) (hv : 0 ≤ v ∧ v < 256)
    (h : ∀ w', Step (rowOf A) w w' → HO w' e 1 A n c (bs (d.set k (b8 v))) → wpList P ops Q rest (a.put dst undef) w') : wpList P ops Q (⟨dst, .store t x y, ty, pos, after, none⟩ :: rest) a w := by
  obtain ⟨g, hA, h1, h2, h3⟩ := own_setCells ho.out (k := k) (cs := [.int .u8 v]) (m := 1) rfl (by rw [bs_length]; omega) (by decide)
  refine wpl_of_unit rfl (w' := w.setCells g k [.int .u8 v]) ?_ (h _ ⟨h3⟩ ⟨?_⟩)
  · have hc := h1 0 (by decide)
    have hst := run_store P w ⟨g, k, none⟩ (.int .u8 v) .plain rfl
    rw [Nat.add_zero] at hc
    obtain ⟨u, hu⟩ := Option.isSome_iff_exists.1 hc.1
    rw [hu, hc.2] at hst
    show ((Instr.storeAt t (a.eval x) (a.eval y)) >>= fun _ => pure Next.skip).run P w = _
    rw [hx, hy, hA]
    simp [Instr.storeAt, Instr.sureAddr, ptrOf, shift_some, add_row, storeVar, Value.cells, ht.size1 w, storeCells, add_zero_spot, hst, World.setCells]
  · rw [← bs_setW hk hv]
    exact h2
theorem wpl_and16 {t : TypeId} {x : Operand} {p r : Int} (hx : a.eval x = .int .i64 p) (hr : bits .and .i64 p 65535 = r) (h : wpList P ops Q rest (a.put dst (.int .i64 r)) w) : wpList P ops Q (⟨dst, .binOp .and t x (.const (.int .i64 65535)) t, ty, pos, after, none⟩ :: rest) a w := by
  subst hr
  refine wpl_of_run (v := .int .i64 (bits .and .i64 p 65535)) rfl ?_ h
  show ((Go.binOp .and t (a.eval x) (.int .i64 65535)) >>= fun v => pure (Next.value v)).run P w = _
  rw [hx]
  rfl
theorem wpl_remE {t : TypeId} {x y : Operand} {p q r : Int} (hx : a.eval x = .int .i64 p) (hy : a.eval y = .int .i64 q) (hq : q ≠ 0) (hr : p.tmod q = r) (h : wpList P ops Q rest (a.put dst (.int .i64 r)) w) : wpList P ops Q (⟨dst, .binOp .rem t x y t, ty, pos, after, none⟩ :: rest) a w := by
  subst hr
  refine wpl_of_run (v := .int .i64 (p.tmod q)) rfl ?_ h
  show ((Go.binOp .rem t (a.eval x) (a.eval y)) >>= fun v => pure (Next.value v)).run P w = _
  rw [hx, hy]
  simp [binOp, Op.intDiv, hq]
theorem wpl_xorE {t : TypeId} {x y : Operand} {p q r : Int} (hx : a.eval x = .int .u8 p) (hy : a.eval y = .int .u8 q) (hr : bits .xor .u8 p q = r) (h : wpList P ops Q rest (a.put dst (.int .u8 r)) w) : wpList P ops Q (⟨dst, .binOp .xor t x y t, ty, pos, after, none⟩ :: rest) a w := by
  subst hr
  refine wpl_of_run (v := .int .u8 (bits .xor .u8 p q)) rfl ?_ h
  show ((Go.binOp .xor t (a.eval x) (a.eval y)) >>= fun v => pure (Next.value v)).run P w = _
  rw [hx, hy]
  rfl
end
theorem and_lowW (a : Int) : ∃ q : Nat, bits .and .i64 a 65535 = (q : Int) ∧ q ≤ 65535 := by
  have hle : (BitVec.ofInt 64 a &&& BitVec.ofInt 64 (65535 : Int)).toNat ≤ 65535 := by
    rw [BitVec.toNat_and]
    have h1 : (BitVec.ofInt 64 (65535 : Int)).toNat = 65535 := by decide
    rw [h1]
    exact Nat.and_le_right
  refine ⟨(BitVec.ofInt 64 a &&& BitVec.ofInt 64 (65535 : Int)).toNat, ?_, hle⟩
  show IntKind.i64.wrap ((BitVec.ofInt 64 a &&& BitVec.ofInt 64 (65535 : Int)).toNat : Int) = _
  rw [IntKind.wrap_i64]
  omega
theorem bs_getqW (d : List UInt8) (k : Nat) (h : k < d.length) : (bs d)[k]? = some (.int .u8 ((bget d k).toNat : Int)) := by
  rw [bs, List.getElem?_map, List.getElem?_eq_getElem h, bget, List.getD_eq_getElem?_getD, List.getElem?_eq_getElem h]
  rfl
theorem set_ne (l : List UInt8) (j : Nat) (hj : j < l.length) (x : UInt8) (h : x ≠ bget l j) : l.set j x ≠ l := fun e => h (by
  have h1 : (l.set j x)[j]? = l[j]? := by rw [e]
  rw [List.getElem?_set_self hj] at h1
  rw [bget, List.getD_eq_getElem?_getD, ← h1]
  rfl)
theorem tmB_turned {b : List UInt8} {v e s : Int} {h : H32} (ho : tOk b = true) (hn : b ≠ timE v e s h) : tmB ⟨tV (kindS 2 b), tE (kindS 2 b), tS (kindS 2 b), tH (kindS 2 b)⟩ ⟨v, e, s, h⟩ = false := by
  cases hb : tmB ⟨tV (kindS 2 b), tE (kindS 2 b), tS (kindS 2 b), tH (kindS 2 b)⟩ ⟨v, e, s, h⟩
  · rfl
  · have h1 := tmB_iff hb
    injection h1 with a1 a2 a3 a4
    have h2 := tOk_back ho
    rw [a1, a2, a3, a4] at h2
    exact absurd h2 hn
theorem rpB_turned {b : List UInt8} {u n : ByteArray} {h : H32} {c k : Int} (ho : rOk b = true) (hn : b ≠ repE u.data.toList n.data.toList h c k) : rpB ⟨strL (rU (kindS 5 b)), strL (rN (kindS 5 b)), rH (kindS 5 b), rC (kindS 5 b), rK (kindS 5 b)⟩ ⟨u, n, h, c, k⟩ = false := by
  cases hb : rpB ⟨strL (rU (kindS 5 b)), strL (rN (kindS 5 b)), rH (kindS 5 b), rC (kindS 5 b), rK (kindS 5 b)⟩ ⟨u, n, h, c, k⟩
  · rfl
  · simp only [rpB, Bool.and_eq_true, decide_eq_true_eq, beq_iff_eq] at hb
    obtain ⟨a1, a2, a3, a4, a5⟩ := hb
    rw [strL_list, toL rfl] at a1 a2
    have h2 := rOk_back ho
    rw [a1, a2, a3, a4, a5] at h2
    exact absurd h2 hn
theorem timE_len (v e s : Int) (h : H32) : 32 ≤ (timE v e s h).length ∧ (timE v e s h).length ≤ 100 := by
  have a1 := encAll_len [2]
  have a2 := encAll_len [v, e, s]
  simp only [timE, List.length_append, List.length_cons, List.length_nil, H32.len_] at *
  omega
theorem repE_len {l m : List UInt8} (h : H32) (c k : Int) (hl : nameL l = true) (hm : nameE m = true) : 32 ≤ (repE l m h c k).length ∧ (repE l m h c k).length ≤ 200 := by
  have a1 := encAll_len [5]
  have a2 := encAll_len [c, k]
  have a3 := nameL_le hl
  have a4 := nameE_le hm
  have a5 := encRow_len l (by omega)
  have a6 := encRow_len m (by omega)
  simp only [repE, List.length_append, List.length_cons, List.length_nil, H32.len_] at *
  omega
set_option maxRecDepth 100000 in
set_option maxHeartbeats 3200000 in
theorem wireTurned_calls (v e0 s : Int) (h : H32) (u n : ByteArray) (h2 : H32) (c k at' : Int) (by' : UInt8) (hu : u.size ≤ 9223372036854775807) (hn : n.size ≤ 9223372036854775807) (w : World) :
    Calls Try.prog 11 #[.agg (timL v e0 s h).toArray, .agg (repL u n h2 c k).toArray, .int .i64 at', .int .u8 (by'.toNat : Int)] w fun e w' => e = .returned (.bool true) ∧ Chg nowhere w w' := by
  have hlen1 := timL_len v e0 s h
  have hone1 := timL_one v e0 s h
  have hlen2 := repL_len u n h2 c k
  have hone2 := repL_one u n h2 c k
  obtain ⟨y, hy⟩ : ∃ y : Int, y = (by'.toNat : Int) := ⟨_, rfl⟩
  have HY := Lib.hid hy
  rw [← hy]
  clear hy
  cases hT : timB v e0 s
  case false =>
    go_enter Try.func11, Try.ntmps11
    go_wp2_with (first | go_skip | ((with_reducible apply wpl_loadrow); (exact rfl); (exact inferInstance); (exact inferInstance); (first | (exact timL_len _ _ _ _) | (exact repL_len _ _ _ _ _) | (exact hD1) | (exact hD2))) | ((with_reducible apply (wpl_alloc (dst := some 4))); intro z4 wz4 _ _ _) | ((with_reducible apply (wpl_box_agg (dst := some 4))); (exact rfl); intro z4 wz4 _ _ _) | ((with_reducible apply (wpl_box_int (dst := some 4))); (exact rfl); intro z4 wz4 _ _ _) | ((with_reducible apply (wpl_box_slice (dst := some 4))); (exact rfl); intro z4 wz4 _ _ _) | ((with_reducible apply (wpl_box_str (dst := some 4))); (exact rfl); intro z4 wz4 _ _ _) | ((with_reducible apply (wpl_box_bool (dst := some 4))); (exact rfl); intro z4 wz4 _ _ _) | ((with_reducible apply (wpl_box_ptr (dst := some 4))); (exact rfl); intro z4 wz4 _ _ _) | ((with_reducible apply (wpl_alloc (dst := some 5))); intro z5 wz5 _ _ _) | ((with_reducible apply (wpl_box_agg (dst := some 5))); (exact rfl); intro z5 wz5 _ _ _) | ((with_reducible apply (wpl_box_int (dst := some 5))); (exact rfl); intro z5 wz5 _ _ _) | ((with_reducible apply (wpl_box_slice (dst := some 5))); (exact rfl); intro z5 wz5 _ _ _) | ((with_reducible apply (wpl_box_str (dst := some 5))); (exact rfl); intro z5 wz5 _ _ _) | ((with_reducible apply (wpl_box_bool (dst := some 5))); (exact rfl); intro z5 wz5 _ _ _) | ((with_reducible apply (wpl_box_ptr (dst := some 5))); (exact rfl); intro z5 wz5 _ _ _) | ((with_reducible apply wpl_alloc); intro z wz _ _ _) | ((with_reducible apply wpl_box_agg); (exact rfl); intro z wz _ _ _) | ((with_reducible apply wpl_box_int); (exact rfl); intro z wz _ _ _) | ((with_reducible apply wpl_box_slice); (exact rfl); intro z wz _ _ _) | ((with_reducible apply wpl_box_str); (exact rfl); intro z wz _ _ _) | ((with_reducible apply wpl_box_bool); (exact rfl); intro z wz _ _ _) | ((with_reducible apply wpl_box_ptr); (exact rfl); intro z wz _ _ _) | ((with_reducible apply (wpl_guard (op := .load _ _))); (exact rfl)) | ((with_reducible apply wpl_loadrow); (exact rfl); (exact inferInstance); (exact inferInstance); (first | (with_reducible assumption) | (with_reducible exact H32.size _) | kernel_rfl)) | ((with_reducible apply wpl_loadcellN); (exact rfl); (exact inferInstance); (exact rfl)) | ((with_reducible apply wpl_storerow); (exact rfl); (exact rfl); (exact inferInstance); (exact inferInstance); (first | (with_reducible assumption) | (with_reducible exact H32.size _) | kernel_rfl); (first | (with_reducible assumption) | (with_reducible exact H32.size _) | kernel_rfl); (first | (with_reducible exact u8s_one _) | (with_reducible assumption) | kernel_rfl); intro ws _ _) | ((with_reducible apply wpl_storecell); (exact rfl); (exact rfl); (exact inferInstance); (exact rfl); (first | (with_reducible assumption) | omega | (focus (simp; done)) | (focus (simp; omega; done)) | decide); intro ws _ _))
    refine (rIsTime_calls v e0 s h _).mono ?_
    rw [hT]
    rintro e w5 ⟨rfl, _⟩
    go_wp2_with (first | go_skip | ((with_reducible apply wpl_loadrow); (exact rfl); (exact inferInstance); (exact inferInstance); (first | (exact timL_len _ _ _ _) | (exact repL_len _ _ _ _ _) | (exact hD1) | (exact hD2))) | ((with_reducible apply wpl_alloc); intro z wz _ _ _) | ((with_reducible apply wpl_box_agg); (exact rfl); intro z wz _ _ _) | ((with_reducible apply wpl_box_int); (exact rfl); intro z wz _ _ _) | ((with_reducible apply wpl_box_slice); (exact rfl); intro z wz _ _ _) | ((with_reducible apply wpl_box_str); (exact rfl); intro z wz _ _ _) | ((with_reducible apply wpl_box_bool); (exact rfl); intro z wz _ _ _) | ((with_reducible apply wpl_box_ptr); (exact rfl); intro z wz _ _ _) | ((with_reducible apply (wpl_guard (op := .load _ _))); (exact rfl)) | ((with_reducible apply wpl_loadrow); (exact rfl); (exact inferInstance); (exact inferInstance); (first | (with_reducible assumption) | (with_reducible exact H32.size _) | kernel_rfl)) | ((with_reducible apply wpl_loadcellN); (exact rfl); (exact inferInstance); (exact rfl)) | ((with_reducible apply wpl_storerow); (exact rfl); (exact rfl); (exact inferInstance); (exact inferInstance); (first | (with_reducible assumption) | (with_reducible exact H32.size _) | kernel_rfl); (first | (with_reducible assumption) | (with_reducible exact H32.size _) | kernel_rfl); (first | (with_reducible exact u8s_one _) | (with_reducible assumption) | kernel_rfl); intro ws _ _) | ((with_reducible apply wpl_storecell); (exact rfl); (exact rfl); (exact inferInstance); (exact rfl); (first | (with_reducible assumption) | omega | (focus (simp; done)) | (focus (simp; omega; done)) | decide); intro ws _ _))
    go_ret
    exact ⟨rfl, (stepN (w0 := w)).chg⟩
  case true =>
    cases hP : repB u.data.toList n.data.toList c k
    case false =>
      go_enter Try.func11, Try.ntmps11
      go_wp2_with (first | go_skip | ((with_reducible apply wpl_loadrow); (exact rfl); (exact inferInstance); (exact inferInstance); (first | (exact timL_len _ _ _ _) | (exact repL_len _ _ _ _ _) | (exact hD1) | (exact hD2))) | ((with_reducible apply (wpl_alloc (dst := some 4))); intro z4 wz4 _ _ _) | ((with_reducible apply (wpl_box_agg (dst := some 4))); (exact rfl); intro z4 wz4 _ _ _) | ((with_reducible apply (wpl_box_int (dst := some 4))); (exact rfl); intro z4 wz4 _ _ _) | ((with_reducible apply (wpl_box_slice (dst := some 4))); (exact rfl); intro z4 wz4 _ _ _) | ((with_reducible apply (wpl_box_str (dst := some 4))); (exact rfl); intro z4 wz4 _ _ _) | ((with_reducible apply (wpl_box_bool (dst := some 4))); (exact rfl); intro z4 wz4 _ _ _) | ((with_reducible apply (wpl_box_ptr (dst := some 4))); (exact rfl); intro z4 wz4 _ _ _) | ((with_reducible apply (wpl_alloc (dst := some 5))); intro z5 wz5 _ _ _) | ((with_reducible apply (wpl_box_agg (dst := some 5))); (exact rfl); intro z5 wz5 _ _ _) | ((with_reducible apply (wpl_box_int (dst := some 5))); (exact rfl); intro z5 wz5 _ _ _) | ((with_reducible apply (wpl_box_slice (dst := some 5))); (exact rfl); intro z5 wz5 _ _ _) | ((with_reducible apply (wpl_box_str (dst := some 5))); (exact rfl); intro z5 wz5 _ _ _) | ((with_reducible apply (wpl_box_bool (dst := some 5))); (exact rfl); intro z5 wz5 _ _ _) | ((with_reducible apply (wpl_box_ptr (dst := some 5))); (exact rfl); intro z5 wz5 _ _ _) | ((with_reducible apply wpl_alloc); intro z wz _ _ _) | ((with_reducible apply wpl_box_agg); (exact rfl); intro z wz _ _ _) | ((with_reducible apply wpl_box_int); (exact rfl); intro z wz _ _ _) | ((with_reducible apply wpl_box_slice); (exact rfl); intro z wz _ _ _) | ((with_reducible apply wpl_box_str); (exact rfl); intro z wz _ _ _) | ((with_reducible apply wpl_box_bool); (exact rfl); intro z wz _ _ _) | ((with_reducible apply wpl_box_ptr); (exact rfl); intro z wz _ _ _) | ((with_reducible apply (wpl_guard (op := .load _ _))); (exact rfl)) | ((with_reducible apply wpl_loadrow); (exact rfl); (exact inferInstance); (exact inferInstance); (first | (with_reducible assumption) | (with_reducible exact H32.size _) | kernel_rfl)) | ((with_reducible apply wpl_loadcellN); (exact rfl); (exact inferInstance); (exact rfl)) | ((with_reducible apply wpl_storerow); (exact rfl); (exact rfl); (exact inferInstance); (exact inferInstance); (first | (with_reducible assumption) | (with_reducible exact H32.size _) | kernel_rfl); (first | (with_reducible assumption) | (with_reducible exact H32.size _) | kernel_rfl); (first | (with_reducible exact u8s_one _) | (with_reducible assumption) | kernel_rfl); intro ws _ _) | ((with_reducible apply wpl_storecell); (exact rfl); (exact rfl); (exact inferInstance); (exact rfl); (first | (with_reducible assumption) | omega | (focus (simp; done)) | (focus (simp; omega; done)) | decide); intro ws _ _))
      refine (rIsTime_calls v e0 s h _).mono ?_
      rw [hT]
      rintro e w5 ⟨rfl, _⟩
      go_wp2_with (first | go_skip | ((with_reducible apply (wpl_guard (op := .load _ _))); (exact rfl)) | ((with_reducible apply wpl_loadrow); (exact rfl); (exact inferInstance); (exact inferInstance); (first | (exact timL_len _ _ _ _) | (exact repL_len _ _ _ _ _) | (exact hD1) | (exact hD2))) | ((with_reducible apply wpl_alloc); intro z wz _ _ _) | ((with_reducible apply wpl_box_agg); (exact rfl); intro z wz _ _ _) | ((with_reducible apply wpl_box_int); (exact rfl); intro z wz _ _ _) | ((with_reducible apply wpl_box_slice); (exact rfl); intro z wz _ _ _) | ((with_reducible apply wpl_box_str); (exact rfl); intro z wz _ _ _) | ((with_reducible apply wpl_box_bool); (exact rfl); intro z wz _ _ _) | ((with_reducible apply wpl_box_ptr); (exact rfl); intro z wz _ _ _) | ((with_reducible apply (wpl_guard (op := .load _ _))); (exact rfl)) | ((with_reducible apply wpl_loadrow); (exact rfl); (exact inferInstance); (exact inferInstance); (first | (with_reducible assumption) | (with_reducible exact H32.size _) | kernel_rfl)) | ((with_reducible apply wpl_loadcellN); (exact rfl); (exact inferInstance); (exact rfl)) | ((with_reducible apply wpl_storerow); (exact rfl); (exact rfl); (exact inferInstance); (exact inferInstance); (first | (with_reducible assumption) | (with_reducible exact H32.size _) | kernel_rfl); (first | (with_reducible assumption) | (with_reducible exact H32.size _) | kernel_rfl); (first | (with_reducible exact u8s_one _) | (with_reducible assumption) | kernel_rfl); intro ws _ _) | ((with_reducible apply wpl_storecell); (exact rfl); (exact rfl); (exact inferInstance); (exact rfl); (first | (with_reducible assumption) | omega | (focus (simp; done)) | (focus (simp; omega; done)) | decide); intro ws _ _))
      refine (rIsReport_calls u n h2 c k _ _ rfl rfl hu hn _).mono ?_
      rw [hP]
      rintro e w6 ⟨rfl, _⟩
      go_wp2_with (first | go_skip | ((with_reducible apply wpl_loadrow); (exact rfl); (exact inferInstance); (exact inferInstance); (first | (exact timL_len _ _ _ _) | (exact repL_len _ _ _ _ _) | (exact hD1) | (exact hD2))) | ((with_reducible apply wpl_alloc); intro z wz _ _ _) | ((with_reducible apply wpl_box_agg); (exact rfl); intro z wz _ _ _) | ((with_reducible apply wpl_box_int); (exact rfl); intro z wz _ _ _) | ((with_reducible apply wpl_box_slice); (exact rfl); intro z wz _ _ _) | ((with_reducible apply wpl_box_str); (exact rfl); intro z wz _ _ _) | ((with_reducible apply wpl_box_bool); (exact rfl); intro z wz _ _ _) | ((with_reducible apply wpl_box_ptr); (exact rfl); intro z wz _ _ _) | ((with_reducible apply (wpl_guard (op := .load _ _))); (exact rfl)) | ((with_reducible apply wpl_loadrow); (exact rfl); (exact inferInstance); (exact inferInstance); (first | (with_reducible assumption) | (with_reducible exact H32.size _) | kernel_rfl)) | ((with_reducible apply wpl_loadcellN); (exact rfl); (exact inferInstance); (exact rfl)) | ((with_reducible apply wpl_storerow); (exact rfl); (exact rfl); (exact inferInstance); (exact inferInstance); (first | (with_reducible assumption) | (with_reducible exact H32.size _) | kernel_rfl); (first | (with_reducible assumption) | (with_reducible exact H32.size _) | kernel_rfl); (first | (with_reducible exact u8s_one _) | (with_reducible assumption) | kernel_rfl); intro ws _ _) | ((with_reducible apply wpl_storecell); (exact rfl); (exact rfl); (exact inferInstance); (exact rfl); (first | (with_reducible assumption) | omega | (focus (simp; done)) | (focus (simp; omega; done)) | decide); intro ws _ _))
      go_ret
      exact ⟨rfl, (stepN (w0 := w)).chg⟩
    case true =>
      by_cases hy0 : y ≤ 0
      · have hyz : y = 0 := by have := HY.out; omega
        go_enter Try.func11, Try.ntmps11
        go_wp2_with (first | go_skip | ((with_reducible apply wpl_loadrow); (exact rfl); (exact inferInstance); (exact inferInstance); (first | (exact timL_len _ _ _ _) | (exact repL_len _ _ _ _ _) | (exact hD1) | (exact hD2))) | ((with_reducible apply (wpl_alloc (dst := some 4))); intro z4 wz4 _ _ _) | ((with_reducible apply (wpl_box_agg (dst := some 4))); (exact rfl); intro z4 wz4 _ _ _) | ((with_reducible apply (wpl_box_int (dst := some 4))); (exact rfl); intro z4 wz4 _ _ _) | ((with_reducible apply (wpl_box_slice (dst := some 4))); (exact rfl); intro z4 wz4 _ _ _) | ((with_reducible apply (wpl_box_str (dst := some 4))); (exact rfl); intro z4 wz4 _ _ _) | ((with_reducible apply (wpl_box_bool (dst := some 4))); (exact rfl); intro z4 wz4 _ _ _) | ((with_reducible apply (wpl_box_ptr (dst := some 4))); (exact rfl); intro z4 wz4 _ _ _) | ((with_reducible apply (wpl_alloc (dst := some 5))); intro z5 wz5 _ _ _) | ((with_reducible apply (wpl_box_agg (dst := some 5))); (exact rfl); intro z5 wz5 _ _ _) | ((with_reducible apply (wpl_box_int (dst := some 5))); (exact rfl); intro z5 wz5 _ _ _) | ((with_reducible apply (wpl_box_slice (dst := some 5))); (exact rfl); intro z5 wz5 _ _ _) | ((with_reducible apply (wpl_box_str (dst := some 5))); (exact rfl); intro z5 wz5 _ _ _) | ((with_reducible apply (wpl_box_bool (dst := some 5))); (exact rfl); intro z5 wz5 _ _ _) | ((with_reducible apply (wpl_box_ptr (dst := some 5))); (exact rfl); intro z5 wz5 _ _ _) | ((with_reducible apply wpl_alloc); intro z wz _ _ _) | ((with_reducible apply wpl_box_agg); (exact rfl); intro z wz _ _ _) | ((with_reducible apply wpl_box_int); (exact rfl); intro z wz _ _ _) | ((with_reducible apply wpl_box_slice); (exact rfl); intro z wz _ _ _) | ((with_reducible apply wpl_box_str); (exact rfl); intro z wz _ _ _) | ((with_reducible apply wpl_box_bool); (exact rfl); intro z wz _ _ _) | ((with_reducible apply wpl_box_ptr); (exact rfl); intro z wz _ _ _) | ((with_reducible apply (wpl_guard (op := .load _ _))); (exact rfl)) | ((with_reducible apply wpl_loadrow); (exact rfl); (exact inferInstance); (exact inferInstance); (first | (with_reducible assumption) | (with_reducible exact H32.size _) | kernel_rfl)) | ((with_reducible apply wpl_loadcellN); (exact rfl); (exact inferInstance); (exact rfl)) | ((with_reducible apply wpl_storerow); (exact rfl); (exact rfl); (exact inferInstance); (exact inferInstance); (first | (with_reducible assumption) | (with_reducible exact H32.size _) | kernel_rfl); (first | (with_reducible assumption) | (with_reducible exact H32.size _) | kernel_rfl); (first | (with_reducible exact u8s_one _) | (with_reducible assumption) | kernel_rfl); intro ws _ _) | ((with_reducible apply wpl_storecell); (exact rfl); (exact rfl); (exact inferInstance); (exact rfl); (first | (with_reducible assumption) | omega | (focus (simp; done)) | (focus (simp; omega; done)) | decide); intro ws _ _))
        refine (rIsTime_calls v e0 s h _).mono ?_
        rw [hT]
        rintro e w5 ⟨rfl, _⟩
        go_wp2_with (first | go_skip | ((with_reducible apply (wpl_guard (op := .load _ _))); (exact rfl)) | ((with_reducible apply wpl_loadrow); (exact rfl); (exact inferInstance); (exact inferInstance); (first | (exact timL_len _ _ _ _) | (exact repL_len _ _ _ _ _) | (exact hD1) | (exact hD2))) | ((with_reducible apply wpl_alloc); intro z wz _ _ _) | ((with_reducible apply wpl_box_agg); (exact rfl); intro z wz _ _ _) | ((with_reducible apply wpl_box_int); (exact rfl); intro z wz _ _ _) | ((with_reducible apply wpl_box_slice); (exact rfl); intro z wz _ _ _) | ((with_reducible apply wpl_box_str); (exact rfl); intro z wz _ _ _) | ((with_reducible apply wpl_box_bool); (exact rfl); intro z wz _ _ _) | ((with_reducible apply wpl_box_ptr); (exact rfl); intro z wz _ _ _) | ((with_reducible apply (wpl_guard (op := .load _ _))); (exact rfl)) | ((with_reducible apply wpl_loadrow); (exact rfl); (exact inferInstance); (exact inferInstance); (first | (with_reducible assumption) | (with_reducible exact H32.size _) | kernel_rfl)) | ((with_reducible apply wpl_loadcellN); (exact rfl); (exact inferInstance); (exact rfl)) | ((with_reducible apply wpl_storerow); (exact rfl); (exact rfl); (exact inferInstance); (exact inferInstance); (first | (with_reducible assumption) | (with_reducible exact H32.size _) | kernel_rfl); (first | (with_reducible assumption) | (with_reducible exact H32.size _) | kernel_rfl); (first | (with_reducible exact u8s_one _) | (with_reducible assumption) | kernel_rfl); intro ws _ _) | ((with_reducible apply wpl_storecell); (exact rfl); (exact rfl); (exact inferInstance); (exact rfl); (first | (with_reducible assumption) | omega | (focus (simp; done)) | (focus (simp; omega; done)) | decide); intro ws _ _))
        refine (rIsReport_calls u n h2 c k _ _ rfl rfl hu hn _).mono ?_
        rw [hP]
        rintro e w6 ⟨rfl, _⟩
        go_wp2_with (first | go_skip | ((with_reducible apply wpl_loadrow); (exact rfl); (exact inferInstance); (exact inferInstance); (first | (exact timL_len _ _ _ _) | (exact repL_len _ _ _ _ _) | (exact hD1) | (exact hD2))) | ((with_reducible apply wpl_alloc); intro z wz _ _ _) | ((with_reducible apply wpl_box_agg); (exact rfl); intro z wz _ _ _) | ((with_reducible apply wpl_box_int); (exact rfl); intro z wz _ _ _) | ((with_reducible apply wpl_box_slice); (exact rfl); intro z wz _ _ _) | ((with_reducible apply wpl_box_str); (exact rfl); intro z wz _ _ _) | ((with_reducible apply wpl_box_bool); (exact rfl); intro z wz _ _ _) | ((with_reducible apply wpl_box_ptr); (exact rfl); intro z wz _ _ _) | ((with_reducible apply (wpl_guard (op := .load _ _))); (exact rfl)) | ((with_reducible apply wpl_loadrow); (exact rfl); (exact inferInstance); (exact inferInstance); (first | (with_reducible assumption) | (with_reducible exact H32.size _) | kernel_rfl)) | ((with_reducible apply wpl_loadcellN); (exact rfl); (exact inferInstance); (exact rfl)) | ((with_reducible apply wpl_storerow); (exact rfl); (exact rfl); (exact inferInstance); (exact inferInstance); (first | (with_reducible assumption) | (with_reducible exact H32.size _) | kernel_rfl); (first | (with_reducible assumption) | (with_reducible exact H32.size _) | kernel_rfl); (first | (with_reducible exact u8s_one _) | (with_reducible assumption) | kernel_rfl); intro ws _ _) | ((with_reducible apply wpl_storecell); (exact rfl); (exact rfl); (exact inferInstance); (exact rfl); (first | (with_reducible assumption) | omega | (focus (simp; done)) | (focus (simp; omega; done)) | decide); intro ws _ _))
        go_ret
        exact ⟨rfl, (stepN (w0 := w)).chg⟩
      have hy1 : 0 < y := by omega
      have hyne : by' ≠ 0 := fun e => by
        have := HY.out
        rw [e] at this
        have h0 : ((0 : UInt8).toNat : Int) = 0 := rfl
        omega
      have hPL : nameL u.data.toList = true ∧ nameE n.data.toList = true := by
        have := hP
        simp only [repB, Bool.and_eq_true] at this
        exact ⟨this.1.1.1, this.1.1.2⟩
      obtain ⟨BT, hBT⟩ : ∃ x, x = timE v e0 s h := ⟨_, rfl⟩
      obtain ⟨BR, hBR⟩ : ∃ x, x = repE u.data.toList n.data.toList h2 c k := ⟨_, rfl⟩
      obtain ⟨lt1, lt2⟩ := timE_len v e0 s h
      obtain ⟨lr1, lr2⟩ := repE_len h2 c k hPL.1 hPL.2
      rw [← hBT] at lt1 lt2
      rw [← hBR] at lr1 lr2
      have HBT := Lib.hid hBT
      have HBR := Lib.hid hBR
      obtain ⟨q0, hq0, _⟩ := and_lowW at'
      obtain ⟨j1, hj1⟩ : ∃ j, j = q0 % BT.length := ⟨_, rfl⟩
      obtain ⟨j2, hj2⟩ : ∃ j, j = q0 % BR.length := ⟨_, rfl⟩
      have hjn1 : j1 < BT.length := by rw [hj1]; exact Nat.mod_lt _ (by omega)
      have hjn2 : j2 < BR.length := by rw [hj2]; exact Nat.mod_lt _ (by omega)
      have HR1 : Hid ((q0 : Int).tmod (BT.length : Int) = (j1 : Int)) := Lib.hid (by rw [hj1]; exact (Int.ofNat_tmod q0 BT.length).symm)
      have HR2 : Hid ((q0 : Int).tmod (BR.length : Int) = (j2 : Int)) := Lib.hid (by rw [hj2]; exact (Int.ofNat_tmod q0 BR.length).symm)
      have hvd1 := bs_getqW BT j1 hjn1
      have hvd2 := bs_getqW BR j2 hjn2
      obtain ⟨x1, hx1⟩ : ∃ x, x = bits .xor .u8 ((bget BT j1).toNat : Int) y := ⟨_, rfl⟩
      obtain ⟨x2, hx2⟩ : ∃ x, x = bits .xor .u8 ((bget BR j2).toNat : Int) y := ⟨_, rfl⟩
      have HX1 : Hid (bits .xor .u8 ((bget BT j1).toNat : Int) y = x1) := Lib.hid hx1.symm
      have HX2 : Hid (bits .xor .u8 ((bget BR j2).toNat : Int) y = x2) := Lib.hid hx2.symm
      have hb1 : 0 ≤ x1 ∧ x1 < 256 := by rw [hx1]; exact xor_u8_in _ _
      have hb2 : 0 ≤ x2 ∧ x2 < 256 := by rw [hx2]; exact xor_u8_in _ _
      obtain ⟨BT', hBT'⟩ : ∃ x, x = BT.set j1 (b8 x1) := ⟨_, rfl⟩
      obtain ⟨BR', hBR'⟩ : ∃ x, x = BR.set j2 (b8 x2) := ⟨_, rfl⟩
      have hne1 : BT' ≠ timE v e0 s h := by
        rw [← hBT, hBT']
        exact set_ne BT j1 hjn1 _ (by rw [hx1, HY.out]; exact xor_ne _ _ hyne)
      have hne2 : BR' ≠ repE u.data.toList n.data.toList h2 c k := by
        rw [← hBR, hBR']
        exact set_ne BR j2 hjn2 _ (by rw [hx2, HY.out]; exact xor_ne _ _ hyne)
      obtain ⟨nt, hnt⟩ : ∃ x, x = BT.length := ⟨_, rfl⟩
      obtain ⟨nr, hnr⟩ : ∃ x, x = BR.length := ⟨_, rfl⟩
      have hlt' : BT'.length = nt := by rw [hBT', List.length_set, hnt]
      have hlr' : BR'.length = nr := by rw [hBR', List.length_set, hnr]
      have HN1 := Lib.hid hne1
      have HN2 := Lib.hid hne2
      have HS1 := Lib.hid hBT'
      have HS2 := Lib.hid hBR'
      have HNT := Lib.hid hnt
      have HNR := Lib.hid hnr
      have HLT := Lib.hid hlt'
      have HLR := Lib.hid hlr'
      have HQ0 := Lib.hid hq0
      rw [← hnt] at HR1 lt1 lt2
      rw [← hnr] at HR2 lr1 lr2
      have hjt : j1 < nt := by rw [hnt]; exact hjn1
      have hjr : j2 < nr := by rw [hnr]; exact hjn2
      have hnt0 : ¬ nt = 0 := by omega
      have hnr0 : ¬ nr = 0 := by omega
      have hq0n : (0 : Int) ≤ (q0 : Int) := by omega
      have hD1 : (timD BT').size = 35 := timL_len _ _ _ _
      have hO1 : (timD BT').all (·.oneCell') = true := timL_one _ _ _ _
      have hD2 : (repD BR').size = 36 := repL_len _ _ _ _ _
      have hO2 : (repD BR').all (·.oneCell') = true := repL_one _ _ _ _ _
      clear hBT hBR hq0 hj1 hj2 hx1 hx2 hne1 hne2 hBT' hBR' hnt hnr hlt' hlr' hyne hPL
      go_enter Try.func11, Try.ntmps11
      go_wp2_with (first | go_skip | ((with_reducible apply wpl_loadrow); (exact rfl); (exact inferInstance); (exact inferInstance); (first | (exact timL_len _ _ _ _) | (exact repL_len _ _ _ _ _) | (exact hD1) | (exact hD2))) | ((with_reducible apply (wpl_alloc (dst := some 4))); intro z4 wz4 _ _ _) | ((with_reducible apply (wpl_box_agg (dst := some 4))); (exact rfl); intro z4 wz4 _ _ _) | ((with_reducible apply (wpl_box_int (dst := some 4))); (exact rfl); intro z4 wz4 _ _ _) | ((with_reducible apply (wpl_box_slice (dst := some 4))); (exact rfl); intro z4 wz4 _ _ _) | ((with_reducible apply (wpl_box_str (dst := some 4))); (exact rfl); intro z4 wz4 _ _ _) | ((with_reducible apply (wpl_box_bool (dst := some 4))); (exact rfl); intro z4 wz4 _ _ _) | ((with_reducible apply (wpl_box_ptr (dst := some 4))); (exact rfl); intro z4 wz4 _ _ _) | ((with_reducible apply (wpl_alloc (dst := some 5))); intro z5 wz5 _ _ _) | ((with_reducible apply (wpl_box_agg (dst := some 5))); (exact rfl); intro z5 wz5 _ _ _) | ((with_reducible apply (wpl_box_int (dst := some 5))); (exact rfl); intro z5 wz5 _ _ _) | ((with_reducible apply (wpl_box_slice (dst := some 5))); (exact rfl); intro z5 wz5 _ _ _) | ((with_reducible apply (wpl_box_str (dst := some 5))); (exact rfl); intro z5 wz5 _ _ _) | ((with_reducible apply (wpl_box_bool (dst := some 5))); (exact rfl); intro z5 wz5 _ _ _) | ((with_reducible apply (wpl_box_ptr (dst := some 5))); (exact rfl); intro z5 wz5 _ _ _) | ((with_reducible apply wpl_alloc); intro z wz _ _ _) | ((with_reducible apply wpl_box_agg); (exact rfl); intro z wz _ _ _) | ((with_reducible apply wpl_box_int); (exact rfl); intro z wz _ _ _) | ((with_reducible apply wpl_box_slice); (exact rfl); intro z wz _ _ _) | ((with_reducible apply wpl_box_str); (exact rfl); intro z wz _ _ _) | ((with_reducible apply wpl_box_bool); (exact rfl); intro z wz _ _ _) | ((with_reducible apply wpl_box_ptr); (exact rfl); intro z wz _ _ _) | ((with_reducible apply (wpl_guard (op := .load _ _))); (exact rfl)) | ((with_reducible apply wpl_loadrow); (exact rfl); (exact inferInstance); (exact inferInstance); (first | (with_reducible assumption) | (with_reducible exact H32.size _) | kernel_rfl)) | ((with_reducible apply wpl_loadcellN); (exact rfl); (exact inferInstance); (exact rfl)) | ((with_reducible apply wpl_storerow); (exact rfl); (exact rfl); (exact inferInstance); (exact inferInstance); (first | (with_reducible assumption) | (with_reducible exact H32.size _) | kernel_rfl); (first | (with_reducible assumption) | (with_reducible exact H32.size _) | kernel_rfl); (first | (with_reducible exact u8s_one _) | (with_reducible assumption) | kernel_rfl); intro ws _ _) | ((with_reducible apply wpl_storecell); (exact rfl); (exact rfl); (exact inferInstance); (exact rfl); (first | (with_reducible assumption) | omega | (focus (simp; done)) | (focus (simp; omega; done)) | decide); intro ws _ _))
      refine (rIsTime_calls v e0 s h _).mono ?_
      rw [hT]
      rintro e w5 ⟨rfl, _⟩
      go_wp2_with (first | go_skip | ((with_reducible apply (wpl_guard (op := .load _ _))); (exact rfl)) | ((with_reducible apply wpl_loadrow); (exact rfl); (exact inferInstance); (exact inferInstance); (first | (exact timL_len _ _ _ _) | (exact repL_len _ _ _ _ _) | (exact hD1) | (exact hD2))) | ((with_reducible apply wpl_alloc); intro z wz _ _ _) | ((with_reducible apply wpl_box_agg); (exact rfl); intro z wz _ _ _) | ((with_reducible apply wpl_box_int); (exact rfl); intro z wz _ _ _) | ((with_reducible apply wpl_box_slice); (exact rfl); intro z wz _ _ _) | ((with_reducible apply wpl_box_str); (exact rfl); intro z wz _ _ _) | ((with_reducible apply wpl_box_bool); (exact rfl); intro z wz _ _ _) | ((with_reducible apply wpl_box_ptr); (exact rfl); intro z wz _ _ _) | ((with_reducible apply (wpl_guard (op := .load _ _))); (exact rfl)) | ((with_reducible apply wpl_loadrow); (exact rfl); (exact inferInstance); (exact inferInstance); (first | (with_reducible assumption) | (with_reducible exact H32.size _) | kernel_rfl)) | ((with_reducible apply wpl_loadcellN); (exact rfl); (exact inferInstance); (exact rfl)) | ((with_reducible apply wpl_storerow); (exact rfl); (exact rfl); (exact inferInstance); (exact inferInstance); (first | (with_reducible assumption) | (with_reducible exact H32.size _) | kernel_rfl); (first | (with_reducible assumption) | (with_reducible exact H32.size _) | kernel_rfl); (first | (with_reducible exact u8s_one _) | (with_reducible assumption) | kernel_rfl); intro ws _ _) | ((with_reducible apply wpl_storecell); (exact rfl); (exact rfl); (exact inferInstance); (exact rfl); (first | (with_reducible assumption) | omega | (focus (simp; done)) | (focus (simp; omega; done)) | decide); intro ws _ _))
      refine (rIsReport_calls u n h2 c k _ _ rfl rfl hu hn _).mono ?_
      rw [hP]
      rintro e w6 ⟨rfl, _⟩
      go_wp2_with (first | go_skip | ((with_reducible apply wpl_loadrow); (exact rfl); (exact inferInstance); (exact inferInstance); (first | (exact timL_len _ _ _ _) | (exact repL_len _ _ _ _ _) | (exact hD1) | (exact hD2))) | ((with_reducible apply wpl_alloc); intro z wz _ _ _) | ((with_reducible apply wpl_box_agg); (exact rfl); intro z wz _ _ _) | ((with_reducible apply wpl_box_int); (exact rfl); intro z wz _ _ _) | ((with_reducible apply wpl_box_slice); (exact rfl); intro z wz _ _ _) | ((with_reducible apply wpl_box_str); (exact rfl); intro z wz _ _ _) | ((with_reducible apply wpl_box_bool); (exact rfl); intro z wz _ _ _) | ((with_reducible apply wpl_box_ptr); (exact rfl); intro z wz _ _ _) | ((with_reducible apply (wpl_guard (op := .load _ _))); (exact rfl)) | ((with_reducible apply wpl_loadrow); (exact rfl); (exact inferInstance); (exact inferInstance); (first | (with_reducible assumption) | (with_reducible exact H32.size _) | kernel_rfl)) | ((with_reducible apply wpl_loadcellN); (exact rfl); (exact inferInstance); (exact rfl)) | ((with_reducible apply wpl_storerow); (exact rfl); (exact rfl); (exact inferInstance); (exact inferInstance); (first | (with_reducible assumption) | (with_reducible exact H32.size _) | kernel_rfl); (first | (with_reducible assumption) | (with_reducible exact H32.size _) | kernel_rfl); (first | (with_reducible exact u8s_one _) | (with_reducible assumption) | kernel_rfl); intro ws _ _) | ((with_reducible apply wpl_storecell); (exact rfl); (exact rfl); (exact inferInstance); (exact rfl); (first | (with_reducible assumption) | omega | (focus (simp; done)) | (focus (simp; omega; done)) | decide); intro ws _ _))
      refine (EncodeTime_calls v e0 s h _).mono ?_
      rintro e w7 ⟨_, h7⟩
      rw [hT] at h7
      obtain ⟨A7, n7, c7, rfl, hn7, hO7, hA7⟩ := h7
      have HO7 : HO w7 5 1 A7 nt c7 (bs BT) := by
        rw [HNT.out, HBT.out]
        rw [hn7] at hO7
        exact hO7
      obtain rfl : n7 = nt := by rw [hn7, HNT.out, HBT.out]; rfl
      clear hn7 hO7
      go_wp2_with (first | go_skip | ((with_reducible apply wpl_loadrow); (exact rfl); (exact inferInstance); (exact inferInstance); (first | (exact timL_len _ _ _ _) | (exact repL_len _ _ _ _ _) | (exact hD1) | (exact hD2))) | ((with_reducible apply wpl_alloc); intro z wz _ _ _) | ((with_reducible apply wpl_box_agg); (exact rfl); intro z wz _ _ _) | ((with_reducible apply wpl_box_int); (exact rfl); intro z wz _ _ _) | ((with_reducible apply wpl_box_slice); (exact rfl); intro z wz _ _ _) | ((with_reducible apply wpl_box_str); (exact rfl); intro z wz _ _ _) | ((with_reducible apply wpl_box_bool); (exact rfl); intro z wz _ _ _) | ((with_reducible apply wpl_box_ptr); (exact rfl); intro z wz _ _ _) | ((with_reducible apply (wpl_guard (op := .load _ _))); (exact rfl)) | ((with_reducible apply wpl_loadrow); (exact rfl); (exact inferInstance); (exact inferInstance); (first | (with_reducible assumption) | (with_reducible exact H32.size _) | kernel_rfl)) | ((with_reducible apply wpl_loadcellN); (exact rfl); (exact inferInstance); (exact rfl)) | ((with_reducible apply wpl_storerow); (exact rfl); (exact rfl); (exact inferInstance); (exact inferInstance); (first | (with_reducible assumption) | (with_reducible exact H32.size _) | kernel_rfl); (first | (with_reducible assumption) | (with_reducible exact H32.size _) | kernel_rfl); (first | (with_reducible exact u8s_one _) | (with_reducible assumption) | kernel_rfl); intro ws _ _) | ((with_reducible apply wpl_storecell); (exact rfl); (exact rfl); (exact inferInstance); (exact rfl); (first | (with_reducible assumption) | omega | (focus (simp; done)) | (focus (simp; omega; done)) | decide); intro ws _ _))
      refine (EncodeReport_calls u n h2 c k _ _ rfl rfl _).mono ?_
      rintro e w8 ⟨_, h8⟩
      rw [hP] at h8
      obtain ⟨A8, n8, c8, rfl, hn8, hO8, hA8⟩ := h8
      have HO8 : HO w8 5 1 A8 nr c8 (bs BR) := by
        rw [HNR.out, HBR.out]
        rw [hn8] at hO8
        exact hO8
      obtain rfl : n8 = nr := by rw [hn8, HNR.out, HBR.out]; rfl
      clear hn8 hO8
      obtain ⟨f7, hf7⟩ : ∃ f, A7 = some f := by
        rcases HO7.out.form with ⟨_, h, _⟩ | ⟨_, _, h, _⟩
        · omega
        · exact ⟨_, h⟩
      subst hf7
      obtain ⟨f8, hf8⟩ : ∃ f, A8 = some f := by
        rcases HO8.out.form with ⟨_, h, _⟩ | ⟨_, _, h, _⟩
        · omega
        · exact ⟨_, h⟩
      subst hf8
      have o78 : OffA (rowOf (some f7)) (some f8) := inferInstance
      have o87 : OffA (rowOf (some f8)) (some f7) := inferInstance
      have hz4 : HB w8 z4 45 (timL v e0 s h).toArray := inferInstance
      have hz5 : HB w8 z5 47 (repL u n h2 c k).toArray := inferInstance
      have o74 : OffB (rowOf (some f7)) z4 := inferInstance
      have o75 : OffB (rowOf (some f7)) z5 := inferInstance
      have o84 : OffB (rowOf (some f8)) z4 := inferInstance
      have o85 : OffB (rowOf (some f8)) z5 := inferInstance
      have ab7 : Above w (rowOf (some f7)) := by
        have := NewA.mono (w0 := w) hA7
        infer_instance
      have ab8 : Above w (rowOf (some f8)) := by
        have := NewA.mono (w0 := w) hA8
        infer_instance
      have HNI1 : Hid ((n7 : Int) ≠ 0) := Lib.hid (by omega)
      have HNI2 : Hid ((n8 : Int) ≠ 0) := Lib.hid (by omega)
      have hp7 : 0 < (n7 : Int) := by omega
      have hp8 : 0 < (n8 : Int) := by omega
      have q7 : ((n7 : Int) == 0) = false := beqF (by omega)
      have q8 : ((n8 : Int) == 0) = false := beqF (by omega)
      clear hnt0 hnr0
      have n8w : Nw w w8 := inferInstance
      go_wp2_with (first | go_skip | ((with_reducible apply wpl_and16); (exact rfl); (exact HQ0.out)) | ((with_reducible apply wpl_remE); (exact rfl); (exact rfl); (first | (exact HNI1.out) | (exact HNI2.out)); (first | (exact HR1.out) | (exact HR2.out))) | ((with_reducible apply wpl_indexNW); (exact rfl); (exact rfl); (exact inferInstance); (first | (exact hjt) | (exact hjr))) | ((with_reducible apply wpl_load1); (exact rfl); (exact inferInstance); (exact inferInstance); (first | (exact hvd1) | (exact hvd2))) | ((with_reducible apply wpl_xorE); (exact rfl); (exact rfl); (first | (exact HX1.out) | (exact HX2.out))) | ((with_reducible apply wpl_storeBW); (exact rfl); (exact rfl); (exact inferInstance); (first | (exact hjn1) | (exact hjn2)); (first | (exact hb1) | (exact hb2)); intro ws _ _) | ((with_reducible apply wpl_alloc); intro z wz _ _ _) | ((with_reducible apply wpl_box_agg); (exact rfl); intro z wz _ _ _) | ((with_reducible apply wpl_box_int); (exact rfl); intro z wz _ _ _) | ((with_reducible apply wpl_box_slice); (exact rfl); intro z wz _ _ _) | ((with_reducible apply wpl_box_str); (exact rfl); intro z wz _ _ _) | ((with_reducible apply wpl_box_bool); (exact rfl); intro z wz _ _ _) | ((with_reducible apply wpl_box_ptr); (exact rfl); intro z wz _ _ _) | ((with_reducible apply (wpl_guard (op := .load _ _))); (exact rfl)) | ((with_reducible apply wpl_loadrow); (exact rfl); (exact inferInstance); (exact inferInstance); (first | (with_reducible assumption) | (with_reducible exact H32.size _) | kernel_rfl)) | ((with_reducible apply wpl_loadcellN); (exact rfl); (exact inferInstance); (exact rfl)) | ((with_reducible apply wpl_storerow); (exact rfl); (exact rfl); (exact inferInstance); (exact inferInstance); (first | (with_reducible assumption) | (with_reducible exact H32.size _) | kernel_rfl); (first | (with_reducible assumption) | (with_reducible exact H32.size _) | kernel_rfl); (first | (with_reducible exact u8s_one _) | (with_reducible assumption) | kernel_rfl); intro ws _ _) | ((with_reducible apply wpl_storecell); (exact rfl); (exact rfl); (exact inferInstance); (exact rfl); (first | (with_reducible assumption) | omega | (focus (simp; done)) | (focus (simp; omega; done)) | decide); intro ws _ _))
      have hB7 : HO ws 5 1 (some f7) n7 c7 (bs BT') := by
        rw [HS1.out]
        infer_instance
      have hB8 : HO ws 5 1 (some f8) n8 c8 (bs BR') := by
        rw [HS2.out]
        infer_instance
      have hz4s : HB ws z4 45 (timL v e0 s h).toArray := inferInstance
      have hz5s : HB ws z5 47 (repL u n h2 c k).toArray := inferInstance
      have nws : Nw w ws := inferInstance
      clear q7 q8 hvd1 hvd2 hb1 hb2 hp7 hp8
      refine (DecodeTime_calls (b := BT') HLT.out (by omega)).mono ?_
      rintro e w9 ⟨_, h9⟩
      have n9 : Nw w w9 := inferInstance
      have hq1 : tOk BT' = true → ∀ w, (binOp .neq 45 (.agg (timD BT')) (.agg (timL v e0 s h).toArray)).run Try.prog w = .ok (.bool true) w := fun ho w => by
        have h1 := neqTim ⟨tV (kindS 2 BT'), tE (kindS 2 BT'), tS (kindS 2 BT'), tH (kindS 2 BT')⟩ ⟨v, e0, s, h⟩ w
        rw [tmB_turned ho HN1.out] at h1
        exact h1
      have hq2 : rOk BR' = true → ∀ w, (binOp .neq 47 (.agg (repD BR')) (.agg (repL u n h2 c k).toArray)).run Try.prog w = .ok (.bool true) w := fun ho w => by
        have h1 := neqRep ⟨strL (rU (kindS 5 BR')), strL (rN (kindS 5 BR')), rH (kindS 5 BR'), rC (kindS 5 BR'), rK (kindS 5 BR')⟩ ⟨u, n, h2, c, k⟩ w
        rw [rpB_turned ho HN2.out] at h1
        exact h1
      obtain ⟨DT, hDT⟩ : ∃ x, x = timD BT' := ⟨_, rfl⟩
      obtain ⟨DR, hDR⟩ : ∃ x, x = repD BR' := ⟨_, rfl⟩
      have hD1' : DT.size = 35 := by rw [hDT]; exact hD1
      have hO1' : DT.all (·.oneCell') = true := by rw [hDT]; exact hO1
      have hD2' : DR.size = 36 := by rw [hDR]; exact hD2
      have hO2' : DR.all (·.oneCell') = true := by rw [hDR]; exact hO2
      rw [← hDT] at h9 hq1
      rw [← hDR] at hq2
      have HDR := Lib.hid hDR
      clear hD1 hO1 hD2 hO2 hDT hDR
      obtain ⟨OT, hOT⟩ : ∃ x, x = tOk BT' := ⟨_, rfl⟩
      obtain ⟨OR, hOR⟩ : ∃ x, x = rOk BR' := ⟨_, rfl⟩
      rw [← hOT] at h9 hq1
      rw [← hOR] at hq2
      have HOR := Lib.hid hOR
      clear hOT hOR
      cases OT
      all_goals
        obtain rfl : e = _ := h9
        (try have hq1 := hq1 rfl)
        go_wp2_with (first | go_skip | ((with_reducible apply (wpl_guard (op := .load _ _))); (exact rfl)) | ((with_reducible apply wpl_loadrow); (exact rfl); (exact inferInstance); (exact inferInstance); (first | (exact timL_len _ _ _ _) | (exact repL_len _ _ _ _ _) | (exact hD1') | (exact hD2'))) | ((with_reducible apply wpl_storerow); (exact rfl); (exact rfl); (exact inferInstance); (exact inferInstance); (first | (exact timL_len _ _ _ _) | (exact repL_len _ _ _ _ _) | (exact hD1') | (exact hD2')); (first | (exact timL_len _ _ _ _) | (exact repL_len _ _ _ _ _)); (first | (exact timL_one _ _ _ _) | (exact repL_one _ _ _ _ _) | (exact hO1') | (exact hO2')); intro ws _ _) | ((with_reducible apply (wpl_alloc (dst := some 13))); intro z13 wz13 _ _ _) | ((with_reducible apply (wpl_box_agg (dst := some 13))); (exact rfl); intro z13 wz13 _ _ _) | ((with_reducible apply (wpl_box_int (dst := some 13))); (exact rfl); intro z13 wz13 _ _ _) | ((with_reducible apply (wpl_box_slice (dst := some 13))); (exact rfl); intro z13 wz13 _ _ _) | ((with_reducible apply (wpl_box_str (dst := some 13))); (exact rfl); intro z13 wz13 _ _ _) | ((with_reducible apply (wpl_box_bool (dst := some 13))); (exact rfl); intro z13 wz13 _ _ _) | ((with_reducible apply (wpl_box_ptr (dst := some 13))); (exact rfl); intro z13 wz13 _ _ _) | ((with_reducible apply wpl_alloc); intro z wz _ _ _) | ((with_reducible apply wpl_box_agg); (exact rfl); intro z wz _ _ _) | ((with_reducible apply wpl_box_int); (exact rfl); intro z wz _ _ _) | ((with_reducible apply wpl_box_slice); (exact rfl); intro z wz _ _ _) | ((with_reducible apply wpl_box_str); (exact rfl); intro z wz _ _ _) | ((with_reducible apply wpl_box_bool); (exact rfl); intro z wz _ _ _) | ((with_reducible apply wpl_box_ptr); (exact rfl); intro z wz _ _ _) | ((with_reducible apply (wpl_guard (op := .load _ _))); (exact rfl)) | ((with_reducible apply wpl_loadrow); (exact rfl); (exact inferInstance); (exact inferInstance); (first | (with_reducible assumption) | (with_reducible exact H32.size _) | kernel_rfl)) | ((with_reducible apply wpl_loadcellN); (exact rfl); (exact inferInstance); (exact rfl)) | ((with_reducible apply wpl_storerow); (exact rfl); (exact rfl); (exact inferInstance); (exact inferInstance); (first | (with_reducible assumption) | (with_reducible exact H32.size _) | kernel_rfl); (first | (with_reducible assumption) | (with_reducible exact H32.size _) | kernel_rfl); (first | (with_reducible exact u8s_one _) | (with_reducible assumption) | kernel_rfl); intro ws _ _) | ((with_reducible apply wpl_storecell); (exact rfl); (exact rfl); (exact inferInstance); (exact rfl); (first | (with_reducible assumption) | omega | (focus (simp; done)) | (focus (simp; omega; done)) | decide); intro ws _ _))
        refine (DecodeReport_calls (b := BR') HLR.out (by omega)).mono ?_
        rintro e w10 ⟨_, h10⟩
        rw [← HDR.out, ← HOR.out] at h10
        have n10 : Nw w w10 := inferInstance
        cases OR
        all_goals
          obtain rfl : e = _ := h10
          (try have hq2 := hq2 rfl)
          go_wp2_with (first | go_skip | ((with_reducible apply (wpl_guard (op := .load _ _))); (exact rfl)) | ((with_reducible apply wpl_loadrow); (exact rfl); (exact inferInstance); (exact inferInstance); (first | (exact timL_len _ _ _ _) | (exact repL_len _ _ _ _ _) | (exact hD1') | (exact hD2'))) | ((with_reducible apply wpl_storerow); (exact rfl); (exact rfl); (exact inferInstance); (exact inferInstance); (first | (exact timL_len _ _ _ _) | (exact repL_len _ _ _ _ _) | (exact hD1') | (exact hD2')); (first | (exact timL_len _ _ _ _) | (exact repL_len _ _ _ _ _)); (first | (exact timL_one _ _ _ _) | (exact repL_one _ _ _ _ _) | (exact hO1') | (exact hO2')); intro ws _ _) | ((with_reducible apply (wpl_alloc (dst := some 15))); intro z15 wz15 _ _ _) | ((with_reducible apply (wpl_box_agg (dst := some 15))); (exact rfl); intro z15 wz15 _ _ _) | ((with_reducible apply (wpl_box_int (dst := some 15))); (exact rfl); intro z15 wz15 _ _ _) | ((with_reducible apply (wpl_box_slice (dst := some 15))); (exact rfl); intro z15 wz15 _ _ _) | ((with_reducible apply (wpl_box_str (dst := some 15))); (exact rfl); intro z15 wz15 _ _ _) | ((with_reducible apply (wpl_box_bool (dst := some 15))); (exact rfl); intro z15 wz15 _ _ _) | ((with_reducible apply (wpl_box_ptr (dst := some 15))); (exact rfl); intro z15 wz15 _ _ _) | ((with_reducible apply wpl_alloc); intro z wz _ _ _) | ((with_reducible apply wpl_box_agg); (exact rfl); intro z wz _ _ _) | ((with_reducible apply wpl_box_int); (exact rfl); intro z wz _ _ _) | ((with_reducible apply wpl_box_slice); (exact rfl); intro z wz _ _ _) | ((with_reducible apply wpl_box_str); (exact rfl); intro z wz _ _ _) | ((with_reducible apply wpl_box_bool); (exact rfl); intro z wz _ _ _) | ((with_reducible apply wpl_box_ptr); (exact rfl); intro z wz _ _ _) | ((with_reducible apply (wpl_guard (op := .load _ _))); (exact rfl)) | ((with_reducible apply wpl_loadrow); (exact rfl); (exact inferInstance); (exact inferInstance); (first | (with_reducible assumption) | (with_reducible exact H32.size _) | kernel_rfl)) | ((with_reducible apply wpl_loadcellN); (exact rfl); (exact inferInstance); (exact rfl)) | ((with_reducible apply wpl_storerow); (exact rfl); (exact rfl); (exact inferInstance); (exact inferInstance); (first | (with_reducible assumption) | (with_reducible exact H32.size _) | kernel_rfl); (first | (with_reducible assumption) | (with_reducible exact H32.size _) | kernel_rfl); (first | (with_reducible exact u8s_one _) | (with_reducible assumption) | kernel_rfl); intro ws _ _) | ((with_reducible apply wpl_storecell); (exact rfl); (exact rfl); (exact inferInstance); (exact rfl); (first | (with_reducible assumption) | omega | (focus (simp; done)) | (focus (simp; omega; done)) | decide); intro ws _ _))
          refine (wknown_calls _).mono ?_
          rintro e w11 ⟨rfl, _⟩
          go_wp2_with (first | go_skip | ((with_reducible apply wpl_alloc); intro z wz _ _ _) | ((with_reducible apply wpl_box_agg); (exact rfl); intro z wz _ _ _) | ((with_reducible apply wpl_box_int); (exact rfl); intro z wz _ _ _) | ((with_reducible apply wpl_box_slice); (exact rfl); intro z wz _ _ _) | ((with_reducible apply wpl_box_str); (exact rfl); intro z wz _ _ _) | ((with_reducible apply wpl_box_bool); (exact rfl); intro z wz _ _ _) | ((with_reducible apply wpl_box_ptr); (exact rfl); intro z wz _ _ _) | ((with_reducible apply (wpl_guard (op := .load _ _))); (exact rfl)) | ((with_reducible apply wpl_loadrow); (exact rfl); (exact inferInstance); (exact inferInstance); (first | (with_reducible assumption) | (with_reducible exact H32.size _) | kernel_rfl)) | ((with_reducible apply wpl_loadcellN); (exact rfl); (exact inferInstance); (exact rfl)) | ((with_reducible apply wpl_storerow); (exact rfl); (exact rfl); (exact inferInstance); (exact inferInstance); (first | (with_reducible assumption) | (with_reducible exact H32.size _) | kernel_rfl); (first | (with_reducible assumption) | (with_reducible exact H32.size _) | kernel_rfl); (first | (with_reducible exact u8s_one _) | (with_reducible assumption) | kernel_rfl); intro ws _ _) | ((with_reducible apply wpl_storecell); (exact rfl); (exact rfl); (exact inferInstance); (exact rfl); (first | (with_reducible assumption) | omega | (focus (simp; done)) | (focus (simp; omega; done)) | decide); intro ws _ _))
          go_ret
          exact ⟨rfl, (inferInstance : Nw w _).out⟩
end Go.Proofs.Ytecmeejbpkcgiaa
