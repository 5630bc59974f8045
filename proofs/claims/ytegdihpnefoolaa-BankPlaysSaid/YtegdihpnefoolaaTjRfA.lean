/- RfA -/
import Derived.Test.YtegdihpnefoolaaTjPgLong
import Derived.Test.YtegdihpnefoolaaTjPlain
import Derived.Test.YtegdihpnefoolaaTjRowE
open Go Go.RowKit
namespace Go.Proofs.Ytegdihpnefoolaa
/-- what the reference's flash is -/
structure RFS where
  pgs : List (List UInt8)
  left : Int
  tear : Nat
  off : Bool
/-- its blocks: the struct, the table of its pages, each page -/
structure RFAt (w : World) (x : Nat) (A : Option Addr) (n c : Nat) (rows : List Row) (left : Int) (tear : Nat) (off : Bool) : Prop where
  head : Blk w x 63 #[.slice A n c, .int .i64 left, .int .i64 tear, .bool off]
  tab : Own w 22 1 A n c (cellsOf rows)
  num : rows.length = n
  each : ∀ r ∈ rows, Own w 5 1 r.A 64 r.c (bs r.p)
  len : ∀ r ∈ rows, r.p.length = 64
  tabx : OffB (rowOf A) x
  rowx : ∀ r ∈ rows, OffB (rowOf r.A) x
  rowt : ∀ r ∈ rows, OffA (rowOf r.A) A
  rows2 : ∀ i j, i < n → j < n → i ≠ j → OffA (rowOf (gt rows i).A) (gt rows j).A
  most : n ≤ 256
  torn : tear ≤ 64
def RF (w : World) (x : Nat) (T : Nat → Prop) (s : RFS) : Prop := ∃ (A : Option Addr) (n c : Nat) (rows : List Row), RFAt w x A n c rows s.left s.tear s.off ∧ rows.map Row.p = s.pgs ∧ T x ∧ (∀ k, rowOf A k → T k) ∧ ∀ r ∈ rows, ∀ k, rowOf r.A k → T k
theorem RFAt.chg {S : Nat → Prop} {w w' : World} {x : Nat} {A : Option Addr} {n c : Nat} {rows : List Row} {left : Int} {tear : Nat} {off : Bool} (h : RFAt w x A n c rows left tear off) (hc : Chg S w w') (hx : ¬ S x) (hA : ∀ k, rowOf A k → ¬ S k) (hr : ∀ r ∈ rows, ∀ k, rowOf r.A k → ¬ S k) : RFAt w' x A n c rows left tear off :=
  ⟨h.head.chg hc hx, h.tab.chg hc (fun ad e => hA _ ⟨ad, e, rfl⟩), h.num, fun r hm => (h.each r hm).chg hc (fun ad e => hr r hm _ ⟨ad, e, rfl⟩), h.len, h.tabx, h.rowx, h.rowt, h.rows2, h.most, h.torn⟩
theorem RF.far {S T : Nat → Prop} {w w' : World} {x : Nat} {s : RFS} (h : RF w x T s) (hc : Chg S w w') (hS : ∀ k, T k → ¬ S k) : RF w' x T s := by
  obtain ⟨A, n, c, rows, h1, h2, h3, h4, h5⟩ := h
  exact ⟨A, n, c, rows, h1.chg hc (hS _ h3) (fun k hk => hS k (h4 k hk)) (fun r hm k hk => hS k (h5 r hm k hk)), h2, h3, h4, h5⟩
theorem RF.calm {T : Nat → Prop} {w w' : World} {x : Nat} {s : RFS} (h : RF w x T s) (hc : Chg nowhere w w') : RF w' x T s := h.far hc (fun _ _ h => h)
/-- another head -/
theorem RFAt.setHead {w w' : World} {x : Nat} {A : Option Addr} {n c : Nat} {rows : List Row} {left left' : Int} {tear tear' : Nat} {off off' : Bool} (h : RFAt w x A n c rows left tear off) (hc : Chg (only x) w w') (hh : Blk w' x 63 #[.slice A n c, .int .i64 left', .int .i64 tear', .bool off']) (ht : tear' ≤ 64) : RFAt w' x A n c rows left' tear' off' :=
  ⟨hh, h.tab.chg hc (fun ad e hk => h.tabx.out ⟨ad, e, hk⟩), h.num, fun r hm => (h.each r hm).chg hc (fun ad e hk => (h.rowx r hm).out ⟨ad, e, hk⟩), h.len, h.tabx, h.rowx, h.rowt, h.rows2, h.most, ht⟩
theorem RF.setHead {w w' : World} {x : Nat} {T : Nat → Prop} {A : Option Addr} {n c : Nat} {rows : List Row} {left left' : Int} {tear tear' : Nat} {off off' : Bool} {pgs : List (List UInt8)} (h : RFAt w x A n c rows left tear off) (h2 : rows.map Row.p = pgs) (h3 : T x) (h4 : ∀ k, rowOf A k → T k) (h5 : ∀ r ∈ rows, ∀ k, rowOf r.A k → T k) (hc : Chg (only x) w w') (hh : Blk w' x 63 #[.slice A n c, .int .i64 left', .int .i64 tear', .bool off']) (ht : tear' ≤ 64) : RF w' x T ⟨pgs, left', tear', off'⟩ ∧ Chg T w w' :=
  ⟨⟨A, n, c, rows, h.setHead hc hh ht, h2, h3, h4, h5⟩, hc.mono (fun k _ hk => by rw [show k = x from hk]; exact h3)⟩
theorem gt_set_same (l : List Row) (i : Nat) (r : Row) (h : i < l.length) : gt (l.set i r) i = r := by simp [gt, List.getD_eq_getElem?_getD, h]
theorem gt_set_other (l : List Row) (i j : Nat) (r : Row) (h : i ≠ j) : gt (l.set i r) j = gt l j := by simp [gt, List.getD_eq_getElem?_getD, List.getElem?_set_ne h]
theorem row_v_same {r : Row} {p : List UInt8} (h : r.p.length = 64) (hp : p.length = 64) : ({ r with p := p } : Row).v = r.v := by
  show Value.slice r.A p.length r.c = .slice r.A r.p.length r.c
  rw [h, hp]
theorem cellsOf_setp (l : List Row) : ∀ (i : Nat) (p : List UInt8), i < l.length → (∀ r ∈ l, r.p.length = 64) → p.length = 64 → cellsOf (l.set i { gt l i with p := p }) = cellsOf l := by
  induction l with
  | nil => intro i p h; simp at h
  | cons r l ih =>
    intro i p h hl hp
    cases i with
    | zero =>
      show ({ gt (r :: l) 0 with p := p } : Row).v :: cellsOf l = r.v :: cellsOf l
      rw [show gt (r :: l) 0 = r from rfl, row_v_same (hl r (by simp)) hp]
    | succ i =>
      show r.v :: cellsOf (l.set i { gt (r :: l) (i + 1) with p := p }) = r.v :: cellsOf l
      rw [show gt (r :: l) (i + 1) = gt l i from rfl, ih i p (by simpa using h) (fun r hr => hl r (by simp [hr])) hp]
theorem mem_set_row {l : List Row} {i : Nat} {p : List UInt8} {r : Row} (hi : i < l.length) (h : r ∈ l.set i { gt l i with p := p }) : (∃ q ∈ l, r.A = q.A ∧ r.c = q.c) := by
  rcases List.mem_or_eq_of_mem_set h with h | h
  · exact ⟨r, h, rfl, rfl⟩
  · rw [h]
    exact ⟨gt l i, gt_mem l i hi, rfl, rfl⟩
/-- another page -/
theorem RFAt.setPage {w w' : World} {x : Nat} {A : Option Addr} {n c : Nat} {rows : List Row} {left : Int} {tear : Nat} {off : Bool} (h : RFAt w x A n c rows left tear off) {i : Nat} (hi : i < n) {p : List UInt8} (hp : p.length = 64) (hc : Chg (rowOf (gt rows i).A) w w') (hh : Own w' 5 1 (gt rows i).A 64 (gt rows i).c (bs p)) :
    RFAt w' x A n c (rows.set i { gt rows i with p := p }) left tear off := by
  have hi' : i < rows.length := by rw [h.num]; exact hi
  have hm := gt_mem rows i hi'
  have hA : ∀ j, (gt (rows.set i { gt rows i with p := p }) j).A = (gt rows j).A := fun j => by
    by_cases hj : i = j
    · subst hj; rw [gt_set_same _ _ _ hi']
    · rw [gt_set_other _ _ _ _ hj]
  refine ⟨h.head.chg hc (h.rowx _ hm).out, ?_, by rw [List.length_set]; exact h.num, ?_, ?_, h.tabx, ?_, ?_, ?_, h.most, h.torn⟩
  · rw [cellsOf_setp rows i p hi' h.len hp]
    exact h.tab.chg hc (h.rowt _ hm).out
  · intro r hr
    obtain ⟨j, hj, hjr⟩ := List.getElem_of_mem hr
    have hj' : j < rows.length := by simpa using hj
    have hg : gt (rows.set i { gt rows i with p := p }) j = r := by
      show (rows.set i { gt rows i with p := p }).getD j RowC.zero = r
      rw [List.getD_eq_getElem?_getD, List.getElem?_eq_getElem hj, hjr]
      rfl
    by_cases hij : i = j
    · subst hij
      rw [← hg, gt_set_same _ _ _ hi']
      exact hh
    · rw [← hg, gt_set_other _ _ _ _ hij]
      exact (h.each _ (gt_mem rows j hj')).chg hc (h.rows2 i j hi (by rw [← h.num]; exact hj') hij).out
  · intro r hr
    rcases List.mem_or_eq_of_mem_set hr with hr | hr
    · exact h.len r hr
    · rw [hr]; exact hp
  · intro r hr
    obtain ⟨q, hq, e1, _⟩ := mem_set_row hi' hr
    rw [e1]; exact h.rowx q hq
  · intro r hr
    obtain ⟨q, hq, e1, _⟩ := mem_set_row hi' hr
    rw [e1]; exact h.rowt q hq
  · intro a b ha hb hab
    rw [hA a, hA b]
    exact h.rows2 a b ha hb hab
theorem map_set_row (l : List Row) (i : Nat) (p : List UInt8) : (l.set i { gt l i with p := p }).map Row.p = (l.map Row.p).set i p := by
  rw [List.map_set]
theorem RF.setPage {w w' : World} {x : Nat} {T : Nat → Prop} {A : Option Addr} {n c : Nat} {rows : List Row} {left : Int} {tear : Nat} {off : Bool} {pgs : List (List UInt8)} (h : RFAt w x A n c rows left tear off) (h2 : rows.map Row.p = pgs) (h3 : T x) (h4 : ∀ k, rowOf A k → T k) (h5 : ∀ r ∈ rows, ∀ k, rowOf r.A k → T k) {i : Nat} (hi : i < n) {p : List UInt8} (hp : p.length = 64) (hc : Chg (rowOf (gt rows i).A) w w') (hh : Own w' 5 1 (gt rows i).A 64 (gt rows i).c (bs p)) :
    RF w' x T ⟨pgs.set i p, left, tear, off⟩ ∧ Chg T w w' := by
  have hi' : i < rows.length := by rw [h.num]; exact hi
  refine ⟨⟨A, n, c, rows.set i { gt rows i with p := p }, h.setPage hi hp hc hh, ?_, h3, h4, fun r hr k hk => ?_⟩, hc.mono (fun k _ hk => h5 _ (gt_mem rows i hi') k hk)⟩
  · rw [map_set_row, h2]
  · obtain ⟨q, hq, e1, _⟩ := mem_set_row hi' hr
    rw [e1] at hk
    exact h5 q hq k hk
/-- the reference's fuse: how many bytes are done, the answer, what it is then -/
def RFS.burn (s : RFS) : Nat × Nat × RFS := if s.left = 0 then (s.tear, 11, { s with off := true }) else if 0 < s.left then (64, 0, { s with left := s.left - 1 }) else (64, 0, s)
instance : CellT Try.prog 61 := ⟨fun _ => by kernel_rfl, fun _ => by kernel_rfl⟩
instance : CellT Try.prog 22 := ⟨fun _ => by kernel_rfl, fun _ => by kernel_rfl⟩
instance : CellT Try.prog 3 := ⟨fun _ => by kernel_rfl, fun _ => by kernel_rfl⟩
instance : CellT Try.prog 4 := ⟨fun _ => by kernel_rfl, fun _ => by kernel_rfl⟩
instance : CellT Try.prog 5 := ⟨fun _ => by kernel_rfl, fun _ => by kernel_rfl⟩
instance : RowT Try.prog 63 4 := ⟨by kernel_rfl, _, Try.underlying63, rfl⟩
instance : ElemT Try.prog 61 22 1 24 (.slice none 0 0) := ⟨⟨Try.underlying61, by kernel_rfl, rfl, by decide⟩⟩
instance : ElemT Try.prog 22 5 1 1 (.int .u8 0) := ⟨⟨Try.underlying22, by kernel_rfl, rfl, by decide⟩⟩
set_option maxRecDepth 100000 in
theorem rfFuse_calls {w : World} {x : Nat} {T : Nat → Prop} {s : RFS} (h : RF w x T s) (n t : Int) :
    Calls Try.prog 14 #[.pointer (some ⟨x, 0, none⟩), .int .i64 n, .int .i64 t] w fun e w' => e = .returned (.tuple #[]) ∧ RF w' x T { s with left := max n (-1), tear := (min (max t 0) 64).toNat } ∧ Chg T w w' := by
  obtain ⟨A, k, c, rows, h1, h2, h3, h4, h5⟩ := h
  obtain ⟨t', ht'⟩ : ∃ k : Nat, min (max t 0) 64 = (k : Int) := Int.eq_ofNat_of_zero_le (by omega)
  have HT := Lib.hid ht'
  have hle : t' ≤ 64 := by omega
  clear ht'
  have hb : HB w x 63 _ := ⟨h1.head⟩
  have H1 := Lib.hid h1
  have H2 := Lib.hid h2
  have H4 := Lib.hid h4
  have H5 := Lib.hid h5
  clear h1 h2 h4 h5
  go_enter Try.func14, Try.ntmps14
  go_wp2_with (first | ((with_reducible apply wpl_mineq); (exact rfl); (exact rfl); (exact HT.out)) | ((with_reducible apply wpl_max); (exact rfl); (exact rfl)) | ((with_reducible apply wpl_storerow); (exact rfl); (exact rfl); infer_instance; infer_instance; (first | (with_reducible assumption) | (with_reducible exact H32.size _) | kernel_rfl); (first | (with_reducible assumption) | (with_reducible exact H32.size _) | kernel_rfl); (first | (with_reducible exact u8s_one _) | (with_reducible assumption) | kernel_rfl); intro ws _ _) | ((with_reducible apply wpl_storecell); (exact rfl); (exact rfl); infer_instance; (exact rfl); (first | (with_reducible assumption) | omega | (focus (simp; done)) | (focus (simp; omega; done)) | decide); intro ws _ _))
  go_end0
  have hh : HB ws x 63 #[.slice A k c, .int .i64 (max n (-1)), .int .i64 (t' : Int), .bool s.off] := inferInstance
  rw [HT.out, show ((t' : Nat) : Int).toNat = t' from rfl]
  exact ⟨rfl, RF.setHead H1.out H2.out h3 H4.out H5.out (inferInstance : Ch (only x) w ws).out hh.out hle⟩
set_option maxRecDepth 100000 in
theorem rfBoot_calls {w : World} {x : Nat} {T : Nat → Prop} {s : RFS} (h : RF w x T s) :
    Calls Try.prog 15 #[.pointer (some ⟨x, 0, none⟩)] w fun e w' => e = .returned (.tuple #[]) ∧ RF w' x T { s with left := -1, off := false } ∧ Chg T w w' := by
  obtain ⟨A, k, c, rows, h1, h2, h3, h4, h5⟩ := h
  have hle := h1.torn
  have hb : HB w x 63 _ := ⟨h1.head⟩
  have H1 := Lib.hid h1
  have H2 := Lib.hid h2
  have H4 := Lib.hid h4
  have H5 := Lib.hid h5
  clear h1 h2 h4 h5
  go_enter Try.func15, Try.ntmps15
  go_wp2_with (first | ((with_reducible apply wpl_storerow); (exact rfl); (exact rfl); infer_instance; infer_instance; (first | (with_reducible assumption) | (with_reducible exact H32.size _) | kernel_rfl); (first | (with_reducible assumption) | (with_reducible exact H32.size _) | kernel_rfl); (first | (with_reducible exact u8s_one _) | (with_reducible assumption) | kernel_rfl); intro ws _ _) | ((with_reducible apply wpl_storecell); (exact rfl); (exact rfl); infer_instance; (exact rfl); (first | (with_reducible assumption) | omega | (focus (simp; done)) | (focus (simp; omega; done)) | decide); intro ws _ _))
  go_end0
  have hh : HB ws x 63 #[.slice A k c, .int .i64 (-1), .int .i64 (s.tear : Int), .bool false] := inferInstance
  exact ⟨rfl, RF.setHead H1.out H2.out h3 H4.out H5.out (inferInstance : Ch (only x) w ws).out hh.out hle⟩
set_option maxRecDepth 100000 in
theorem rfBurn_calls {w : World} {x : Nat} {T : Nat → Prop} {s : RFS} (h : RF w x T s) (hlo : -1 ≤ s.left) (hhi : s.left ≤ 9223372036854775807) :
    Calls Try.prog 54 #[.pointer (some ⟨x, 0, none⟩)] w fun e w' => e = .returned (.tuple #[.int .i64 (s.burn.1 : Int), .int .i64 (s.burn.2.1 : Int)]) ∧ RF w' x T s.burn.2.2 ∧ Chg T w w' := by
  have h0 := h
  obtain ⟨A, k, c, rows, h1, h2, h3, h4, h5⟩ := h
  have hle := h1.torn
  have hb : HB w x 63 _ := ⟨h1.head⟩
  have H0 := Lib.hid h0
  have H1 := Lib.hid h1
  have H2 := Lib.hid h2
  have H4 := Lib.hid h4
  have H5 := Lib.hid h5
  clear h0 h1 h2 h4 h5
  obtain ⟨pgs, left, tear, off⟩ := s
  have hlo1 : -1 ≤ left := hlo
  have hhi1 : left ≤ 9223372036854775807 := hhi
  clear hlo hhi
  go_enter Try.func54, Try.ntmps54
  by_cases hz : left = 0
  · subst hz
    go_wp2_with (first | ((with_reducible apply wpl_loadrow); (exact rfl); infer_instance; infer_instance; (first | (with_reducible assumption) | (with_reducible exact H32.size _) | kernel_rfl)) | ((with_reducible apply wpl_loadcellN); (exact rfl); infer_instance; (exact rfl)) | ((with_reducible apply wpl_storerow); (exact rfl); (exact rfl); infer_instance; infer_instance; (first | (with_reducible assumption) | (with_reducible exact H32.size _) | kernel_rfl); (first | (with_reducible assumption) | (with_reducible exact H32.size _) | kernel_rfl); (first | (with_reducible exact u8s_one _) | (with_reducible assumption) | kernel_rfl); intro ws _ _) | ((with_reducible apply wpl_storecell); (exact rfl); (exact rfl); infer_instance; (exact rfl); (first | (with_reducible assumption) | omega | (focus (simp; done)) | (focus (simp; omega; done)) | decide); intro ws _ _))
    go_ret2
    have hh : HB ws x 63 #[.slice A k c, .int .i64 0, .int .i64 (tear : Int), .bool true] := inferInstance
    exact ⟨rfl, RF.setHead H1.out H2.out h3 H4.out H5.out (inferInstance : Ch (only x) w ws).out hh.out hle⟩
  · by_cases hp : 0 < left
    · have hz1 : ¬ left ≤ 0 := by omega
      have he : (left == 0) = false := by simpa using hz
      have hb1 : RFS.burn ⟨pgs, left, tear, off⟩ = (64, 0, ⟨pgs, left - 1, tear, off⟩) := by simp [RFS.burn, hz, hp]
      rw [hb1]
      go_wp2_with (first | ((with_reducible apply wpl_loadrow); (exact rfl); infer_instance; infer_instance; (first | (with_reducible assumption) | (with_reducible exact H32.size _) | kernel_rfl)) | ((with_reducible apply wpl_loadcellN); (exact rfl); infer_instance; (exact rfl)) | ((with_reducible apply wpl_storerow); (exact rfl); (exact rfl); infer_instance; infer_instance; (first | (with_reducible assumption) | (with_reducible exact H32.size _) | kernel_rfl); (first | (with_reducible assumption) | (with_reducible exact H32.size _) | kernel_rfl); (first | (with_reducible exact u8s_one _) | (with_reducible assumption) | kernel_rfl); intro ws _ _) | ((with_reducible apply wpl_storecell); (exact rfl); (exact rfl); infer_instance; (exact rfl); (first | (with_reducible assumption) | omega | (focus (simp; done)) | (focus (simp; omega; done)) | decide); intro ws _ _))
      go_ret2
      have hh : HB ws x 63 #[.slice A k c, .int .i64 (left - 1), .int .i64 (tear : Int), .bool off] := inferInstance
      exact ⟨rfl, RF.setHead H1.out H2.out h3 H4.out H5.out (inferInstance : Ch (only x) w ws).out hh.out hle⟩
    · obtain rfl : left = -1 := by
        omega
      go_wp2_with (first | ((with_reducible apply wpl_loadrow); (exact rfl); infer_instance; infer_instance; (first | (with_reducible assumption) | (with_reducible exact H32.size _) | kernel_rfl)) | ((with_reducible apply wpl_loadcellN); (exact rfl); infer_instance; (exact rfl)) | ((with_reducible apply wpl_storerow); (exact rfl); (exact rfl); infer_instance; infer_instance; (first | (with_reducible assumption) | (with_reducible exact H32.size _) | kernel_rfl); (first | (with_reducible assumption) | (with_reducible exact H32.size _) | kernel_rfl); (first | (with_reducible exact u8s_one _) | (with_reducible assumption) | kernel_rfl); intro ws _ _) | ((with_reducible apply wpl_storecell); (exact rfl); (exact rfl); infer_instance; (exact rfl); (first | (with_reducible assumption) | omega | (focus (simp; done)) | (focus (simp; omega; done)) | decide); intro ws _ _))
      go_ret2
      exact ⟨rfl, H0.out, Chg.refl _ _⟩
end Go.Proofs.Ytegdihpnefoolaa
