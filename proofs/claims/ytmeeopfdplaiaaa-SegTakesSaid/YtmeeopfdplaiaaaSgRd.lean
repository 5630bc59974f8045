/- The reference's more. -/
import Derived.Test.YtmeeopfdplaiaaaSgRc
open Go Go.RowKit
namespace Go.Proofs.Ytmeeopfdplaiaaa
section
variable {ops : Array Oper} {rest : List Oper} {a : Act} {w : World} {Q : Exit → Act → World → Prop} {dst : Option Tmp} {ty : TypeId} {pos : String} {after : Array Edge}
/-- one that is open, read whole -/
theorem wpl_loadO {x : Operand} {A : Option Addr} {k : Nat} (hx : a.eval x = ptrOf A (k * 5)) {l : List OM} (hr : HR w A (cellsOf l)) (hk : k < l.length) {id la : Int} {wh nx pc nb : Nat} {pA : Option Addr} {vb : List UInt8} (hg : gt l k = ⟨id, wh, nx, la, pA, pc, vb⟩) (hn : vb.length = nb)
    (h : wpList Try.prog ops Q rest (a.put dst (.agg #[.int .i64 id, .int .i64 (wh : Int), .int .i64 (nx : Int), .int .i64 la, .slice pA nb pc])) w) :
    wpList Try.prog ops Q (⟨dst, .load 90 x, ty, pos, after, none⟩ :: rest) a w := by
  refine wpl_loadE (α := OM) (n := 5) inferInstance hx hr rfl (by decide) hk ?_
  rw [hg]
  subst hn
  exact h
/-- one that is open, written whole -/
theorem wpl_storeO {x y : Operand} {A : Option Addr} {k : Nat} {o : OM} (hx : a.eval x = ptrOf A (k * 5)) (hy : a.eval y = .agg (RowC.enc o).toArray) {e : TypeId} {n c : Nat} {l : List OM} (ho : HO w e 5 A n c (cellsOf l)) (hk : k < l.length)
    (h : ∀ w', Step (rowOf A) w w' → HO w' e 5 A n c (cellsOf (l.set k o)) → wpList Try.prog ops Q rest (a.put dst undef) w') : wpList Try.prog ops Q (⟨dst, .store 90 x y, ty, pos, after, none⟩ :: rest) a w := by
  have ht : RowT Try.prog 90 5 := inferInstance
  have hlen : (cellsOf l).length = l.length * 5 := cellsOf_len l
  have hk5 : k * 5 + 5 ≤ (cellsOf l).length := by rw [hlen]; omega
  obtain ⟨g, hA, h1, h2, h3⟩ := own_setCells ho.out (k := k * 5) (cs := RowC.enc o) (m := 5) (RowC.len o) hk5 (by decide)
  refine wpl_of_unit rfl (w' := w.setCells g (k * 5) (RowC.enc o)) ?_ (h _ ⟨h3⟩ ⟨?_⟩)
  · show ((Instr.storeAt 90 (a.eval x) (a.eval y)) >>= fun _ => pure Next.skip).run Try.prog w = _
    have hz : (RowC.enc o).toArray.size = 5 := rfl
    rw [hx, hy, Sem.run_bind, hA, ptrOf, shift_some, Addr.add_mid, Nat.zero_add, run_storeAt_mid (P := Try.prog) w g (k * 5) 90 (RowC.enc o).toArray (by rw [hz]; exact h1) (by rw [hz]; exact ht.size) (enc_one o)]
    rfl
  · have e1 := cellsOf_set l k o hk
    rw [← e1]
    exact h2
end
theorem andi64 (k : Nat) (h : k < 100000) : bits .and .i64 (k : Int) 15 = ((k % 16 : Nat) : Int) := by
  have h1 : (BitVec.ofInt 64 (k : Int)).toNat = k := by
    rw [BitVec.ofInt_natCast, BitVec.toNat_ofNat]; exact Nat.mod_eq_of_lt (by omega)
  have h2 : (BitVec.ofInt 64 (15 : Int)).toNat = 15 := by decide
  show IntKind.i64.wrap ((BitVec.ofInt 64 (k : Int) &&& BitVec.ofInt 64 (15 : Int)).toNat : Int) = _
  rw [BitVec.toNat_and, h1, h2, show (15 : Nat) = 2 ^ 4 - 1 from rfl, Nat.and_two_pow_sub_one_eq_mod, IntKind.wrap_i64]
  omega
/-- the Join is left in a state, with what is told -/
def XTk (z : Nat) (X : Nat → Prop) (w : World) (r : Tk) (e : Ending) (w' : World) : Prop :=
  ∃ B c, e = .returned (.tuple #[.slice B (r.2.getD []).length c, .bool r.2.isSome]) ∧ XTo z X w r.1 w' ∧ Rd w' B (bs (r.2.getD []))
set_option maxRecDepth 100000 in
set_option maxHeartbeats 1600000 in
theorem rmore0_calls (id now : Int) {A : Option Addr} {n c num : Nat} {part : List UInt8} {w : World} {z : Nat} {X : Nat → Prop} {s : St} (h : XS w z X s) (hN : s.N ≤ 1000000000) (hm : s.m ≤ 900000) (hG : s.G id = none) :
    Calls Try.prog 35 #[.pointer (some ⟨z, 0, none⟩), .agg #[.int .i64 id, .slice A n c], .int .i64 now] w (XTk z X w (furtherS s id num part now)) := by
  have hsp : furtherS s id num part now = errS s := by unfold furtherS; rw [hG]
  rw [hsp]
  obtain ⟨l, LA, lc, hb, hO0, hi0, hr, hx, hq⟩ := h.mem
  obtain ⟨m, hlm⟩ : ∃ m, l.length = m := ⟨_, rfl⟩
  rw [hlm] at hb hO0
  have hB : HB w z 38 #[.slice LA m lc, .int .i64 s.N] := ⟨hb⟩
  have hO : HO w 90 5 LA m lc (cellsOf l) := ⟨hO0⟩
  have hm2 : m ≤ 900000 := by rw [← hlm, hq.m]; exact hm
  have HG := Lib.hid hG
  clear hG hsp
  go_enter Try.func35, Try.ntmps35
  go_wp2_with (first | go_skip | ((with_reducible apply (wpl_alloc (dst := some 4))); intro zf wzf _ _ _) | ((with_reducible apply (wpl_box_agg (dst := some 4))); exact rfl; intro zf wzf _ _ _) | ((with_reducible apply (wpl_box_int (dst := some 4))); exact rfl; intro zf wzf _ _ _) | ((with_reducible apply (wpl_box_slice (dst := some 4))); exact rfl; intro zf wzf _ _ _) | ((with_reducible apply (wpl_box_str (dst := some 4))); exact rfl; intro zf wzf _ _ _) | ((with_reducible apply (wpl_box_bool (dst := some 4))); exact rfl; intro zf wzf _ _ _) | ((with_reducible apply (wpl_box_ptr (dst := some 4))); exact rfl; intro zf wzf _ _ _) | ((with_reducible apply wpl_alloc); intro z wz _ _ _) | ((with_reducible apply wpl_box_agg); exact rfl; intro z wz _ _ _) | ((with_reducible apply wpl_box_int); exact rfl; intro z wz _ _ _) | ((with_reducible apply wpl_box_slice); exact rfl; intro z wz _ _ _) | ((with_reducible apply wpl_box_str); exact rfl; intro z wz _ _ _) | ((with_reducible apply wpl_box_bool); exact rfl; intro z wz _ _ _) | ((with_reducible apply wpl_box_ptr); exact rfl; intro z wz _ _ _) | ((with_reducible apply (wpl_guard (op := .load _ _))); exact rfl) | ((with_reducible apply (wpl_guard (op := .fieldAddr _ _ _))); exact rfl) | ((with_reducible apply wpl_loadrow); exact rfl; infer_instance; infer_instance; (first | with_reducible assumption | (with_reducible exact enc_sz _ rfl) | kernel_rfl)) | ((with_reducible apply wpl_loadcellN); exact rfl; infer_instance; exact rfl) | ((with_reducible apply wpl_storerow); exact rfl; exact rfl; infer_instance; infer_instance; (first | with_reducible assumption | (with_reducible exact enc_sz _ rfl) | kernel_rfl); (first | with_reducible assumption | (with_reducible exact enc_sz _ rfl) | kernel_rfl); (first | (with_reducible exact u8s_one _) | with_reducible assumption | (with_reducible exact enc_one _) | kernel_rfl); intro ws _ _) | ((with_reducible apply wpl_storecell); exact rfl; exact rfl; infer_instance; exact rfl; (first | with_reducible assumption | omega | (focus (simp; done)) | (focus (simp; omega; done)) | decide); intro ws _ _))
  refine (at_calls (l := l) id hlm (by omega)).mono ?_
  rintro e w1 ⟨r, rfl, hs1, hat⟩
  rcases hat with ⟨rfl, hno⟩ | ⟨i, rfl, hil, hid⟩
  · have HNO := Lib.hid hno
    clear hno
    go_wp2_with (first | go_skip | ((with_reducible apply wpl_alloc); intro z wz _ _ _) | ((with_reducible apply wpl_box_agg); exact rfl; intro z wz _ _ _) | ((with_reducible apply wpl_box_int); exact rfl; intro z wz _ _ _) | ((with_reducible apply wpl_box_slice); exact rfl; intro z wz _ _ _) | ((with_reducible apply wpl_box_str); exact rfl; intro z wz _ _ _) | ((with_reducible apply wpl_box_bool); exact rfl; intro z wz _ _ _) | ((with_reducible apply wpl_box_ptr); exact rfl; intro z wz _ _ _) | ((with_reducible apply (wpl_guard (op := .load _ _))); exact rfl) | ((with_reducible apply (wpl_guard (op := .fieldAddr _ _ _))); exact rfl) | ((with_reducible apply wpl_loadrow); exact rfl; infer_instance; infer_instance; (first | with_reducible assumption | (with_reducible exact enc_sz _ rfl) | kernel_rfl)) | ((with_reducible apply wpl_loadcellN); exact rfl; infer_instance; exact rfl) | ((with_reducible apply wpl_storerow); exact rfl; exact rfl; infer_instance; infer_instance; (first | with_reducible assumption | (with_reducible exact enc_sz _ rfl) | kernel_rfl); (first | with_reducible assumption | (with_reducible exact enc_sz _ rfl) | kernel_rfl); (first | (with_reducible exact u8s_one _) | with_reducible assumption | (with_reducible exact enc_one _) | kernel_rfl); intro ws _ _) | ((with_reducible apply wpl_storecell); exact rfl; exact rfl; infer_instance; exact rfl; (first | with_reducible assumption | omega | (focus (simp; done)) | (focus (simp; omega; done)) | decide); intro ws _ _))
    go_ret2
    have hC : Chg (only z) w ws := (stepC (w0 := w)).chg
    have hB2 : HB ws z 38 (#[.slice LA m lc, .int .i64 s.N].setIfInBounds 1 (.int .i64 ((s.N : Int) + 1))) := inferInstance
    exact ⟨none, 0, rfl, XS.errDone h hlm hO0 hb hi0 hr hx hq hC hB2, Rd.nil _ _⟩
  · have := hq.at_ i hil
    rw [hid, HG.out] at this
    cases this
set_option maxRecDepth 100000 in
set_option maxHeartbeats 1600000 in
theorem rmore1_calls (id now : Int) {A : Option Addr} {n c num : Nat} {d : List UInt8} {v : Msg} {w : World} {z : Nat} {X : Nat → Prop} {s : St} (h : XS w z X s) (hN : s.N ≤ 1000000000) (hm : s.m ≤ 900000) (hp : Rd w A (bs d)) (hn : d.length = n) (h0 : 0 < n) (hn2 : n ≤ 1000)
    (hnum : (bget d 0).toNat % 16 = num) (hG : s.G id = some v) (hbad : num ≠ v.next ∨ n - 1 ≠ min (v.whole - v.b.length) 7) :
    Calls Try.prog 35 #[.pointer (some ⟨z, 0, none⟩), .agg #[.int .i64 id, .slice A n c], .int .i64 now] w (XTk z X w (furtherS s id num (d.drop 1) now)) := by
  have hR : HR w A (bs d) := ⟨hp⟩
  obtain ⟨l, LA, lc, hb, hO0, hi0, hr, hx, hq⟩ := h.mem
  obtain ⟨m, hlm⟩ : ∃ m, l.length = m := ⟨_, rfl⟩
  rw [hlm] at hb hO0
  have hB : HB w z 38 #[.slice LA m lc, .int .i64 s.N] := ⟨hb⟩
  have hO : HO w 90 5 LA m lc (cellsOf l) := ⟨hO0⟩
  have hm2 : m ≤ 900000 := by rw [← hlm, hq.m]; exact hm
  obtain ⟨i, hil, hid, habs⟩ := hq.hit hG
  have hsm := hq.sm i hil
  rcases hg : gt l i with ⟨oid, wh, nx, la, pA, pc, vb⟩
  rw [hg] at hid habs hsm
  obtain rfl : oid = id := hid
  obtain ⟨k1, k2, k3, k4, k5⟩ := hsm
  simp only at k1 k2 k3 k4 k5
  obtain ⟨nb, hnb⟩ : ∃ x, vb.length = x := ⟨_, rfl⟩
  obtain ⟨mq, hmq⟩ : ∃ mq, min (wh - nb) 7 = mq := ⟨_, rfl⟩
  have hsp0 : furtherS s oid num (d.drop 1) now = if num ≠ nx % 16 ∨ n - 1 ≠ mq then (s.drop oid, none) else if nb + (n - 1) = wh then (s.del oid, some (vb ++ d.drop 1)) else (s.put oid ⟨vb ++ d.drop 1, wh, (nx % 16 + 1) % 16, now⟩, none) := by
    unfold furtherS
    rw [hG, ← habs]
    show (if num ≠ nx % 16 ∨ (d.drop 1).length ≠ min (wh - vb.length) 7 then _ else if (vb ++ d.drop 1).length = wh then _ else _) = _
    rw [List.length_append, List.length_drop, hn, hnb, hmq]
    rfl
  rw [hnb] at k1 k3
  have HM := Lib.hid (show min (7 : Int) ((wh : Int) - (nb : Int)) = (mq : Int) by omega)
  have hmq7 : mq ≤ 7 := by omega
  have HNB := Lib.hid hnb
  have HGT := Lib.hid hg
  have HG := Lib.hid hG
  have hd2 : (bget d 0).toNat < 256 := (bget d 0).toNat_lt
  have E1 : IntKind.i64.wrap (bits .and .u8 ((bget d 0).toNat : Int) 15) = (num : Int) := by rw [andu8 _ hd2, hnum, IntKind.wrap_i64]; omega
  have E2 : bits .and .i64 (nx : Int) 15 = ((nx % 16 : Nat) : Int) := andi64 nx (by omega)
  have E3 : IntKind.i64.wrap (1 + (mq : Int)) = 1 + (mq : Int) := by rw [IntKind.wrap_i64]; omega
  have hbad2 : num ≠ nx % 16 ∨ n - 1 ≠ mq := by
    rw [← habs] at hbad
    rw [← hmq, ← hnb]
    exact hbad
  rw [hsp0, if_pos hbad2]
  clear hsp0 hnb hg hG habs hmq
  by_cases c1 : num = nx % 16
  · have F1 := Lib.hid (show (IntKind.i64.wrap (bits .and .u8 ((bget d 0).toNat : Int) 15) != bits .and .i64 (nx : Int) 15) = false by rw [E1, E2]; exact bneF (by omega))
    have F2 := Lib.hid (show ((n : Int) != IntKind.i64.wrap (1 + (mq : Int))) = true by rw [E3]; exact bneT (by omega))
    clear E1 E2 E3 c1 hnum hbad hbad2
    go_enter Try.func35, Try.ntmps35
    go_wp2_with (first | go_skip | ((with_reducible apply (wpl_alloc (dst := some 4))); intro zf wzf _ _ _) | ((with_reducible apply (wpl_box_agg (dst := some 4))); exact rfl; intro zf wzf _ _ _) | ((with_reducible apply (wpl_box_int (dst := some 4))); exact rfl; intro zf wzf _ _ _) | ((with_reducible apply (wpl_box_slice (dst := some 4))); exact rfl; intro zf wzf _ _ _) | ((with_reducible apply (wpl_box_str (dst := some 4))); exact rfl; intro zf wzf _ _ _) | ((with_reducible apply (wpl_box_bool (dst := some 4))); exact rfl; intro zf wzf _ _ _) | ((with_reducible apply (wpl_box_ptr (dst := some 4))); exact rfl; intro zf wzf _ _ _) | ((with_reducible apply wpl_alloc); intro z wz _ _ _) | ((with_reducible apply wpl_box_agg); exact rfl; intro z wz _ _ _) | ((with_reducible apply wpl_box_int); exact rfl; intro z wz _ _ _) | ((with_reducible apply wpl_box_slice); exact rfl; intro z wz _ _ _) | ((with_reducible apply wpl_box_str); exact rfl; intro z wz _ _ _) | ((with_reducible apply wpl_box_bool); exact rfl; intro z wz _ _ _) | ((with_reducible apply wpl_box_ptr); exact rfl; intro z wz _ _ _) | ((with_reducible apply (wpl_guard (op := .load _ _))); exact rfl) | ((with_reducible apply (wpl_guard (op := .fieldAddr _ _ _))); exact rfl) | ((with_reducible apply wpl_loadrow); exact rfl; infer_instance; infer_instance; (first | with_reducible assumption | (with_reducible exact enc_sz _ rfl) | kernel_rfl)) | ((with_reducible apply wpl_loadcellN); exact rfl; infer_instance; exact rfl) | ((with_reducible apply wpl_storerow); exact rfl; exact rfl; infer_instance; infer_instance; (first | with_reducible assumption | (with_reducible exact enc_sz _ rfl) | kernel_rfl); (first | with_reducible assumption | (with_reducible exact enc_sz _ rfl) | kernel_rfl); (first | (with_reducible exact u8s_one _) | with_reducible assumption | (with_reducible exact enc_one _) | kernel_rfl); intro ws _ _) | ((with_reducible apply wpl_storecell); exact rfl; exact rfl; infer_instance; exact rfl; (first | with_reducible assumption | omega | (focus (simp; done)) | (focus (simp; omega; done)) | decide); intro ws _ _))
    refine (at_calls (l := l) oid hlm (by omega)).mono ?_
    rintro e w1 ⟨r, rfl, hs1, hat⟩
    obtain rfl : r = (i : Int) := by
      rcases hat with ⟨_, hno⟩ | ⟨i', rfl, hil', hid'⟩
      · exact absurd (by rw [HGT.out]) (hno i hil)
      · rw [hq.inj i' i hil' hil (by rw [hid', HGT.out])]
    have hi9 : ¬ (i : Int) < 0 := by omega
    clear hat
    have hil2 : i < m := by omega
    go_wp2_with (first | go_skip | ((with_reducible apply wpl_loadO); exact rfl; infer_instance; (exact hil); (exact HGT.out); (exact HNB.out)) | ((with_reducible apply wpl_mineq); exact rfl; exact rfl; (exact HM.out)) | ((with_reducible apply (wpl_alloc (dst := some 9))); intro zo wzo _ _ _) | ((with_reducible apply (wpl_box_agg (dst := some 9))); exact rfl; intro zo wzo _ _ _) | ((with_reducible apply (wpl_box_int (dst := some 9))); exact rfl; intro zo wzo _ _ _) | ((with_reducible apply (wpl_box_slice (dst := some 9))); exact rfl; intro zo wzo _ _ _) | ((with_reducible apply (wpl_box_str (dst := some 9))); exact rfl; intro zo wzo _ _ _) | ((with_reducible apply (wpl_box_bool (dst := some 9))); exact rfl; intro zo wzo _ _ _) | ((with_reducible apply (wpl_box_ptr (dst := some 9))); exact rfl; intro zo wzo _ _ _) | ((with_reducible apply wpl_alloc); intro z wz _ _ _) | ((with_reducible apply wpl_box_agg); exact rfl; intro z wz _ _ _) | ((with_reducible apply wpl_box_int); exact rfl; intro z wz _ _ _) | ((with_reducible apply wpl_box_slice); exact rfl; intro z wz _ _ _) | ((with_reducible apply wpl_box_str); exact rfl; intro z wz _ _ _) | ((with_reducible apply wpl_box_bool); exact rfl; intro z wz _ _ _) | ((with_reducible apply wpl_box_ptr); exact rfl; intro z wz _ _ _) | ((with_reducible apply (wpl_guard (op := .load _ _))); exact rfl) | ((with_reducible apply (wpl_guard (op := .fieldAddr _ _ _))); exact rfl) | ((with_reducible apply wpl_loadrow); exact rfl; infer_instance; infer_instance; (first | with_reducible assumption | (with_reducible exact enc_sz _ rfl) | kernel_rfl)) | ((with_reducible apply wpl_loadcellN); exact rfl; infer_instance; exact rfl) | ((with_reducible apply wpl_storerow); exact rfl; exact rfl; infer_instance; infer_instance; (first | with_reducible assumption | (with_reducible exact enc_sz _ rfl) | kernel_rfl); (first | with_reducible assumption | (with_reducible exact enc_sz _ rfl) | kernel_rfl); (first | (with_reducible exact u8s_one _) | with_reducible assumption | (with_reducible exact enc_one _) | kernel_rfl); intro ws _ _) | ((with_reducible apply wpl_storecell); exact rfl; exact rfl; infer_instance; exact rfl; (first | with_reducible assumption | omega | (focus (simp; done)) | (focus (simp; omega; done)) | decide); intro ws _ _) | ((with_reducible apply wpl_sl_lh); exact rfl; exact rfl; exact rfl; infer_instance; (first | with_reducible assumption | omega); (first | with_reducible assumption | omega)) | ((with_reducible apply wpl_sl_h); exact rfl; exact rfl; infer_instance; (first | with_reducible assumption | omega)) | ((with_reducible apply wpl_sl_l); exact rfl; exact rfl; infer_instance; (first | with_reducible assumption | omega)) | ((with_reducible apply wpl_min); exact rfl; exact rfl) | ((with_reducible apply wpl_appendB); exact rfl; exact rfl; infer_instance; (first | exact inferInstance | exact ⟨Own.nil _ _ _⟩); infer_instance; (first | with_reducible assumption | (with_reducible exact H32.len _) | (focus (simp; done)) | omega); (first | with_reducible assumption | omega); intro A' c' wa _ _ _ hcap) | ((with_reducible apply (wpl_indexE (α := OM) (t := 36))); exact rfl; exact rfl; infer_instance; infer_instance; (first | with_reducible assumption | omega | (focus (simp; done)) | (focus (simp; omega; done)) | decide); exact rfl; (decide); (first | with_reducible assumption | omega | (focus (simp; done)) | (focus (simp; omega; done)) | decide)) | ((with_reducible apply (wpl_indexE0 (α := OM) (t := 36))); exact rfl; infer_instance; infer_instance; (first | with_reducible assumption | omega | (focus (simp; done)) | (focus (simp; omega; done)) | decide); exact rfl; (decide); (first | with_reducible assumption | omega | (focus (simp; done)) | (focus (simp; omega; done)) | decide)) | ((with_reducible apply (wpl_loadE (α := OM) (t := 90))); infer_instance; exact rfl; infer_instance; exact rfl; (decide); (first | with_reducible assumption | omega | (focus (simp; done)) | (focus (simp; omega; done)) | decide)) | ((with_reducible apply (wpl_fieldE (t := 90))); (exact Try.underlying90); exact rfl; (kernel_rfl); exact rfl; infer_instance; (exact cells_pos (by decide) (by omega))) | ((with_reducible apply (wpl_loadF (α := OM))); infer_instance; exact rfl; infer_instance; exact rfl; (first | with_reducible assumption | omega | (focus (simp; done)) | (focus (simp; omega; done)) | decide); exact rfl) | ((with_reducible apply wpl_indexB0); exact rfl; infer_instance; infer_instance; (first | with_reducible assumption | (with_reducible exact H32.len _) | (focus (simp; done)) | omega); (first | with_reducible assumption | omega)) | ((with_reducible apply wpl_indexB); exact rfl; exact rfl; infer_instance; infer_instance; (first | with_reducible assumption | (with_reducible exact H32.len _) | (focus (simp; done)) | omega); (first | with_reducible assumption | omega)) | ((with_reducible apply (wpl_loadB (t := 5))); exact rfl; infer_instance; infer_instance; (first | with_reducible assumption | omega)) | ((with_reducible apply (wpl_loadint (t := 3))); exact rfl; infer_instance; infer_instance; (first | with_reducible assumption | omega)) | ((with_reducible apply (wpl_loadbyte (t := 5))); exact rfl; infer_instance; infer_instance; (first | with_reducible assumption | omega)) | ((with_reducible apply (wpl_storeint (t := 3))); exact rfl; exact rfl; infer_instance; (first | with_reducible assumption | omega); intro ws _ _) | ((with_reducible apply (wpl_storebyte (t := 5))); exact rfl; exact rfl; infer_instance; (first | with_reducible assumption | omega | (focus (simp; done)) | (focus (simp; omega; done)) | decide); (constructor <;> omega); intro ws _ _))
    refine wp_region_N (nowhere) (by kernel_rfl) (fun wd _ _ => ?_)
    refine' takeH (i := 0) (v := _) rfl (by kernel_rfl) (by kernel_rfl) (by kernel_rfl) (fun _ _ _ h => h) (yields_of (by rfl) (fun w' _ => ?_)) inferInstance ?_
    rotate_left
    · (first | ((with_reducible apply (ev_fieldE (t := 90))); (exact Try.underlying90); exact rfl; (kernel_rfl); exact rfl; infer_instance; (exact cells_pos (by decide) (by omega))) | (go_simp; try with_reducible rfl))
    try simp only [Act.put, sA]; try simp only [sB, sC]
    refine' takeH (i := 1) (v := _) rfl (by kernel_rfl) (by kernel_rfl) (by kernel_rfl) (fun _ _ _ h => h) (yields_of (by rfl) (fun w' _ => ?_)) inferInstance ?_
    rotate_left
    · (first | ((with_reducible apply (ev_loadB (t := 5))); exact rfl; infer_instance; infer_instance; (first | with_reducible assumption | omega)) | ((with_reducible apply ev_loadrow); exact rfl; infer_instance; infer_instance; (first | with_reducible assumption | (with_reducible exact enc_sz _ rfl) | kernel_rfl)) | ((with_reducible apply ev_loadcellN); exact rfl; infer_instance; infer_instance; exact rfl) | ((with_reducible apply (ev_loadE (α := OM) (t := 90))); infer_instance; exact rfl; infer_instance; exact rfl; (decide); (first | with_reducible assumption | omega | (focus (simp; done)) | (focus (simp; omega; done)) | decide)) | ((with_reducible apply (ev_loadF (α := OM))); infer_instance; exact rfl; infer_instance; exact rfl; (first | with_reducible assumption | omega | (focus (simp; done)) | (focus (simp; omega; done)) | decide); exact rfl) | ((with_reducible apply (ev_loadint (t := 3))); exact rfl; infer_instance; infer_instance; (first | with_reducible assumption | omega)) | ((with_reducible apply (ev_loadbyte (t := 5))); exact rfl; infer_instance; infer_instance; (first | with_reducible assumption | omega)) | (go_simp; try with_reducible rfl))
    try simp only [Act.put, sA]; try simp only [sB, sC]
    refine' takeH (i := 2) (v := _) rfl (by kernel_rfl) (by kernel_rfl) (by kernel_rfl) (fun _ _ _ h => h) (yields_of (by rfl) (fun w' _ => ?_)) inferInstance ?_
    rotate_left
    · (first | ((with_reducible apply ev_indexB0); exact rfl; infer_instance; infer_instance; (exact hn); (omega)) | ((with_reducible apply ev_indexB0); exact rfl; infer_instance; infer_instance; (first | with_reducible assumption | omega); (first | with_reducible assumption | omega)) | ((with_reducible apply ev_indexB); exact rfl; exact rfl; infer_instance; infer_instance; (first | with_reducible assumption | omega); (first | with_reducible assumption | omega)) | ((with_reducible apply (ev_indexE (α := OM) (t := 36))); exact rfl; exact rfl; infer_instance; infer_instance; (first | with_reducible assumption | omega | (focus (simp; done)) | (focus (simp; omega; done)) | decide); exact rfl; (decide); (first | with_reducible assumption | omega | (focus (simp; done)) | (focus (simp; omega; done)) | decide)) | ((with_reducible apply (ev_indexE0 (α := OM) (t := 36))); exact rfl; infer_instance; infer_instance; (first | with_reducible assumption | omega | (focus (simp; done)) | (focus (simp; omega; done)) | decide); exact rfl; (decide); (first | with_reducible assumption | omega | (focus (simp; done)) | (focus (simp; omega; done)) | decide)) | (go_simp; try with_reducible rfl))
    try simp only [Act.put, sA]; try simp only [sB, sC]
    refine' takeH (i := 3) (v := _) rfl (by kernel_rfl) (by kernel_rfl) (by kernel_rfl) (fun _ _ _ h => h) (yields_of (by rfl) (fun w' _ => ?_)) inferInstance ?_
    rotate_left
    · (first | ((with_reducible apply (ev_loadB (t := 5))); exact rfl; infer_instance; infer_instance; (first | with_reducible assumption | omega)) | ((with_reducible apply ev_loadrow); exact rfl; infer_instance; infer_instance; (first | with_reducible assumption | (with_reducible exact enc_sz _ rfl) | kernel_rfl)) | ((with_reducible apply ev_loadcellN); exact rfl; infer_instance; infer_instance; exact rfl) | ((with_reducible apply (ev_loadE (α := OM) (t := 90))); infer_instance; exact rfl; infer_instance; exact rfl; (decide); (first | with_reducible assumption | omega | (focus (simp; done)) | (focus (simp; omega; done)) | decide)) | ((with_reducible apply (ev_loadF (α := OM))); infer_instance; exact rfl; infer_instance; exact rfl; (first | with_reducible assumption | omega | (focus (simp; done)) | (focus (simp; omega; done)) | decide); exact rfl) | ((with_reducible apply (ev_loadint (t := 3))); exact rfl; infer_instance; infer_instance; (first | with_reducible assumption | omega)) | ((with_reducible apply (ev_loadbyte (t := 5))); exact rfl; infer_instance; infer_instance; (first | with_reducible assumption | omega)) | (go_simp; try with_reducible rfl))
    try simp only [Act.put, sA]; try simp only [sB, sC]
    refine' takeH (i := 4) (v := _) rfl (by kernel_rfl) (by kernel_rfl) (by kernel_rfl) (fun _ _ _ h => h) (yields_of (by rfl) (fun w' _ => ?_)) inferInstance ?_
    rotate_left
    · (go_simp; try with_reducible rfl)
    try simp only [Act.put, sA]; try simp only [sB, sC]
    try simp only [F1.out]
    try simp only [F2.out]
    refine' takeH (i := 5) (v := _) rfl (by kernel_rfl) (by kernel_rfl) (by kernel_rfl) (fun _ _ _ h => h) (yields_of (by rfl) (fun w' _ => ?_)) inferInstance ?_
    rotate_left
    · (go_simp; try with_reducible rfl)
    try simp only [Act.put, sA]; try simp only [sB, sC]
    refine' takeH (i := 6) (v := _) rfl (by kernel_rfl) (by kernel_rfl) (by kernel_rfl) (fun _ _ _ h => h) (yields_of (by rfl) (fun w' _ => ?_)) inferInstance ?_
    rotate_left
    · (first | ((with_reducible apply (ev_fieldE (t := 90))); (exact Try.underlying90); exact rfl; (kernel_rfl); exact rfl; infer_instance; (exact cells_pos (by decide) (by omega))) | (go_simp; try with_reducible rfl))
    try simp only [Act.put, sA]; try simp only [sB, sC]
    refine' takeH (i := 7) (v := _) rfl (by kernel_rfl) (by kernel_rfl) (by kernel_rfl) (fun _ _ _ h => h) (yields_of (by rfl) (fun w' _ => ?_)) inferInstance ?_
    rotate_left
    · (first | ((with_reducible apply (ev_loadB (t := 5))); exact rfl; infer_instance; infer_instance; (first | with_reducible assumption | omega)) | ((with_reducible apply ev_loadrow); exact rfl; infer_instance; infer_instance; (first | with_reducible assumption | (with_reducible exact enc_sz _ rfl) | kernel_rfl)) | ((with_reducible apply ev_loadcellN); exact rfl; infer_instance; infer_instance; exact rfl) | ((with_reducible apply (ev_loadE (α := OM) (t := 90))); infer_instance; exact rfl; infer_instance; exact rfl; (decide); (first | with_reducible assumption | omega | (focus (simp; done)) | (focus (simp; omega; done)) | decide)) | ((with_reducible apply (ev_loadF (α := OM))); infer_instance; exact rfl; infer_instance; exact rfl; (first | with_reducible assumption | omega | (focus (simp; done)) | (focus (simp; omega; done)) | decide); exact rfl) | ((with_reducible apply (ev_loadint (t := 3))); exact rfl; infer_instance; infer_instance; (first | with_reducible assumption | omega)) | ((with_reducible apply (ev_loadbyte (t := 5))); exact rfl; infer_instance; infer_instance; (first | with_reducible assumption | omega)) | (go_simp; try with_reducible rfl))
    try simp only [Act.put, sA]; try simp only [sB, sC]
    refine' takeH (i := 8) (v := _) rfl (by kernel_rfl) (by kernel_rfl) (by kernel_rfl) (fun _ _ _ h => h) (yields_of (by rfl) (fun w' _ => ?_)) inferInstance ?_
    rotate_left
    · (go_simp; try with_reducible rfl)
    try simp only [Act.put, sA]; try simp only [sB, sC]
    try simp only [F1.out]
    try simp only [F2.out]
    refine' takeH (i := 9) (v := _) rfl (by kernel_rfl) (by kernel_rfl) (by kernel_rfl) (fun _ _ _ h => h) (yields_of (by rfl) (fun w' _ => ?_)) inferInstance ?_
    rotate_left
    · (go_simp; try with_reducible rfl)
    try simp only [Act.put, sA]; try simp only [sB, sC]
    try simp only [F1.out]
    try simp only [F2.out]
    refine' takeH (i := 10) (v := _) rfl (by kernel_rfl) (by kernel_rfl) (by kernel_rfl) (fun _ _ _ h => h) (yields_of (by rfl) (fun w' _ => ?_)) inferInstance ?_
    rotate_left
    · (go_simp; try with_reducible rfl)
    try simp only [Act.put, sA]; try simp only [sB, sC]
    refine' takeH (i := 11) (v := _) rfl (by kernel_rfl) (by kernel_rfl) (by kernel_rfl) (fun _ _ _ h => h) (yields_of (by rfl) (fun w' _ => ?_)) inferInstance ?_
    rotate_left
    · (first | ((with_reducible apply (ev_fieldE (t := 90))); (exact Try.underlying90); exact rfl; (kernel_rfl); exact rfl; infer_instance; (exact cells_pos (by decide) (by omega))) | (go_simp; try with_reducible rfl))
    try simp only [Act.put, sA]; try simp only [sB, sC]
    refine' takeH (i := 12) (v := _) rfl (by kernel_rfl) (by kernel_rfl) (by kernel_rfl) (fun _ _ _ h => h) (yields_of (by rfl) (fun w' _ => ?_)) inferInstance ?_
    rotate_left
    · (first | ((with_reducible apply (ev_loadB (t := 5))); exact rfl; infer_instance; infer_instance; (first | with_reducible assumption | omega)) | ((with_reducible apply ev_loadrow); exact rfl; infer_instance; infer_instance; (first | with_reducible assumption | (with_reducible exact enc_sz _ rfl) | kernel_rfl)) | ((with_reducible apply ev_loadcellN); exact rfl; infer_instance; infer_instance; exact rfl) | ((with_reducible apply (ev_loadE (α := OM) (t := 90))); infer_instance; exact rfl; infer_instance; exact rfl; (decide); (first | with_reducible assumption | omega | (focus (simp; done)) | (focus (simp; omega; done)) | decide)) | ((with_reducible apply (ev_loadF (α := OM))); infer_instance; exact rfl; infer_instance; exact rfl; (first | with_reducible assumption | omega | (focus (simp; done)) | (focus (simp; omega; done)) | decide); exact rfl) | ((with_reducible apply (ev_loadint (t := 3))); exact rfl; infer_instance; infer_instance; (first | with_reducible assumption | omega)) | ((with_reducible apply (ev_loadbyte (t := 5))); exact rfl; infer_instance; infer_instance; (first | with_reducible assumption | omega)) | (go_simp; try with_reducible rfl))
    try simp only [Act.put, sA]; try simp only [sB, sC]
    refine' takeH (i := 13) (v := _) rfl (by kernel_rfl) (by kernel_rfl) (by kernel_rfl) (fun _ _ _ h => h) (yields_of (by rfl) (fun w' _ => ?_)) inferInstance ?_
    rotate_left
    · (go_simp; try with_reducible rfl)
    try simp only [Act.put, sA]; try simp only [sB, sC]
    refine' takeH (i := 14) (v := _) rfl (by kernel_rfl) (by kernel_rfl) (by kernel_rfl) (fun _ _ _ h => h) (yields_of (by rfl) (fun w' _ => ?_)) inferInstance ?_
    rotate_left
    · (go_simp; try with_reducible rfl)
    try simp only [Act.put, sA]; try simp only [sB, sC]
    refine' takeH (i := 15) (v := _) rfl (by kernel_rfl) (by kernel_rfl) (by kernel_rfl) (fun _ _ _ h => h) (yields_of (by rfl) (fun w' _ => ?_)) inferInstance ?_
    rotate_left
    · (go_simp; try with_reducible rfl)
    try simp only [Act.put, sA]; try simp only [sB, sC]
    try simp only [F1.out]
    try simp only [F2.out]
    refine' takeH (i := 16) (v := _) rfl (by kernel_rfl) (by kernel_rfl) (by kernel_rfl) (fun _ _ _ h => h) (yields_of (by rfl) (fun w' _ => ?_)) inferInstance ?_
    rotate_left
    · (go_simp; try with_reducible rfl)
    try simp only [Act.put, sA]; try simp only [sB, sC]
    try simp only [F1.out]
    try simp only [F2.out]
    refine' takeH (i := 17) (v := _) rfl (by kernel_rfl) (by kernel_rfl) (by kernel_rfl) (fun _ _ _ h => h) (yields_of (by rfl) (fun w' _ => ?_)) inferInstance ?_
    rotate_left
    · (go_simp; try with_reducible rfl)
    try simp only [Act.put, sA]; try simp only [sB, sC]
    refine wpAnyH_done (by kernel_rfl) ?_ _
    have hc0 : Chg nowhere w wd := (stepC (w0 := w)).chg
    go_wp2_with (first | go_skip | ((with_reducible apply wpl_alloc); intro z wz _ _ _) | ((with_reducible apply wpl_box_agg); exact rfl; intro z wz _ _ _) | ((with_reducible apply wpl_box_int); exact rfl; intro z wz _ _ _) | ((with_reducible apply wpl_box_slice); exact rfl; intro z wz _ _ _) | ((with_reducible apply wpl_box_str); exact rfl; intro z wz _ _ _) | ((with_reducible apply wpl_box_bool); exact rfl; intro z wz _ _ _) | ((with_reducible apply wpl_box_ptr); exact rfl; intro z wz _ _ _) | ((with_reducible apply (wpl_guard (op := .load _ _))); exact rfl) | ((with_reducible apply (wpl_guard (op := .fieldAddr _ _ _))); exact rfl) | ((with_reducible apply wpl_loadrow); exact rfl; infer_instance; infer_instance; (first | with_reducible assumption | (with_reducible exact enc_sz _ rfl) | kernel_rfl)) | ((with_reducible apply wpl_loadcellN); exact rfl; infer_instance; exact rfl) | ((with_reducible apply wpl_storerow); exact rfl; exact rfl; infer_instance; infer_instance; (first | with_reducible assumption | (with_reducible exact enc_sz _ rfl) | kernel_rfl); (first | with_reducible assumption | (with_reducible exact enc_sz _ rfl) | kernel_rfl); (first | (with_reducible exact u8s_one _) | with_reducible assumption | (with_reducible exact enc_one _) | kernel_rfl); intro ws _ _) | ((with_reducible apply wpl_storecell); exact rfl; exact rfl; infer_instance; exact rfl; (first | with_reducible assumption | omega | (focus (simp; done)) | (focus (simp; omega; done)) | decide); intro ws _ _))
    refine (xdropTrue_calls oid (h.calm hc0 (fun _ _ hk => hk)) hN (by omega)).mono ?_
    rintro e w3 ⟨rfl, X3, hX3, hCz, hXle⟩
    have hC3 : Chg X wd w3 := hCz.mono (fun x _ hk => by rw [show x = z from hk]; exact h.inz)
    go_wp2_with fail
    go_ret2
    exact ⟨none, 0, rfl, XTo.calm hc0 ⟨X3, hX3, hC3, hXle⟩, Rd.nil _ _⟩
  · have F1 := Lib.hid (show (IntKind.i64.wrap (bits .and .u8 ((bget d 0).toNat : Int) 15) != bits .and .i64 (nx : Int) 15) = true by rw [E1, E2]; exact bneT (by omega))
    have F2 := F1
    clear E1 E2 E3 c1 hnum hbad hbad2
    go_enter Try.func35, Try.ntmps35
    go_wp2_with (first | go_skip | ((with_reducible apply (wpl_alloc (dst := some 4))); intro zf wzf _ _ _) | ((with_reducible apply (wpl_box_agg (dst := some 4))); exact rfl; intro zf wzf _ _ _) | ((with_reducible apply (wpl_box_int (dst := some 4))); exact rfl; intro zf wzf _ _ _) | ((with_reducible apply (wpl_box_slice (dst := some 4))); exact rfl; intro zf wzf _ _ _) | ((with_reducible apply (wpl_box_str (dst := some 4))); exact rfl; intro zf wzf _ _ _) | ((with_reducible apply (wpl_box_bool (dst := some 4))); exact rfl; intro zf wzf _ _ _) | ((with_reducible apply (wpl_box_ptr (dst := some 4))); exact rfl; intro zf wzf _ _ _) | ((with_reducible apply wpl_alloc); intro z wz _ _ _) | ((with_reducible apply wpl_box_agg); exact rfl; intro z wz _ _ _) | ((with_reducible apply wpl_box_int); exact rfl; intro z wz _ _ _) | ((with_reducible apply wpl_box_slice); exact rfl; intro z wz _ _ _) | ((with_reducible apply wpl_box_str); exact rfl; intro z wz _ _ _) | ((with_reducible apply wpl_box_bool); exact rfl; intro z wz _ _ _) | ((with_reducible apply wpl_box_ptr); exact rfl; intro z wz _ _ _) | ((with_reducible apply (wpl_guard (op := .load _ _))); exact rfl) | ((with_reducible apply (wpl_guard (op := .fieldAddr _ _ _))); exact rfl) | ((with_reducible apply wpl_loadrow); exact rfl; infer_instance; infer_instance; (first | with_reducible assumption | (with_reducible exact enc_sz _ rfl) | kernel_rfl)) | ((with_reducible apply wpl_loadcellN); exact rfl; infer_instance; exact rfl) | ((with_reducible apply wpl_storerow); exact rfl; exact rfl; infer_instance; infer_instance; (first | with_reducible assumption | (with_reducible exact enc_sz _ rfl) | kernel_rfl); (first | with_reducible assumption | (with_reducible exact enc_sz _ rfl) | kernel_rfl); (first | (with_reducible exact u8s_one _) | with_reducible assumption | (with_reducible exact enc_one _) | kernel_rfl); intro ws _ _) | ((with_reducible apply wpl_storecell); exact rfl; exact rfl; infer_instance; exact rfl; (first | with_reducible assumption | omega | (focus (simp; done)) | (focus (simp; omega; done)) | decide); intro ws _ _))
    refine (at_calls (l := l) oid hlm (by omega)).mono ?_
    rintro e w1 ⟨r, rfl, hs1, hat⟩
    obtain rfl : r = (i : Int) := by
      rcases hat with ⟨_, hno⟩ | ⟨i', rfl, hil', hid'⟩
      · exact absurd (by rw [HGT.out]) (hno i hil)
      · rw [hq.inj i' i hil' hil (by rw [hid', HGT.out])]
    have hi9 : ¬ (i : Int) < 0 := by omega
    clear hat
    have hil2 : i < m := by omega
    go_wp2_with (first | go_skip | ((with_reducible apply wpl_loadO); exact rfl; infer_instance; (exact hil); (exact HGT.out); (exact HNB.out)) | ((with_reducible apply wpl_mineq); exact rfl; exact rfl; (exact HM.out)) | ((with_reducible apply (wpl_alloc (dst := some 9))); intro zo wzo _ _ _) | ((with_reducible apply (wpl_box_agg (dst := some 9))); exact rfl; intro zo wzo _ _ _) | ((with_reducible apply (wpl_box_int (dst := some 9))); exact rfl; intro zo wzo _ _ _) | ((with_reducible apply (wpl_box_slice (dst := some 9))); exact rfl; intro zo wzo _ _ _) | ((with_reducible apply (wpl_box_str (dst := some 9))); exact rfl; intro zo wzo _ _ _) | ((with_reducible apply (wpl_box_bool (dst := some 9))); exact rfl; intro zo wzo _ _ _) | ((with_reducible apply (wpl_box_ptr (dst := some 9))); exact rfl; intro zo wzo _ _ _) | ((with_reducible apply wpl_alloc); intro z wz _ _ _) | ((with_reducible apply wpl_box_agg); exact rfl; intro z wz _ _ _) | ((with_reducible apply wpl_box_int); exact rfl; intro z wz _ _ _) | ((with_reducible apply wpl_box_slice); exact rfl; intro z wz _ _ _) | ((with_reducible apply wpl_box_str); exact rfl; intro z wz _ _ _) | ((with_reducible apply wpl_box_bool); exact rfl; intro z wz _ _ _) | ((with_reducible apply wpl_box_ptr); exact rfl; intro z wz _ _ _) | ((with_reducible apply (wpl_guard (op := .load _ _))); exact rfl) | ((with_reducible apply (wpl_guard (op := .fieldAddr _ _ _))); exact rfl) | ((with_reducible apply wpl_loadrow); exact rfl; infer_instance; infer_instance; (first | with_reducible assumption | (with_reducible exact enc_sz _ rfl) | kernel_rfl)) | ((with_reducible apply wpl_loadcellN); exact rfl; infer_instance; exact rfl) | ((with_reducible apply wpl_storerow); exact rfl; exact rfl; infer_instance; infer_instance; (first | with_reducible assumption | (with_reducible exact enc_sz _ rfl) | kernel_rfl); (first | with_reducible assumption | (with_reducible exact enc_sz _ rfl) | kernel_rfl); (first | (with_reducible exact u8s_one _) | with_reducible assumption | (with_reducible exact enc_one _) | kernel_rfl); intro ws _ _) | ((with_reducible apply wpl_storecell); exact rfl; exact rfl; infer_instance; exact rfl; (first | with_reducible assumption | omega | (focus (simp; done)) | (focus (simp; omega; done)) | decide); intro ws _ _) | ((with_reducible apply wpl_sl_lh); exact rfl; exact rfl; exact rfl; infer_instance; (first | with_reducible assumption | omega); (first | with_reducible assumption | omega)) | ((with_reducible apply wpl_sl_h); exact rfl; exact rfl; infer_instance; (first | with_reducible assumption | omega)) | ((with_reducible apply wpl_sl_l); exact rfl; exact rfl; infer_instance; (first | with_reducible assumption | omega)) | ((with_reducible apply wpl_min); exact rfl; exact rfl) | ((with_reducible apply wpl_appendB); exact rfl; exact rfl; infer_instance; (first | exact inferInstance | exact ⟨Own.nil _ _ _⟩); infer_instance; (first | with_reducible assumption | (with_reducible exact H32.len _) | (focus (simp; done)) | omega); (first | with_reducible assumption | omega); intro A' c' wa _ _ _ hcap) | ((with_reducible apply (wpl_indexE (α := OM) (t := 36))); exact rfl; exact rfl; infer_instance; infer_instance; (first | with_reducible assumption | omega | (focus (simp; done)) | (focus (simp; omega; done)) | decide); exact rfl; (decide); (first | with_reducible assumption | omega | (focus (simp; done)) | (focus (simp; omega; done)) | decide)) | ((with_reducible apply (wpl_indexE0 (α := OM) (t := 36))); exact rfl; infer_instance; infer_instance; (first | with_reducible assumption | omega | (focus (simp; done)) | (focus (simp; omega; done)) | decide); exact rfl; (decide); (first | with_reducible assumption | omega | (focus (simp; done)) | (focus (simp; omega; done)) | decide)) | ((with_reducible apply (wpl_loadE (α := OM) (t := 90))); infer_instance; exact rfl; infer_instance; exact rfl; (decide); (first | with_reducible assumption | omega | (focus (simp; done)) | (focus (simp; omega; done)) | decide)) | ((with_reducible apply (wpl_fieldE (t := 90))); (exact Try.underlying90); exact rfl; (kernel_rfl); exact rfl; infer_instance; (exact cells_pos (by decide) (by omega))) | ((with_reducible apply (wpl_loadF (α := OM))); infer_instance; exact rfl; infer_instance; exact rfl; (first | with_reducible assumption | omega | (focus (simp; done)) | (focus (simp; omega; done)) | decide); exact rfl) | ((with_reducible apply wpl_indexB0); exact rfl; infer_instance; infer_instance; (first | with_reducible assumption | (with_reducible exact H32.len _) | (focus (simp; done)) | omega); (first | with_reducible assumption | omega)) | ((with_reducible apply wpl_indexB); exact rfl; exact rfl; infer_instance; infer_instance; (first | with_reducible assumption | (with_reducible exact H32.len _) | (focus (simp; done)) | omega); (first | with_reducible assumption | omega)) | ((with_reducible apply (wpl_loadB (t := 5))); exact rfl; infer_instance; infer_instance; (first | with_reducible assumption | omega)) | ((with_reducible apply (wpl_loadint (t := 3))); exact rfl; infer_instance; infer_instance; (first | with_reducible assumption | omega)) | ((with_reducible apply (wpl_loadbyte (t := 5))); exact rfl; infer_instance; infer_instance; (first | with_reducible assumption | omega)) | ((with_reducible apply (wpl_storeint (t := 3))); exact rfl; exact rfl; infer_instance; (first | with_reducible assumption | omega); intro ws _ _) | ((with_reducible apply (wpl_storebyte (t := 5))); exact rfl; exact rfl; infer_instance; (first | with_reducible assumption | omega | (focus (simp; done)) | (focus (simp; omega; done)) | decide); (constructor <;> omega); intro ws _ _))
    refine wp_region_N (nowhere) (by kernel_rfl) (fun wd _ _ => ?_)
    refine' takeH (i := 0) (v := _) rfl (by kernel_rfl) (by kernel_rfl) (by kernel_rfl) (fun _ _ _ h => h) (yields_of (by rfl) (fun w' _ => ?_)) inferInstance ?_
    rotate_left
    · (first | ((with_reducible apply (ev_fieldE (t := 90))); (exact Try.underlying90); exact rfl; (kernel_rfl); exact rfl; infer_instance; (exact cells_pos (by decide) (by omega))) | (go_simp; try with_reducible rfl))
    try simp only [Act.put, sA]; try simp only [sB, sC]
    refine' takeH (i := 1) (v := _) rfl (by kernel_rfl) (by kernel_rfl) (by kernel_rfl) (fun _ _ _ h => h) (yields_of (by rfl) (fun w' _ => ?_)) inferInstance ?_
    rotate_left
    · (first | ((with_reducible apply (ev_loadB (t := 5))); exact rfl; infer_instance; infer_instance; (first | with_reducible assumption | omega)) | ((with_reducible apply ev_loadrow); exact rfl; infer_instance; infer_instance; (first | with_reducible assumption | (with_reducible exact enc_sz _ rfl) | kernel_rfl)) | ((with_reducible apply ev_loadcellN); exact rfl; infer_instance; infer_instance; exact rfl) | ((with_reducible apply (ev_loadE (α := OM) (t := 90))); infer_instance; exact rfl; infer_instance; exact rfl; (decide); (first | with_reducible assumption | omega | (focus (simp; done)) | (focus (simp; omega; done)) | decide)) | ((with_reducible apply (ev_loadF (α := OM))); infer_instance; exact rfl; infer_instance; exact rfl; (first | with_reducible assumption | omega | (focus (simp; done)) | (focus (simp; omega; done)) | decide); exact rfl) | ((with_reducible apply (ev_loadint (t := 3))); exact rfl; infer_instance; infer_instance; (first | with_reducible assumption | omega)) | ((with_reducible apply (ev_loadbyte (t := 5))); exact rfl; infer_instance; infer_instance; (first | with_reducible assumption | omega)) | (go_simp; try with_reducible rfl))
    try simp only [Act.put, sA]; try simp only [sB, sC]
    refine' takeH (i := 2) (v := _) rfl (by kernel_rfl) (by kernel_rfl) (by kernel_rfl) (fun _ _ _ h => h) (yields_of (by rfl) (fun w' _ => ?_)) inferInstance ?_
    rotate_left
    · (first | ((with_reducible apply ev_indexB0); exact rfl; infer_instance; infer_instance; (exact hn); (omega)) | ((with_reducible apply ev_indexB0); exact rfl; infer_instance; infer_instance; (first | with_reducible assumption | omega); (first | with_reducible assumption | omega)) | ((with_reducible apply ev_indexB); exact rfl; exact rfl; infer_instance; infer_instance; (first | with_reducible assumption | omega); (first | with_reducible assumption | omega)) | ((with_reducible apply (ev_indexE (α := OM) (t := 36))); exact rfl; exact rfl; infer_instance; infer_instance; (first | with_reducible assumption | omega | (focus (simp; done)) | (focus (simp; omega; done)) | decide); exact rfl; (decide); (first | with_reducible assumption | omega | (focus (simp; done)) | (focus (simp; omega; done)) | decide)) | ((with_reducible apply (ev_indexE0 (α := OM) (t := 36))); exact rfl; infer_instance; infer_instance; (first | with_reducible assumption | omega | (focus (simp; done)) | (focus (simp; omega; done)) | decide); exact rfl; (decide); (first | with_reducible assumption | omega | (focus (simp; done)) | (focus (simp; omega; done)) | decide)) | (go_simp; try with_reducible rfl))
    try simp only [Act.put, sA]; try simp only [sB, sC]
    refine' takeH (i := 3) (v := _) rfl (by kernel_rfl) (by kernel_rfl) (by kernel_rfl) (fun _ _ _ h => h) (yields_of (by rfl) (fun w' _ => ?_)) inferInstance ?_
    rotate_left
    · (first | ((with_reducible apply (ev_loadB (t := 5))); exact rfl; infer_instance; infer_instance; (first | with_reducible assumption | omega)) | ((with_reducible apply ev_loadrow); exact rfl; infer_instance; infer_instance; (first | with_reducible assumption | (with_reducible exact enc_sz _ rfl) | kernel_rfl)) | ((with_reducible apply ev_loadcellN); exact rfl; infer_instance; infer_instance; exact rfl) | ((with_reducible apply (ev_loadE (α := OM) (t := 90))); infer_instance; exact rfl; infer_instance; exact rfl; (decide); (first | with_reducible assumption | omega | (focus (simp; done)) | (focus (simp; omega; done)) | decide)) | ((with_reducible apply (ev_loadF (α := OM))); infer_instance; exact rfl; infer_instance; exact rfl; (first | with_reducible assumption | omega | (focus (simp; done)) | (focus (simp; omega; done)) | decide); exact rfl) | ((with_reducible apply (ev_loadint (t := 3))); exact rfl; infer_instance; infer_instance; (first | with_reducible assumption | omega)) | ((with_reducible apply (ev_loadbyte (t := 5))); exact rfl; infer_instance; infer_instance; (first | with_reducible assumption | omega)) | (go_simp; try with_reducible rfl))
    try simp only [Act.put, sA]; try simp only [sB, sC]
    refine' takeH (i := 4) (v := _) rfl (by kernel_rfl) (by kernel_rfl) (by kernel_rfl) (fun _ _ _ h => h) (yields_of (by rfl) (fun w' _ => ?_)) inferInstance ?_
    rotate_left
    · (go_simp; try with_reducible rfl)
    try simp only [Act.put, sA]; try simp only [sB, sC]
    try simp only [F1.out]
    try simp only [F2.out]
    refine' takeH (i := 5) (v := _) rfl (by kernel_rfl) (by kernel_rfl) (by kernel_rfl) (fun _ _ _ h => h) (yields_of (by rfl) (fun w' _ => ?_)) inferInstance ?_
    rotate_left
    · (go_simp; try with_reducible rfl)
    try simp only [Act.put, sA]; try simp only [sB, sC]
    refine' takeH (i := 6) (v := _) rfl (by kernel_rfl) (by kernel_rfl) (by kernel_rfl) (fun _ _ _ h => h) (yields_of (by rfl) (fun w' _ => ?_)) inferInstance ?_
    rotate_left
    · (first | ((with_reducible apply (ev_fieldE (t := 90))); (exact Try.underlying90); exact rfl; (kernel_rfl); exact rfl; infer_instance; (exact cells_pos (by decide) (by omega))) | (go_simp; try with_reducible rfl))
    try simp only [Act.put, sA]; try simp only [sB, sC]
    refine' takeH (i := 7) (v := _) rfl (by kernel_rfl) (by kernel_rfl) (by kernel_rfl) (fun _ _ _ h => h) (yields_of (by rfl) (fun w' _ => ?_)) inferInstance ?_
    rotate_left
    · (first | ((with_reducible apply (ev_loadB (t := 5))); exact rfl; infer_instance; infer_instance; (first | with_reducible assumption | omega)) | ((with_reducible apply ev_loadrow); exact rfl; infer_instance; infer_instance; (first | with_reducible assumption | (with_reducible exact enc_sz _ rfl) | kernel_rfl)) | ((with_reducible apply ev_loadcellN); exact rfl; infer_instance; infer_instance; exact rfl) | ((with_reducible apply (ev_loadE (α := OM) (t := 90))); infer_instance; exact rfl; infer_instance; exact rfl; (decide); (first | with_reducible assumption | omega | (focus (simp; done)) | (focus (simp; omega; done)) | decide)) | ((with_reducible apply (ev_loadF (α := OM))); infer_instance; exact rfl; infer_instance; exact rfl; (first | with_reducible assumption | omega | (focus (simp; done)) | (focus (simp; omega; done)) | decide); exact rfl) | ((with_reducible apply (ev_loadint (t := 3))); exact rfl; infer_instance; infer_instance; (first | with_reducible assumption | omega)) | ((with_reducible apply (ev_loadbyte (t := 5))); exact rfl; infer_instance; infer_instance; (first | with_reducible assumption | omega)) | (go_simp; try with_reducible rfl))
    try simp only [Act.put, sA]; try simp only [sB, sC]
    refine' takeH (i := 8) (v := _) rfl (by kernel_rfl) (by kernel_rfl) (by kernel_rfl) (fun _ _ _ h => h) (yields_of (by rfl) (fun w' _ => ?_)) inferInstance ?_
    rotate_left
    · (go_simp; try with_reducible rfl)
    try simp only [Act.put, sA]; try simp only [sB, sC]
    try simp only [F1.out]
    try simp only [F2.out]
    refine' takeH (i := 9) (v := _) rfl (by kernel_rfl) (by kernel_rfl) (by kernel_rfl) (fun _ _ _ h => h) (yields_of (by rfl) (fun w' _ => ?_)) inferInstance ?_
    rotate_left
    · (go_simp; try with_reducible rfl)
    try simp only [Act.put, sA]; try simp only [sB, sC]
    try simp only [F1.out]
    try simp only [F2.out]
    refine' takeH (i := 10) (v := _) rfl (by kernel_rfl) (by kernel_rfl) (by kernel_rfl) (fun _ _ _ h => h) (yields_of (by rfl) (fun w' _ => ?_)) inferInstance ?_
    rotate_left
    · (go_simp; try with_reducible rfl)
    try simp only [Act.put, sA]; try simp only [sB, sC]
    refine takeH (i := 11) (v := undef) rfl (by kernel_rfl) (by kernel_rfl) (by kernel_rfl) (fun _ _ _ h => h) (Or.inr ⟨by rfl, rfl⟩) inferInstance ?_
    try simp only [Act.put, sA]; try simp only [sB, sC]
    refine takeH (i := 12) (v := undef) rfl (by kernel_rfl) (by kernel_rfl) (by kernel_rfl) (fun _ _ _ h => h) (Or.inr ⟨by rfl, rfl⟩) inferInstance ?_
    try simp only [Act.put, sA]; try simp only [sB, sC]
    refine takeH (i := 13) (v := undef) rfl (by kernel_rfl) (by kernel_rfl) (by kernel_rfl) (fun _ _ _ h => h) (Or.inr ⟨by rfl, rfl⟩) inferInstance ?_
    try simp only [Act.put, sA]; try simp only [sB, sC]
    refine takeH (i := 14) (v := undef) rfl (by kernel_rfl) (by kernel_rfl) (by kernel_rfl) (fun _ _ _ h => h) (Or.inr ⟨by rfl, rfl⟩) inferInstance ?_
    try simp only [Act.put, sA]; try simp only [sB, sC]
    refine takeH (i := 15) (v := undef) rfl (by kernel_rfl) (by kernel_rfl) (by kernel_rfl) (fun _ _ _ h => h) (Or.inr ⟨by rfl, rfl⟩) inferInstance ?_
    try simp only [Act.put, sA]; try simp only [sB, sC]
    try simp only [F1.out]
    try simp only [F2.out]
    refine takeH (i := 16) (v := undef) rfl (by kernel_rfl) (by kernel_rfl) (by kernel_rfl) (fun _ _ _ h => h) (Or.inr ⟨by rfl, rfl⟩) inferInstance ?_
    try simp only [Act.put, sA]; try simp only [sB, sC]
    try simp only [F1.out]
    try simp only [F2.out]
    refine' takeH (i := 17) (v := _) rfl (by kernel_rfl) (by kernel_rfl) (by kernel_rfl) (fun _ _ _ h => h) (yields_of (by rfl) (fun w' _ => ?_)) inferInstance ?_
    rotate_left
    · (go_simp; try with_reducible rfl)
    try simp only [Act.put, sA]; try simp only [sB, sC]
    refine wpAnyH_done (by kernel_rfl) ?_ _
    have hc0 : Chg nowhere w wd := (stepC (w0 := w)).chg
    go_wp2_with (first | go_skip | ((with_reducible apply wpl_alloc); intro z wz _ _ _) | ((with_reducible apply wpl_box_agg); exact rfl; intro z wz _ _ _) | ((with_reducible apply wpl_box_int); exact rfl; intro z wz _ _ _) | ((with_reducible apply wpl_box_slice); exact rfl; intro z wz _ _ _) | ((with_reducible apply wpl_box_str); exact rfl; intro z wz _ _ _) | ((with_reducible apply wpl_box_bool); exact rfl; intro z wz _ _ _) | ((with_reducible apply wpl_box_ptr); exact rfl; intro z wz _ _ _) | ((with_reducible apply (wpl_guard (op := .load _ _))); exact rfl) | ((with_reducible apply (wpl_guard (op := .fieldAddr _ _ _))); exact rfl) | ((with_reducible apply wpl_loadrow); exact rfl; infer_instance; infer_instance; (first | with_reducible assumption | (with_reducible exact enc_sz _ rfl) | kernel_rfl)) | ((with_reducible apply wpl_loadcellN); exact rfl; infer_instance; exact rfl) | ((with_reducible apply wpl_storerow); exact rfl; exact rfl; infer_instance; infer_instance; (first | with_reducible assumption | (with_reducible exact enc_sz _ rfl) | kernel_rfl); (first | with_reducible assumption | (with_reducible exact enc_sz _ rfl) | kernel_rfl); (first | (with_reducible exact u8s_one _) | with_reducible assumption | (with_reducible exact enc_one _) | kernel_rfl); intro ws _ _) | ((with_reducible apply wpl_storecell); exact rfl; exact rfl; infer_instance; exact rfl; (first | with_reducible assumption | omega | (focus (simp; done)) | (focus (simp; omega; done)) | decide); intro ws _ _))
    refine (xdropTrue_calls oid (h.calm hc0 (fun _ _ hk => hk)) hN (by omega)).mono ?_
    rintro e w3 ⟨rfl, X3, hX3, hCz, hXle⟩
    have hC3 : Chg X wd w3 := hCz.mono (fun x _ hk => by rw [show x = z from hk]; exact h.inz)
    go_wp2_with fail
    go_ret2
    exact ⟨none, 0, rfl, XTo.calm hc0 ⟨X3, hX3, hC3, hXle⟩, Rd.nil _ _⟩
end Go.Proofs.Ytmeeopfdplaiaaa
