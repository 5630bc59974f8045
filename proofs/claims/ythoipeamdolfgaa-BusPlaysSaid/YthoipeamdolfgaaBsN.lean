/- A nil Bus; BusOwn. -/
import Derived.Test.YthoipeamdolfgaaBsI
open Go Go.RowKit
namespace Go.Proofs.Ythoipeamdolfgaa
open Hp
section
variable {P : Program} {ops : Array Oper} {rest : List Oper} {a : Act} {w : World} {Q : Exit → Act → World → Prop} {dst : Option Tmp} {ty : TypeId} {pos : String} {after : Array Edge}
theorem bs_set {d : List UInt8} {k : Nat} {v : Int} (hk : k < d.length) (hv : 0 ≤ v ∧ v < 256) : (bs d).take k ++ [Value.int .u8 v] ++ (bs d).drop (k + 1) = bs (d.set k (b8 v)) := by
  have hs1 : (bs d).take k ++ [Value.int .u8 v] ++ (bs d).drop (k + 1) = (bs d).set k (.int .u8 v) := by
    rw [List.set_eq_take_append_cons_drop, if_pos (by rw [bs_length]; exact hk)]
    simp
  rw [hs1]
  have := b8_in hv.1 hv.2
  rw [bs, bs, List.map_set]
  congr 1
  rw [u8v, ← this]
/-- a byte of a row of the call's own written -/
theorem wpl_storeB {t : TypeId} {x y : Operand} {A : Option Addr} {k : Nat} {v : Int} (hx : a.eval x = ptrOf A k) (hy : a.eval y = .int .u8 v) {e : TypeId} {n c : Nat} {d : List UInt8} (ho : HO w e 1 A n c (bs d)) [ht : CellT P t] (hk : k < d.length) (hv : 0 ≤ v ∧ v < 256)
    (h : ∀ w', Step (rowOf A) w w' → HO w' e 1 A n c (bs (d.set k (b8 v))) → wpList P ops Q rest (a.put dst undef) w') : wpList P ops Q (⟨dst, .store t x y, ty, pos, after, none⟩ :: rest) a w := by
  obtain ⟨g, hA, h1, h2, h3⟩ := own_setCells ho.out (k := k) (cs := [.int .u8 v]) (m := 1) rfl (by rw [bs_length]; omega) (by decide)
  refine wpl_of_unit rfl (w' := w.setCells g k [.int .u8 v]) ?_ (h _ ⟨h3⟩ ⟨?_⟩)
  · have hc := h1 0 (by decide)
    have hst := run_store P w ⟨g, k, none⟩ (.int .u8 v) .plain rfl
    rw [Nat.add_zero] at hc
    obtain ⟨u, hu⟩ := Option.isSome_iff_exists.1 hc.1
    rw [hu, hc.2] at hst
    show ((Instr.storeAt t (a.eval x) (a.eval y)) >>= fun _ => pure Next.skip).run P w = _
    rw [hx, hy, hA]
    simp [Instr.storeAt, Instr.sureAddr, ptrOf, shift_some, add_row, storeVar, Value.cells, ht.size1 w, storeCells, add_zero_spot, hst, World.setCells]
  · rw [← bs_set hk hv]
    exact h2
end
set_option maxRecDepth 100000 in
theorem sendNil_calls (id : Int) (A : Option Addr) (n c : Nat) (w : World) :
    Calls Try.prog 19 #[.pointer none, .agg #[.int .i64 id, .slice A n c]] w fun e w' => e = .returned (.int .i64 1) ∧ Step nowhere w w' := by
  go_enter Try.func19, Try.ntmps19
  go_wp2_with (first | go_skip | ((with_reducible apply (wpl_box_agg (dst := some 3))); (exact rfl); intro zf wzf _ _ _) | ((with_reducible apply (wpl_box_int (dst := some 3))); (exact rfl); intro zf wzf _ _ _) | ((with_reducible apply (wpl_box_slice (dst := some 3))); (exact rfl); intro zf wzf _ _ _) | ((with_reducible apply (wpl_box_str (dst := some 3))); (exact rfl); intro zf wzf _ _ _) | ((with_reducible apply (wpl_box_bool (dst := some 3))); (exact rfl); intro zf wzf _ _ _) | ((with_reducible apply (wpl_box_ptr (dst := some 3))); (exact rfl); intro zf wzf _ _ _) | ((with_reducible apply wpl_box_agg); (exact rfl); intro z wz _ _ _) | ((with_reducible apply wpl_box_int); (exact rfl); intro z wz _ _ _) | ((with_reducible apply wpl_box_slice); (exact rfl); intro z wz _ _ _) | ((with_reducible apply wpl_box_str); (exact rfl); intro z wz _ _ _) | ((with_reducible apply wpl_box_bool); (exact rfl); intro z wz _ _ _) | ((with_reducible apply wpl_box_ptr); (exact rfl); intro z wz _ _ _) | ((with_reducible apply (wpl_guard (op := .load _ _))); (exact rfl)) | ((with_reducible apply (wpl_guard (op := .fieldAddr _ _ _))); (exact rfl)) | ((with_reducible apply wpl_loadrow); (exact rfl); (exact inferInstance); (exact inferInstance); (first | (with_reducible assumption) | (with_reducible exact H32.size _) | (with_reducible exact enc_sz _ rfl) | kernel_rfl)) | ((with_reducible apply wpl_loadcellN); (exact rfl); (exact inferInstance); (first | (exact rfl) | (exact tg_hw _) | (exact tg_ctr _) | (exact tg_ecu _) | (exact srch_who) | (exact srch_fd))) | ((with_reducible apply wpl_storerow); (exact rfl); (exact rfl); (exact inferInstance); (exact inferInstance); (first | (with_reducible assumption) | (with_reducible exact H32.size _) | (with_reducible exact enc_sz _ rfl) | kernel_rfl); (first | (with_reducible assumption) | (with_reducible exact H32.size _) | (with_reducible exact enc_sz _ rfl) | kernel_rfl); (first | (with_reducible exact u8s_one _) | (with_reducible assumption) | (with_reducible exact enc_one _) | kernel_rfl); intro ws _ _) | ((with_reducible apply wpl_storecell); (exact rfl); (exact rfl); (exact inferInstance); (exact rfl); (first | (with_reducible assumption) | omega | (focus (simp; done)) | (focus (simp; omega; done)) | decide); intro ws _ _))
  go_ret
  exact ⟨rfl, stepN⟩
set_option maxRecDepth 100000 in
theorem lenNil_calls (w : World) :
    Calls Try.prog 23 #[.pointer none] w fun e w' => e = .returned (.int .i64 0) ∧ w = w' := by
  go_enter Try.func23, Try.ntmps23
  go_wp2_with fail
  go_ret
  exact ⟨rfl, rfl⟩
set_option maxRecDepth 100000 in
theorem listNil_calls (w : World) :
    Calls Try.prog 25 #[.pointer none] w fun e w' => e = .returned (.slice none 0 0) ∧ w = w' := by
  go_enter Try.func25, Try.ntmps25
  go_wp2_with fail
  go_ret
  exact ⟨rfl, rfl⟩
set_option maxRecDepth 100000 in
theorem nextNil_calls (w : World) :
    Calls Try.prog 21 #[.pointer none] w fun e w' => e = .returned (.tuple #[.agg #[.int .i64 0, .slice none 0 0], .bool false]) ∧ Step nowhere w w' := by
  go_enter Try.func21, Try.ntmps21
  go_wp2_with (first | ((with_reducible apply (wpl_alloc (dst := some 2))); intro zo wzo _ _ _) | ((with_reducible apply wpl_alloc); intro z wz _ _ _) | ((with_reducible apply wpl_storerow); (exact rfl); (exact rfl); (exact inferInstance); (exact inferInstance); (first | (with_reducible assumption) | (with_reducible exact H32.size _) | (with_reducible exact enc_sz _ rfl) | kernel_rfl); (first | (with_reducible assumption) | (with_reducible exact H32.size _) | (with_reducible exact enc_sz _ rfl) | kernel_rfl); (first | (with_reducible exact u8s_one _) | (with_reducible assumption) | (with_reducible exact enc_one _) | kernel_rfl); intro ws _ _) | ((with_reducible apply wpl_storecell); (exact rfl); (exact rfl); (exact inferInstance); (exact rfl); (first | (with_reducible assumption) | omega | (focus (simp; done)) | (focus (simp; omega; done)) | decide); intro ws _ _))
  refine (lenNil_calls _).mono ?_
  rintro e w5 ⟨rfl, rfl⟩
  go_wp2_with (first | ((with_reducible apply wpl_build); (exact run_frame0 _)) | ((with_reducible apply wpl_alloc); intro z wz _ _ _) | ((with_reducible apply wpl_storerow); (exact rfl); (exact rfl); (exact inferInstance); (exact inferInstance); (first | (with_reducible assumption) | (with_reducible exact H32.size _) | (with_reducible exact enc_sz _ rfl) | kernel_rfl); (first | (with_reducible assumption) | (with_reducible exact H32.size _) | (with_reducible exact enc_sz _ rfl) | kernel_rfl); (first | (with_reducible exact u8s_one _) | (with_reducible assumption) | (with_reducible exact enc_one _) | kernel_rfl); intro ws _ _) | ((with_reducible apply wpl_storecell); (exact rfl); (exact rfl); (exact inferInstance); (exact rfl); (first | (with_reducible assumption) | omega | (focus (simp; done)) | (focus (simp; omega; done)) | decide); intro ws _ _))
  refine ret_row2 (g := zo) (b := false) rfl rfl (n := 2) rfl rfl ⟨rfl, stepN⟩
end Go.Proofs.Ythoipeamdolfgaa
