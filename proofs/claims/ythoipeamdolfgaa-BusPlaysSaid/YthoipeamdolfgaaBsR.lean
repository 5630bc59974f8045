/- The reference's Bus in memory; its Is, its Next. -/
import Derived.Test.YthoipeamdolfgaaBsN
open Go Go.RowKit
namespace Go.Proofs.Ythoipeamdolfgaa
open Hp
instance : RowT Try.prog 43 1 := ⟨by kernel_rfl, _, Try.underlying43, rfl⟩
/-- the reference's Bus at z: its blocks are X, fr wait -/
structure XB (w : World) (z : Nat) (X : Nat → Prop) (fr : List Fr) : Prop where
  inz : X z
  low : ∀ x, X x → x < w.heap.size
  mem : ∃ (l : List FR) (A : Option Addr) (c : Nat), Blk w z 43 #[.slice A fr.length c] ∧ Rd w A (cellsOf l) ∧ fr.length ≤ c ∧ (l ≠ [] → ∀ ad, A = some ad → X ad.block ∧ ad.block ≠ z) ∧ (∀ f ∈ l, Rd w f.A (bs f.d) ∧ f.d.length = f.n ∧ f.n ≤ f.c ∧ (f.d ≠ [] → ∀ ad, f.A = some ad → X ad.block ∧ ad.block ≠ z)) ∧ l.map FR.fr = fr
def XBo (z : Nat) (X : Nat → Prop) (w : World) (fr : List Fr) (w' : World) : Prop := ∃ X', XB w' z X' fr ∧ Chg (only z) w w' ∧ ∀ x, X' x → X x ∨ w.heap.size ≤ x
theorem cells_ne {l : List FR} (h : cellsOf l ≠ []) : l ≠ [] := fun h0 => h (by rw [h0]; rfl)
theorem XB.calm {T : Nat → Prop} {w w' : World} {z : Nat} {X : Nat → Prop} {fr : List Fr} (h : XB w z X fr) (hc : Chg T w w') (hT : ∀ x, X x → ¬ T x) : XB w' z X fr := by
  obtain ⟨l, A, c, hb, hr, hcap, hA, hf, hm⟩ := h.mem
  exact ⟨h.inz, fun x hx => Nat.lt_of_lt_of_le (h.low x hx) hc.size, l, A, c, hb.chg hc (hT z h.inz), hr.chg hc (fun hne ad e => hT _ (hA (cells_ne hne) ad e).1), hcap, hA, fun f hf' => by
    obtain ⟨h1, h2, h3, h4⟩ := hf f hf'
    exact ⟨h1.chg hc (fun hne ad e => hT _ (h4 (fun h0 => hne (by rw [h0]; rfl)) ad e).1), h2, h3, h4⟩, hm⟩
theorem run_newR (w : World) : (Instr.build 43 #[]).run Try.prog w = .ok (.agg #[.slice none 0 0]) w := by kernel_rfl
theorem XB.new {w : World} {z : Nat} (h : HB w z 43 #[.slice none 0 0]) : XB w z (only z) [] :=
  ⟨rfl, fun x hx => by rw [show x = z from hx]; exact h.out.lt, [], none, 0, h.out, Rd.nil _ _, Nat.le_refl _, (fun h => absurd rfl h), (fun f h => by cases h), rfl⟩
def isS (x : Fr) : Bool := decide (0 ≤ x.1) && decide (x.1 ≤ 2047) && decide (x.2.length ≤ 8)
set_option maxRecDepth 100000 in
theorem is_calls (id : Int) (A : Option Addr) (n c : Nat) (d : List UInt8) (hn : d.length = n) (hmax : n ≤ 9223372036854775807) (w : World) :
    Calls Try.prog 43 #[.agg #[.int .i64 id, .slice A n c]] w fun e w' => e = .returned (.bool (isS (id, d))) ∧ Step nowhere w w' := by
  have q : id < 0 ∨ (¬ id < 0 ∧ 2047 < id) ∨ (¬ id < 0 ∧ ¬ 2047 < id) := by omega
  have hs : isS (id, d) = (decide (0 ≤ id) && decide (id ≤ 2047) && decide (n ≤ 8)) := by rw [← hn]; rfl
  rw [hs]
  clear hs
  go_enter Try.func43, Try.ntmps43
  rcases q with q1 | ⟨q1, q2⟩ | ⟨q1, q2⟩
  · rw [decide_eq_false (by omega : ¬ 0 ≤ id), Bool.false_and, Bool.false_and]
    have q3 : ¬ (0 : Int) ≤ id := by omega
    go_wp2_with (first | go_skip | ((with_reducible apply (wpl_box_agg (dst := some 1))); (exact rfl); intro zf wzf _ _ _) | ((with_reducible apply (wpl_box_int (dst := some 1))); (exact rfl); intro zf wzf _ _ _) | ((with_reducible apply (wpl_box_slice (dst := some 1))); (exact rfl); intro zf wzf _ _ _) | ((with_reducible apply (wpl_box_str (dst := some 1))); (exact rfl); intro zf wzf _ _ _) | ((with_reducible apply (wpl_box_bool (dst := some 1))); (exact rfl); intro zf wzf _ _ _) | ((with_reducible apply (wpl_box_ptr (dst := some 1))); (exact rfl); intro zf wzf _ _ _) | ((with_reducible apply wpl_box_agg); (exact rfl); intro z wz _ _ _) | ((with_reducible apply wpl_box_int); (exact rfl); intro z wz _ _ _) | ((with_reducible apply wpl_box_slice); (exact rfl); intro z wz _ _ _) | ((with_reducible apply wpl_box_str); (exact rfl); intro z wz _ _ _) | ((with_reducible apply wpl_box_bool); (exact rfl); intro z wz _ _ _) | ((with_reducible apply wpl_box_ptr); (exact rfl); intro z wz _ _ _) | ((with_reducible apply (wpl_guard (op := .load _ _))); (exact rfl)) | ((with_reducible apply (wpl_guard (op := .fieldAddr _ _ _))); (exact rfl)) | ((with_reducible apply wpl_loadrow); (exact rfl); (exact inferInstance); (exact inferInstance); (first | (with_reducible assumption) | (with_reducible exact H32.size _) | (with_reducible exact enc_sz _ rfl) | kernel_rfl)) | ((with_reducible apply wpl_loadcellN); (exact rfl); (exact inferInstance); (first | (exact rfl) | (exact tg_hw _) | (exact tg_ctr _) | (exact tg_ecu _) | (exact srch_who) | (exact srch_fd))))
    go_ret
    exact ⟨rfl, stepN⟩
  · rw [decide_eq_false (by omega : ¬ id ≤ 2047), Bool.and_false, Bool.false_and]
    have q3 : (0 : Int) ≤ id := by omega
    have q4 : ¬ id ≤ 2047 := by omega
    go_wp2_with (first | go_skip | ((with_reducible apply (wpl_box_agg (dst := some 1))); (exact rfl); intro zf wzf _ _ _) | ((with_reducible apply (wpl_box_int (dst := some 1))); (exact rfl); intro zf wzf _ _ _) | ((with_reducible apply (wpl_box_slice (dst := some 1))); (exact rfl); intro zf wzf _ _ _) | ((with_reducible apply (wpl_box_str (dst := some 1))); (exact rfl); intro zf wzf _ _ _) | ((with_reducible apply (wpl_box_bool (dst := some 1))); (exact rfl); intro zf wzf _ _ _) | ((with_reducible apply (wpl_box_ptr (dst := some 1))); (exact rfl); intro zf wzf _ _ _) | ((with_reducible apply wpl_box_agg); (exact rfl); intro z wz _ _ _) | ((with_reducible apply wpl_box_int); (exact rfl); intro z wz _ _ _) | ((with_reducible apply wpl_box_slice); (exact rfl); intro z wz _ _ _) | ((with_reducible apply wpl_box_str); (exact rfl); intro z wz _ _ _) | ((with_reducible apply wpl_box_bool); (exact rfl); intro z wz _ _ _) | ((with_reducible apply wpl_box_ptr); (exact rfl); intro z wz _ _ _) | ((with_reducible apply (wpl_guard (op := .load _ _))); (exact rfl)) | ((with_reducible apply (wpl_guard (op := .fieldAddr _ _ _))); (exact rfl)) | ((with_reducible apply wpl_loadrow); (exact rfl); (exact inferInstance); (exact inferInstance); (first | (with_reducible assumption) | (with_reducible exact H32.size _) | (with_reducible exact enc_sz _ rfl) | kernel_rfl)) | ((with_reducible apply wpl_loadcellN); (exact rfl); (exact inferInstance); (first | (exact rfl) | (exact tg_hw _) | (exact tg_ctr _) | (exact tg_ecu _) | (exact srch_who) | (exact srch_fd))))
    go_ret
    exact ⟨rfl, stepN⟩
  · rw [decide_eq_true (by omega : 0 ≤ id), decide_eq_true (by omega : id ≤ 2047), Bool.true_and, Bool.true_and]
    have q3 : (0 : Int) ≤ id := by omega
    have q4 : id ≤ 2047 := by omega
    by_cases q5 : n ≤ 8
    · rw [decide_eq_true q5]
      have q6 : (n : Int) ≤ 8 := by omega
      go_wp2_with (first | go_skip | ((with_reducible apply (wpl_box_agg (dst := some 1))); (exact rfl); intro zf wzf _ _ _) | ((with_reducible apply (wpl_box_int (dst := some 1))); (exact rfl); intro zf wzf _ _ _) | ((with_reducible apply (wpl_box_slice (dst := some 1))); (exact rfl); intro zf wzf _ _ _) | ((with_reducible apply (wpl_box_str (dst := some 1))); (exact rfl); intro zf wzf _ _ _) | ((with_reducible apply (wpl_box_bool (dst := some 1))); (exact rfl); intro zf wzf _ _ _) | ((with_reducible apply (wpl_box_ptr (dst := some 1))); (exact rfl); intro zf wzf _ _ _) | ((with_reducible apply wpl_box_agg); (exact rfl); intro z wz _ _ _) | ((with_reducible apply wpl_box_int); (exact rfl); intro z wz _ _ _) | ((with_reducible apply wpl_box_slice); (exact rfl); intro z wz _ _ _) | ((with_reducible apply wpl_box_str); (exact rfl); intro z wz _ _ _) | ((with_reducible apply wpl_box_bool); (exact rfl); intro z wz _ _ _) | ((with_reducible apply wpl_box_ptr); (exact rfl); intro z wz _ _ _) | ((with_reducible apply (wpl_guard (op := .load _ _))); (exact rfl)) | ((with_reducible apply (wpl_guard (op := .fieldAddr _ _ _))); (exact rfl)) | ((with_reducible apply wpl_loadrow); (exact rfl); (exact inferInstance); (exact inferInstance); (first | (with_reducible assumption) | (with_reducible exact H32.size _) | (with_reducible exact enc_sz _ rfl) | kernel_rfl)) | ((with_reducible apply wpl_loadcellN); (exact rfl); (exact inferInstance); (first | (exact rfl) | (exact tg_hw _) | (exact tg_ctr _) | (exact tg_ecu _) | (exact srch_who) | (exact srch_fd))))
      go_ret
      exact ⟨rfl, stepN⟩
    · rw [decide_eq_false q5]
      have q6 : ¬ (n : Int) ≤ 8 := by omega
      go_wp2_with (first | go_skip | ((with_reducible apply (wpl_box_agg (dst := some 1))); (exact rfl); intro zf wzf _ _ _) | ((with_reducible apply (wpl_box_int (dst := some 1))); (exact rfl); intro zf wzf _ _ _) | ((with_reducible apply (wpl_box_slice (dst := some 1))); (exact rfl); intro zf wzf _ _ _) | ((with_reducible apply (wpl_box_str (dst := some 1))); (exact rfl); intro zf wzf _ _ _) | ((with_reducible apply (wpl_box_bool (dst := some 1))); (exact rfl); intro zf wzf _ _ _) | ((with_reducible apply (wpl_box_ptr (dst := some 1))); (exact rfl); intro zf wzf _ _ _) | ((with_reducible apply wpl_box_agg); (exact rfl); intro z wz _ _ _) | ((with_reducible apply wpl_box_int); (exact rfl); intro z wz _ _ _) | ((with_reducible apply wpl_box_slice); (exact rfl); intro z wz _ _ _) | ((with_reducible apply wpl_box_str); (exact rfl); intro z wz _ _ _) | ((with_reducible apply wpl_box_bool); (exact rfl); intro z wz _ _ _) | ((with_reducible apply wpl_box_ptr); (exact rfl); intro z wz _ _ _) | ((with_reducible apply (wpl_guard (op := .load _ _))); (exact rfl)) | ((with_reducible apply (wpl_guard (op := .fieldAddr _ _ _))); (exact rfl)) | ((with_reducible apply wpl_loadrow); (exact rfl); (exact inferInstance); (exact inferInstance); (first | (with_reducible assumption) | (with_reducible exact H32.size _) | (with_reducible exact enc_sz _ rfl) | kernel_rfl)) | ((with_reducible apply wpl_loadcellN); (exact rfl); (exact inferInstance); (first | (exact rfl) | (exact tg_hw _) | (exact tg_ctr _) | (exact tg_ecu _) | (exact srch_who) | (exact srch_fd))))
      go_ret
      exact ⟨rfl, stepN⟩
set_option maxRecDepth 100000 in
theorem rnextNone_calls {w : World} {z : Nat} {X : Nat → Prop} (h : XB w z X []) :
    Calls Try.prog 22 #[.pointer (some ⟨z, 0, none⟩)] w fun e w' => e = .returned (.tuple #[.agg #[.int .i64 0, .slice none 0 0], .bool false]) ∧ Step nowhere w w' := by
  obtain ⟨l, A, c, hb, _, _, _, _, _⟩ := h.mem
  have hB : HB w z 43 #[.slice A 0 c] := ⟨hb⟩
  go_enter Try.func22, Try.ntmps22
  go_wp2_with (first | ((with_reducible apply wpl_build); (exact run_frame0 _)) | ((with_reducible apply (wpl_alloc (dst := some 2))); intro zo wzo _ _ _) | ((with_reducible apply wpl_alloc); intro z wz _ _ _) | ((with_reducible apply wpl_loadrow); (exact rfl); (exact inferInstance); (exact inferInstance); (first | (with_reducible assumption) | (with_reducible exact H32.size _) | (with_reducible exact enc_sz _ rfl) | kernel_rfl)) | ((with_reducible apply wpl_loadcellN); (exact rfl); (exact inferInstance); (first | (exact rfl) | (exact tg_hw _) | (exact tg_ctr _) | (exact tg_ecu _) | (exact srch_who) | (exact srch_fd))) | ((with_reducible apply wpl_storerow); (exact rfl); (exact rfl); (exact inferInstance); (exact inferInstance); (first | (with_reducible assumption) | (with_reducible exact H32.size _) | (with_reducible exact enc_sz _ rfl) | kernel_rfl); (first | (with_reducible assumption) | (with_reducible exact H32.size _) | (with_reducible exact enc_sz _ rfl) | kernel_rfl); (first | (with_reducible exact u8s_one _) | (with_reducible assumption) | (with_reducible exact enc_one _) | kernel_rfl); intro ws _ _) | ((with_reducible apply wpl_storecell); (exact rfl); (exact rfl); (exact inferInstance); (exact rfl); (first | (with_reducible assumption) | omega | (focus (simp; done)) | (focus (simp; omega; done)) | decide); intro ws _ _))
  refine ret_row2 (g := zo) (b := false) rfl rfl (n := 2) rfl rfl ⟨rfl, stepN⟩
end Go.Proofs.Ythoipeamdolfgaa
