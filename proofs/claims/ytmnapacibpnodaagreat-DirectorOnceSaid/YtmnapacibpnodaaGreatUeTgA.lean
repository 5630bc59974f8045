/- TgA -/
import Derived.Test.YtmnapacibpnodaaGreatUeSnD
import Derived.Test.YtmnapacibpnodaaGreatUeWzA
open Go Go.RowKit
namespace Go.Proofs.YtmnapacibpnodaaGreat
/-- a target -/
structure TargetR where
  l : List UInt8
  size : Int
  sum : H32
  hw : List UInt8
  ctr : Int
  ecu : List UInt8
def TargetR.cs (t : TargetR) : List Value := .string (strL t.l) :: .int .i64 t.size :: (bs t.sum.l ++ [.string (strL t.hw), .int .i64 t.ctr, .string (strL t.ecu)])
theorem tgR_len (t : TargetR) : t.cs.length = 37 := by simp [TargetR.cs, bs_length]
theorem tgR_one (t : TargetR) : ∀ u ∈ t.cs, u.oneCell' = true := by
  intro u hu
  rcases List.mem_cons.1 hu with rfl | hu
  · rfl
  rcases List.mem_cons.1 hu with rfl | hu
  · rfl
  rcases List.mem_append.1 hu with h | h
  · exact bs_one t.sum.l u h
  · simp only [List.mem_cons, List.not_mem_nil, or_false] at h
    rcases h with rfl | rfl | rfl <;> rfl
instance rowCTg : RowC TargetR := ⟨37, TargetR.cs, tgR_len, tgR_one, ⟨[], 0, zeroH, [], 0, []⟩⟩
def zeroTg : Array Value := #[.string ⟨#[]⟩, .int .i64 0] ++ u8s zeroH.l ++ #[.string ⟨#[]⟩, .int .i64 0, .string ⟨#[]⟩]
instance elemTg : ElemT Tryz.prog 79 76 37 96 (.agg zeroTg) := ⟨⟨Tryz.underlying79, by kernel_rfl, rfl, by decide⟩⟩
instance rowTTg : RowT Tryz.prog 76 37 := ⟨by kernel_rfl, _, Tryz.underlying76, rfl⟩
instance zeroTTg : ZeroT Tryz.prog 76 zeroTg := ⟨.agg zeroTg, fun _ => by kernel_rfl, rfl⟩
instance cellTgs : CellT Tryz.prog 79 := ⟨fun _ => by kernel_rfl, fun _ => by kernel_rfl⟩
instance cellDls : CellT Tryz.prog 140 := ⟨fun _ => by kernel_rfl, fun _ => by kernel_rfl⟩
instance cellFTgB : CellT Tryz.prog 106 := ⟨fun _ => by kernel_rfl, fun _ => by kernel_rfl⟩
instance cellFTg : CellT Tryz.prog 204 := ⟨fun _ => by kernel_rfl, fun _ => by kernel_rfl⟩
theorem tgc_0 (t : TargetR) : nth (RowC.enc t) 0 = some (.string (strL t.l)) := rfl
theorem tgc_1 (t : TargetR) : nth (RowC.enc t) 1 = some (.int .i64 t.size) := rfl
theorem tgc_tail (t : TargetR) (i : Nat) : (RowC.enc t)[34 + i]? = ([.string (strL t.hw), .int .i64 t.ctr, .string (strL t.ecu)] : List Value)[i]? := by
  show (Value.string (strL t.l) :: .int .i64 t.size :: (bs t.sum.l ++ [.string (strL t.hw), .int .i64 t.ctr, .string (strL t.ecu)]))[34 + i]? = _
  rw [show 34 + i = (32 + i) + 1 + 1 by omega, List.getElem?_cons_succ, List.getElem?_cons_succ, List.getElem?_append_right (by rw [bs_length, t.sum.len]; omega), bs_length, t.sum.len, Nat.add_sub_cancel_left]
theorem tgc_34 (t : TargetR) : nth (RowC.enc t) 34 = some (.string (strL t.hw)) := by rw [← nth_get]; exact tgc_tail t 0
theorem tgc_35 (t : TargetR) : nth (RowC.enc t) 35 = some (.int .i64 t.ctr) := by rw [← nth_get]; exact tgc_tail t 1
theorem tgc_36 (t : TargetR) : nth (RowC.enc t) 36 = some (.string (strL t.ecu)) := by rw [← nth_get]; exact tgc_tail t 2
theorem tgc_sum (t : TargetR) : ((RowC.enc t).drop 2).take 32 = bs t.sum.l := by
  show (bs t.sum.l ++ _).take 32 = _
  rw [List.take_left' (by rw [bs_length, t.sum.len])]
def tgOk (t : TargetR) : Bool := nameL t.l && decide (0 ≤ t.size) && decide (t.size ≤ 512) && nameL t.hw && numB t.ctr && nameE t.ecu
set_option maxRecDepth 100000 in
set_option maxHeartbeats 3200000 in
theorem isTarget_calls (t : TargetR) (w : World) :
    Calls Tryz.prog 125 #[.agg (RowC.enc t).toArray] w fun e w' => e = .returned (.bool (tgOk t)) ∧ Step nowhere w w' := by
  have hsz : (RowC.enc t).toArray.size = 37 := tgR_len t
  have hon := enc_one t
  obtain ⟨R, hR⟩ : ∃ R, R = tgOk t := ⟨_, rfl⟩
  have HR0 : Hid (R = (nameL t.l && decide (0 ≤ t.size) && decide (t.size ≤ 512) && nameL t.hw && numB t.ctr && nameE t.ecu)) := Lib.hid hR
  rw [← hR]
  clear hR
  cases h0 : nameL t.l
  case false =>
    have HF : Hid (R = false) := Lib.hid (by rw [HR0.out, h0]; simp)
    go_enter Tryz.func125, Tryz.ntmps125
    go_wp2_with (first | ((with_reducible apply (stop_dst (dst := some 4))); (with_reducible apply (wpl_loadcellN (k := 0))); (exact rfl); infer_instance; (exact tgc_0 _)) | ((with_reducible apply (wpl_box_agg (dst := some 1))); (exact rfl); intro zt wzt _ _ _))
    refine (wname_calls (strL t.l) t.l rfl _).mono ?_
    rw [h0]
    rintro e w5 ⟨rfl, _⟩
    go_wp2_with (first | go_skip)
    go_ret
    rw [HF.out]
    exact ⟨rfl, stepN⟩
  by_cases h1 : 0 ≤ t.size
  rotate_left
  focus
    have HF : Hid (R = false) := Lib.hid (by rw [HR0.out, decide_eq_false h1]; simp)
    go_enter Tryz.func125, Tryz.ntmps125
    go_wp2_with (first | ((with_reducible apply (stop_dst (dst := some 4))); (with_reducible apply (wpl_loadcellN (k := 0))); (exact rfl); infer_instance; (exact tgc_0 _)) | ((with_reducible apply (wpl_box_agg (dst := some 1))); (exact rfl); intro zt wzt _ _ _))
    refine (wname_calls (strL t.l) t.l rfl _).mono ?_
    rw [h0]
    rintro e w5 ⟨rfl, _⟩
    go_wp2_with (first | go_skip | ((with_reducible apply (stop_dst (dst := some 8))); (with_reducible apply (wpl_loadcellN (k := 1))); (exact rfl); infer_instance; (exact tgc_1 _)) | ((with_reducible apply (wpl_guard (op := .load _ _))); (exact rfl)) | ((with_reducible apply (wpl_guard (op := .fieldAddr _ _ _))); (exact rfl)))
    go_ret
    rw [HF.out]
    exact ⟨rfl, stepN⟩
  by_cases h2 : t.size ≤ 512
  rotate_left
  focus
    have HF : Hid (R = false) := Lib.hid (by rw [HR0.out, decide_eq_false h2]; simp)
    go_enter Tryz.func125, Tryz.ntmps125
    go_wp2_with (first | ((with_reducible apply (stop_dst (dst := some 4))); (with_reducible apply (wpl_loadcellN (k := 0))); (exact rfl); infer_instance; (exact tgc_0 _)) | ((with_reducible apply (wpl_box_agg (dst := some 1))); (exact rfl); intro zt wzt _ _ _))
    refine (wname_calls (strL t.l) t.l rfl _).mono ?_
    rw [h0]
    rintro e w5 ⟨rfl, _⟩
    go_wp2_with (first | go_skip | ((with_reducible apply (stop_dst (dst := some 8))); (with_reducible apply (wpl_loadcellN (k := 1))); (exact rfl); infer_instance; (exact tgc_1 _)) | ((with_reducible apply (stop_dst (dst := some 13))); (with_reducible apply (wpl_loadcellN (k := 1))); (exact rfl); infer_instance; (exact tgc_1 _)) | ((with_reducible apply (wpl_guard (op := .load _ _))); (exact rfl)) | ((with_reducible apply (wpl_guard (op := .fieldAddr _ _ _))); (exact rfl)))
    go_ret
    rw [HF.out]
    exact ⟨rfl, stepN⟩
  have HR1 : Hid (R = (nameL t.hw && numB t.ctr && nameE t.ecu)) := Lib.hid (by rw [HR0.out, h0, decide_eq_true h1, decide_eq_true h2]; simp)
  clear HR0
  cases h3 : nameL t.hw
  case false =>
    have HF : Hid (R = false) := Lib.hid (by rw [HR1.out, h3]; simp)
    go_enter Tryz.func125, Tryz.ntmps125
    go_wp2_with (first | ((with_reducible apply (stop_dst (dst := some 4))); (with_reducible apply (wpl_loadcellN (k := 0))); (exact rfl); infer_instance; (exact tgc_0 _)) | ((with_reducible apply (wpl_box_agg (dst := some 1))); (exact rfl); intro zt wzt _ _ _))
    refine (wname_calls (strL t.l) t.l rfl _).mono ?_
    rw [h0]
    rintro e w5 ⟨rfl, _⟩
    go_wp2_with (first | ((with_reducible apply (stop_dst (dst := some 8))); (with_reducible apply (wpl_loadcellN (k := 1))); (exact rfl); infer_instance; (exact tgc_1 _)) | ((with_reducible apply (stop_dst (dst := some 13))); (with_reducible apply (wpl_loadcellN (k := 1))); (exact rfl); infer_instance; (exact tgc_1 _)) | ((with_reducible apply (stop_dst (dst := some 18))); (with_reducible apply (wpl_loadcellN (k := 34))); (exact rfl); infer_instance; (exact tgc_34 _)) | ((with_reducible apply (wpl_guard (op := .load _ _))); (exact rfl)) | ((with_reducible apply (wpl_guard (op := .fieldAddr _ _ _))); (exact rfl)))
    refine (wname_calls (strL t.hw) t.hw rfl _).mono ?_
    rw [h3]
    rintro e w6 ⟨rfl, _⟩
    go_wp2_with (first | go_skip)
    go_ret
    rw [HF.out]
    exact ⟨rfl, stepN⟩
  cases h4 : numB t.ctr
  case false =>
    have HF : Hid (R = false) := Lib.hid (by rw [HR1.out, h4]; simp)
    go_enter Tryz.func125, Tryz.ntmps125
    go_wp2_with (first | ((with_reducible apply (stop_dst (dst := some 4))); (with_reducible apply (wpl_loadcellN (k := 0))); (exact rfl); infer_instance; (exact tgc_0 _)) | ((with_reducible apply (wpl_box_agg (dst := some 1))); (exact rfl); intro zt wzt _ _ _))
    refine (wname_calls (strL t.l) t.l rfl _).mono ?_
    rw [h0]
    rintro e w5 ⟨rfl, _⟩
    go_wp2_with (first | ((with_reducible apply (stop_dst (dst := some 8))); (with_reducible apply (wpl_loadcellN (k := 1))); (exact rfl); infer_instance; (exact tgc_1 _)) | ((with_reducible apply (stop_dst (dst := some 13))); (with_reducible apply (wpl_loadcellN (k := 1))); (exact rfl); infer_instance; (exact tgc_1 _)) | ((with_reducible apply (stop_dst (dst := some 18))); (with_reducible apply (wpl_loadcellN (k := 34))); (exact rfl); infer_instance; (exact tgc_34 _)) | ((with_reducible apply (wpl_guard (op := .load _ _))); (exact rfl)) | ((with_reducible apply (wpl_guard (op := .fieldAddr _ _ _))); (exact rfl)))
    refine (wname_calls (strL t.hw) t.hw rfl _).mono ?_
    rw [h3]
    rintro e w6 ⟨rfl, _⟩
    go_wp2_with (first | ((with_reducible apply (stop_dst (dst := some 23))); (with_reducible apply (wpl_loadcellN (k := 35))); (exact rfl); infer_instance; (exact tgc_35 _)) | ((with_reducible apply (wpl_guard (op := .load _ _))); (exact rfl)) | ((with_reducible apply (wpl_guard (op := .fieldAddr _ _ _))); (exact rfl)))
    refine (number_calls t.ctr _).mono ?_
    rw [h4]
    rintro e w7 ⟨rfl, _⟩
    go_wp2_with (first | go_skip)
    go_ret
    rw [HF.out]
    exact ⟨rfl, stepN⟩
  have HF : Hid (R = nameE t.ecu) := Lib.hid (by rw [HR1.out, h3, h4]; simp)
  clear HR1
  go_enter Tryz.func125, Tryz.ntmps125
  go_wp2_with (first | ((with_reducible apply (stop_dst (dst := some 4))); (with_reducible apply (wpl_loadcellN (k := 0))); (exact rfl); infer_instance; (exact tgc_0 _)) | ((with_reducible apply (wpl_box_agg (dst := some 1))); (exact rfl); intro zt wzt _ _ _))
  refine (wname_calls (strL t.l) t.l rfl _).mono ?_
  rw [h0]
  rintro e w5 ⟨rfl, _⟩
  go_wp2_with (first | ((with_reducible apply (stop_dst (dst := some 8))); (with_reducible apply (wpl_loadcellN (k := 1))); (exact rfl); infer_instance; (exact tgc_1 _)) | ((with_reducible apply (stop_dst (dst := some 13))); (with_reducible apply (wpl_loadcellN (k := 1))); (exact rfl); infer_instance; (exact tgc_1 _)) | ((with_reducible apply (stop_dst (dst := some 18))); (with_reducible apply (wpl_loadcellN (k := 34))); (exact rfl); infer_instance; (exact tgc_34 _)) | ((with_reducible apply (wpl_guard (op := .load _ _))); (exact rfl)) | ((with_reducible apply (wpl_guard (op := .fieldAddr _ _ _))); (exact rfl)))
  refine (wname_calls (strL t.hw) t.hw rfl _).mono ?_
  rw [h3]
  rintro e w6 ⟨rfl, _⟩
  go_wp2_with (first | ((with_reducible apply (stop_dst (dst := some 23))); (with_reducible apply (wpl_loadcellN (k := 35))); (exact rfl); infer_instance; (exact tgc_35 _)) | ((with_reducible apply (wpl_guard (op := .load _ _))); (exact rfl)) | ((with_reducible apply (wpl_guard (op := .fieldAddr _ _ _))); (exact rfl)))
  refine (number_calls t.ctr _).mono ?_
  rw [h4]
  rintro e w7 ⟨rfl, _⟩
  go_wp2_with (first | ((with_reducible apply (stop_dst (dst := some 28))); (with_reducible apply (wpl_loadcellN (k := 36))); (exact rfl); infer_instance; (exact tgc_36 _)) | ((with_reducible apply (wpl_guard (op := .load _ _))); (exact rfl)) | ((with_reducible apply (wpl_guard (op := .fieldAddr _ _ _))); (exact rfl)))
  refine (nameE_calls (strL t.ecu) t.ecu rfl _).mono ?_
  rintro e w8 ⟨rfl, _⟩
  go_wp2_with fail
  go_ret
  rw [HF.out]
  exact ⟨rfl, stepN⟩
end Go.Proofs.YtmnapacibpnodaaGreat
