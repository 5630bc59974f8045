/- WxA, WxB, WzA -/
import Derived.Test.YtmnapacibpnodaaGreatUeOcRfC
import Derived.Test.YtmnapacibpnodaaGreatUeWuC
import Derived.Test.YtmnapacibpnodaaGreatUeRrB
section
open Go Go.RowKit
namespace Go.Proofs.YtmnapacibpnodaaGreat
section
variable {P : Program} {ops : Array Oper} {rest : List Oper} {a : Act} {w : World} {Q : Exit → Act → World → Prop} {dst : Option Tmp} {ty : TypeId} {pos : String} {after : Array Edge}
theorem wpl_ltB {t : TypeId} {x : Operand} {v c : Int} {b : Bool} (hx : a.eval x = .int .u8 v) (hb : decide (v < c) = b) (h : wpList P ops Q rest (a.put dst (.bool b)) w) : wpList P ops Q (⟨dst, .binOp .lss t x (.const (.int .u8 c)) t, ty, pos, after, none⟩ :: rest) a w := by
  subst hb
  refine wpl_of_run (v := .bool (decide (v < c))) rfl ?_ h
  show ((Go.binOp .lss t (a.eval x) (.int .u8 c)) >>= fun v => pure (Next.value v)).run P w = _
  rw [hx]
  rfl
theorem wpl_gtB {t : TypeId} {x : Operand} {v c : Int} {b : Bool} (hx : a.eval x = .int .u8 v) (hb : decide (c < v) = b) (h : wpList P ops Q rest (a.put dst (.bool b)) w) : wpList P ops Q (⟨dst, .binOp .gtr t x (.const (.int .u8 c)) t, ty, pos, after, none⟩ :: rest) a w := by
  subst hb
  refine wpl_of_run (v := .bool (decide (c < v))) rfl ?_ h
  show ((Go.binOp .gtr t (a.eval x) (.int .u8 c)) >>= fun v => pure (Next.value v)).run P w = _
  rw [hx]
  rfl
theorem wpl_ltI {t : TypeId} {x : Operand} {v c : Int} {b : Bool} (hx : a.eval x = .int .i64 v) (hb : decide (v < c) = b) (h : wpList P ops Q rest (a.put dst (.bool b)) w) : wpList P ops Q (⟨dst, .binOp .lss t x (.const (.int .i64 c)) t, ty, pos, after, none⟩ :: rest) a w := by
  subst hb
  refine wpl_of_run (v := .bool (decide (v < c))) rfl ?_ h
  show ((Go.binOp .lss t (a.eval x) (.int .i64 c)) >>= fun v => pure (Next.value v)).run P w = _
  rw [hx]
  rfl
theorem wpl_gtI {t : TypeId} {x : Operand} {v c : Int} {b : Bool} (hx : a.eval x = .int .i64 v) (hb : decide (c < v) = b) (h : wpList P ops Q rest (a.put dst (.bool b)) w) : wpList P ops Q (⟨dst, .binOp .gtr t x (.const (.int .i64 c)) t, ty, pos, after, none⟩ :: rest) a w := by
  subst hb
  refine wpl_of_run (v := .bool (decide (c < v))) rfl ?_ h
  show ((Go.binOp .gtr t (a.eval x) (.int .i64 c)) >>= fun v => pure (Next.value v)).run P w = _
  rw [hx]
  rfl
end
set_option maxRecDepth 100000 in
set_option maxHeartbeats 1600000 in
theorem rName_calls (s : ByteArray) (l : List UInt8) (hl : s.data.toList = l) (hmax : s.size ≤ 9223372036854775807) (w : World) :
    Calls Tryz.prog 60 #[.string s] w fun e w' => e = .returned (.bool (nameL l)) ∧ Step nowhere w w' := by
  have hsz : l.length = s.size := by rw [← hl]; exact Array.length_toList (xs := s.data)
  obtain ⟨R, hR⟩ : ∃ R, R = nameL l := ⟨_, rfl⟩
  have HR := Lib.hid hR
  have HS := Lib.hid hsz
  rw [← hR]
  clear hR hsz
  go_enter Tryz.func60, Tryz.ntmps60
  go_wp2_with fail
  go_loopw [3] (fun iv wr => ∃ k : Nat, k ≤ s.size ∧ iv = .int .i64 (k : Int) ∧ Nw w wr ∧ Hid ((l.take k).all goodB = true)) (fun iv _ => s.size - (intOf iv).toNat)
  case atStart => exact ⟨0, Nat.zero_le _, rfl, inferInstance, Lib.hid rfl⟩
  case round =>
    obtain ⟨k, hk, rfl, _, HB1⟩ := hrel
    have st : Step nowhere w wr := ⟨(inferInstance : Nw w wr).out⟩
    by_cases hlt : k < s.size
    · have hltI : (k : Int) < s.size := by omega
      have hkl : k < l.length := by have := HS.out; omega
      obtain ⟨v, hv⟩ : ∃ v, (bget l k).toNat = v := ⟨_, rfl⟩
      have hg : goodB (bget l k) = ((decide (97 ≤ v) && decide (v ≤ 122)) || (decide (48 ≤ v) && decide (v ≤ 57)) || decide (v = 45)) := by unfold goodB; rw [hv]
      have hcase := good_case v hg
      have hall := all_take l k hkl
      have HV := Lib.hid hv
      clear hv hg
      rcases hcase with ⟨hg, hc⟩ | ⟨hg, hc⟩
      · have HB2 : Hid ((l.take (k + 1)).all goodB = true) := Lib.hid (by rw [hall, HB1.out, hg]; rfl)
        clear hg hall
        rcases hc with ⟨b1, b2⟩ | ⟨_, _, h⟩ | ⟨b1, b2, b3⟩ | ⟨b1, b2, b3⟩
        rotate_left 1
        · exact h.elim
        all_goals
          go_wp2_with (first | ((with_reducible apply (wpl_guard (op := .index _ _ _))); (exact rfl)) | ((with_reducible apply (wpl_guard (op := .binOp _ _ _ _ _))); (exact rfl)) | ((with_reducible apply wpl_ltB); (exact rfl); (first | (exact decide_eq_true (by omega)) | (exact decide_eq_false (by omega)))) | ((with_reducible apply wpl_gtB); (exact rfl); (first | (exact decide_eq_true (by omega)) | (exact decide_eq_false (by omega)))) | ((with_reducible apply (wpl_indexStr hl HV.out)); (exact rfl); (exact rfl); (exact Tryz.underlying9); (exact hkl)))
          exact ⟨⟨k + 1, by omega, by go_num, inferInstance, HB2⟩, by simp [intOf]; omega⟩
      · have HF : Hid (R = false) := Lib.hid (by
          rw [HR.out, nameL, all_no l k hkl hg, Bool.and_false])
        obtain rfl : R = false := HF.out
        clear hg hall
        rcases hc with ⟨b1, b2, b3, b4, b5⟩ | ⟨b1, b2, b3, b4⟩ | ⟨b1, b2, b3⟩
        all_goals
          go_wp2_with (first | ((with_reducible apply (wpl_guard (op := .index _ _ _))); (exact rfl)) | ((with_reducible apply (wpl_guard (op := .binOp _ _ _ _ _))); (exact rfl)) | ((with_reducible apply wpl_ltB); (exact rfl); (first | (exact decide_eq_true (by omega)) | (exact decide_eq_false (by omega)))) | ((with_reducible apply wpl_gtB); (exact rfl); (first | (exact decide_eq_true (by omega)) | (exact decide_eq_false (by omega)))) | ((with_reducible apply (wpl_indexStr hl HV.out)); (exact rfl); (exact rfl); (exact Tryz.underlying9); (exact hkl)))
          go_ret
          exact ⟨rfl, st⟩
    · obtain rfl : k = s.size := by omega
      have hltI : (s.size : Int) ≤ s.size := by omega
      have HNL : Hid (R = (decide (1 ≤ s.size) && decide (s.size ≤ 12))) := Lib.hid (by
        have h1 := HB1.out
        rw [List.take_of_length_le (by have := HS.out; omega)] at h1
        rw [HR.out, nameL, h1, HS.out, Bool.and_true])
      by_cases a1 : 1 ≤ s.size
      · by_cases a2 : s.size ≤ 12
        · obtain rfl : R = true := by rw [HNL.out]; simp [a1, a2]
          have b1 : 1 ≤ (s.size : Int) := by omega
          have b2 : (s.size : Int) ≤ 12 := by omega
          go_wp2_with fail
          go_ret
          exact ⟨rfl, st⟩
        · obtain rfl : R = false := by rw [HNL.out]; simp [a2]
          have b1 : 1 ≤ (s.size : Int) := by omega
          have b2 : 12 < (s.size : Int) := by omega
          go_wp2_with fail
          go_ret
          first
            | exact ⟨rfl, st⟩
            | exact ⟨by simp; omega, st⟩
      · obtain rfl : R = false := by rw [HNL.out]; simp [a1]
        have b1 : (s.size : Int) < 1 := by omega
        go_wp2_with fail
        go_ret
        exact ⟨rfl, st⟩
instance elemWxI : ElemT Tryz.prog 22 3 1 8 (.int .i64 0) := ⟨⟨Tryz.underlying22, by kernel_rfl, rfl, by decide⟩⟩
def allNum (l : List Int) : Bool := l.all numB
theorem allNum_take (l : List Int) (k : Nat) (h : k < l.length) : allNum (l.take (k + 1)) = (allNum (l.take k) && numB (iget l k)) := by
  unfold allNum
  rw [List.take_succ_eq_append_getElem h, List.all_append]
  simp [iget, List.getD_eq_getElem?_getD, h]
theorem allNum_no (l : List Int) (k : Nat) (h : k < l.length) (hb : numB (iget l k) = false) : allNum l = false := by
  unfold allNum
  rw [List.all_eq_false]
  refine ⟨l[k], List.getElem_mem h, ?_⟩
  have e : iget l k = l[k] := by simp [iget, List.getD_eq_getElem?_getD, h]
  rw [e] at hb
  simp [hb]
set_option maxRecDepth 100000 in
set_option maxHeartbeats 800000 in
theorem rNum_calls {A : Option Addr} {n c : Nat} {l : List Int} {w : World} [hr : HR w A (i64l l)] (hl : l.length = n) (hmax : n ≤ 9223372036854775807) :
    Calls Tryz.prog 61 #[.slice A n c] w fun e w' => e = .returned (.bool (allNum l)) ∧ Step nowhere w w' := by
  obtain ⟨R, hR⟩ : ∃ R, R = allNum l := ⟨_, rfl⟩
  have HR1 := Lib.hid hR
  rw [← hR]
  clear hR
  go_enter Tryz.func61, Tryz.ntmps61
  go_wp2_with fail
  go_loopw [3] (fun iv wr => ∃ k : Nat, k ≤ n ∧ iv = .int .i64 (k : Int) ∧ Nw w wr ∧ HR wr A (i64l l) ∧ Hid (allNum (l.take k) = true)) (fun iv _ => n - (intOf iv).toNat)
  case atStart => exact ⟨0, Nat.zero_le _, rfl, inferInstance, inferInstance, Lib.hid rfl⟩
  case round =>
    obtain ⟨k, hk, rfl, _, _, HB1⟩ := hrel
    have st : Step nowhere w wr := ⟨(inferInstance : Nw w wr).out⟩
    by_cases hkn : k < n
    · have hltI : (k : Int) < n := by omega
      have hkl : k < l.length := by omega
      obtain ⟨v, hv⟩ : ∃ v, v = iget l k := ⟨_, rfl⟩
      have hall := allNum_take l k hkl
      have HV := Lib.hid hv
      by_cases h1 : 0 ≤ v
      · by_cases h2 : v ≤ 1073741824
        · have HB2 : Hid (allNum (l.take (k + 1)) = true) := Lib.hid (by rw [hall, HB1.out, ← hv]; simp [numB, h1, h2])
          rw [hv] at h1 h2
          clear hall hv
          go_wp2_with (first | ((with_reducible apply (wpl_guard (op := .binOp _ _ _ _ _))); (exact rfl)) | ((with_reducible apply wpl_ltI); (exact rfl); (first | (exact decide_eq_true (by omega)) | (exact decide_eq_false (by omega)))) | ((with_reducible apply wpl_gtI); (exact rfl); (first | (exact decide_eq_true (by omega)) | (exact decide_eq_false (by omega)))) | ((with_reducible apply (wpl_guard (op := .load _ _))); (exact rfl)) | ((with_reducible apply (wpl_guard (op := .indexAddr _ _ _))); (exact rfl)) | ((with_reducible apply wpl_indexI); (exact rfl); (exact rfl); infer_instance; infer_instance; (exact hl); (exact hkn)) | ((with_reducible apply wpl_loadI); (exact rfl); infer_instance; infer_instance; (exact hkl)))
          exact ⟨⟨k + 1, by omega, by go_num, inferInstance, inferInstance, HB2⟩, by simp [intOf]; omega⟩
        · have HF : Hid (R = false) := Lib.hid (by rw [HR1.out, allNum_no l k hkl (by rw [← hv]; simp [numB, h2])])
          obtain rfl : R = false := HF.out
          rw [hv] at h1 h2
          clear hall hv
          go_wp2_with (first | ((with_reducible apply (wpl_guard (op := .binOp _ _ _ _ _))); (exact rfl)) | ((with_reducible apply wpl_ltI); (exact rfl); (first | (exact decide_eq_true (by omega)) | (exact decide_eq_false (by omega)))) | ((with_reducible apply wpl_gtI); (exact rfl); (first | (exact decide_eq_true (by omega)) | (exact decide_eq_false (by omega)))) | ((with_reducible apply (wpl_guard (op := .load _ _))); (exact rfl)) | ((with_reducible apply (wpl_guard (op := .indexAddr _ _ _))); (exact rfl)) | ((with_reducible apply wpl_indexI); (exact rfl); (exact rfl); infer_instance; infer_instance; (exact hl); (exact hkn)) | ((with_reducible apply wpl_loadI); (exact rfl); infer_instance; infer_instance; (exact hkl)))
          go_ret
          exact ⟨rfl, st⟩
      · have HF : Hid (R = false) := Lib.hid (by rw [HR1.out, allNum_no l k hkl (by rw [← hv]; simp [numB, h1])])
        obtain rfl : R = false := HF.out
        rw [hv] at h1
        clear hall hv
        go_wp2_with (first | ((with_reducible apply wpl_ltI); (exact rfl); (first | (exact decide_eq_true (by omega)) | (exact decide_eq_false (by omega)))) | ((with_reducible apply wpl_indexI); (exact rfl); (exact rfl); infer_instance; infer_instance; (exact hl); (exact hkn)) | ((with_reducible apply wpl_loadI); (exact rfl); infer_instance; infer_instance; (exact hkl)))
        go_ret
        exact ⟨rfl, st⟩
    · obtain rfl : k = n := by omega
      have HF : Hid (R = true) := Lib.hid (by
        have h1 := HB1.out
        rw [List.take_of_length_le (by omega)] at h1
        rw [HR1.out, h1])
      obtain rfl : R = true := HF.out
      have hltI : ¬ (k : Int) < k := by omega
      go_wp2_with fail
      go_ret
      exact ⟨rfl, st⟩
end Go.Proofs.YtmnapacibpnodaaGreat
end
section
open Go Go.RowKit
namespace Go.Proofs.YtmnapacibpnodaaGreat
theorem HR.ints2 {w : World} {z : Nat} {t : TypeId} {a b : Int} (h : HB w z t #[.int .i64 a, .int .i64 b]) : HR w (some ⟨z, 0, none⟩) (i64l [a, b]) := ⟨h.rdL⟩
theorem allNum2 (a b : Int) : allNum [a, b] = (numB a && numB b) := by simp [allNum]
set_option maxRecDepth 100000 in
set_option maxHeartbeats 1600000 in
theorem rIsReport_calls (u n : ByteArray) (h : H32) (c k : Int) (l m : List UInt8) (hl : u.data.toList = l) (hm : n.data.toList = m) (hu : u.size ≤ 9223372036854775807) (hn : n.size ≤ 9223372036854775807) (w : World) :
    Calls Tryz.prog 36 #[.agg (repL u n h c k).toArray] w fun e w' => e = .returned (.bool (repB l m c k)) ∧ Step nowhere w w' := by
  have hlen := repL_len u n h c k
  have hone := repL_one u n h c k
  have kb1 := run_int2 c k
  have hE : n.toList.isEmpty = m.isEmpty := by rw [toL hm]
  have e4 : repB l m c k = (nameL l && nameE m && (numB c && numB k)) := by rw [repB, Bool.and_assoc]
  rw [e4]
  clear e4
  cases h1 : nameL l
  case false =>
    rw [show (false && nameE m && (numB c && numB k)) = false by simp]
    go_enter Tryz.func36, Tryz.ntmps36
    go_wp2_with (first | ((with_reducible apply (stop_dst (dst := some 4))); (with_reducible apply wpl_loadcellN); (exact rfl); infer_instance; (exact rep_at0 _ _ _ _ _)) | ((with_reducible apply (wpl_box_agg (dst := some 1))); (exact rfl); intro zt wzt _ _ _))
    refine (rName_calls u l hl hu _).mono ?_
    rw [h1]
    rintro e w5 ⟨rfl, _⟩
    go_wp2_with (first | go_skip)
    go_ret
    exact ⟨rfl, stepN⟩
  case true =>
    cases h2 : m.isEmpty
    case true =>
      rw [h2] at hE
      rw [show (true && nameE m && (numB c && numB k)) = (numB c && numB k) by simp [nameE, h2]]
      go_enter Tryz.func36, Tryz.ntmps36
      go_wp2_with (first | ((with_reducible apply (stop_dst (dst := some 4))); (with_reducible apply wpl_loadcellN); (exact rfl); infer_instance; (exact rep_at0 _ _ _ _ _)) | ((with_reducible apply (wpl_box_agg (dst := some 1))); (exact rfl); intro zt wzt _ _ _))
      refine (rName_calls u l hl hu _).mono ?_
      rw [h1]
      rintro e w5 ⟨rfl, _⟩
      go_wp2_with (first | go_skip | ((with_reducible apply (wpl_guard (op := .load _ _))); (exact rfl)) | ((with_reducible apply (wpl_guard (op := .buildSlice _ _ _))); (exact rfl)) | ((with_reducible apply (stop_dst (dst := some 8))); (with_reducible apply wpl_loadcellN); (exact rfl); infer_instance; (exact rep_at1 _ _ _ _ _)) | ((with_reducible apply (stop_dst (dst := some 18))); (with_reducible apply wpl_loadcellN); (exact rfl); infer_instance; (exact rep_at34 _ _ _ _ _)) | ((with_reducible apply (stop_dst (dst := some 20))); (with_reducible apply wpl_loadcellN); (exact rfl); infer_instance; (exact rep_at35 _ _ _ _ _)) | ((with_reducible apply (stop_dst (dst := some 21))); (try simp only [Act.put, sA, sB, sC]); ((with_reducible apply (wpl_bslice (dst := some 21))); (exact kb1 _); intro zb wb _ _ _)) | ((with_reducible apply (wpl_guard (op := .fieldAddr _ _ _))); (exact rfl)))
      have hr2 : HR wb (some ⟨zb, 0, none⟩) (i64l [c, k]) := HR.ints2 (inferInstance : HB wb zb 3 #[.int .i64 c, .int .i64 k])
      refine (rNum_calls (l := [c, k]) (n := 2) (c := 2) rfl (by decide)).mono ?_
      rw [allNum2]
      rintro e w7 ⟨rfl, _⟩
      go_wp2_with fail
      go_ret
      exact ⟨rfl, stepN⟩
    case false =>
      rw [h2] at hE
      cases h3 : nameL m
      case false =>
        rw [show (true && nameE m && (numB c && numB k)) = false by simp [nameE, h2, h3]]
        go_enter Tryz.func36, Tryz.ntmps36
        go_wp2_with (first | ((with_reducible apply (stop_dst (dst := some 4))); (with_reducible apply wpl_loadcellN); (exact rfl); infer_instance; (exact rep_at0 _ _ _ _ _)) | ((with_reducible apply (wpl_box_agg (dst := some 1))); (exact rfl); intro zt wzt _ _ _))
        refine (rName_calls u l hl hu _).mono ?_
        rw [h1]
        rintro e w5 ⟨rfl, _⟩
        go_wp2_with (first | ((with_reducible apply (wpl_guard (op := .load _ _))); (exact rfl)) | ((with_reducible apply (stop_dst (dst := some 8))); (with_reducible apply wpl_loadcellN); (exact rfl); infer_instance; (exact rep_at1 _ _ _ _ _)) | ((with_reducible apply (stop_dst (dst := some 12))); (with_reducible apply wpl_loadcellN); (exact rfl); infer_instance; (exact rep_at1 _ _ _ _ _)) | ((with_reducible apply (wpl_guard (op := .fieldAddr _ _ _))); (exact rfl)))
        refine (rName_calls n m hm hn _).mono ?_
        rw [h3]
        rintro e w6 ⟨rfl, _⟩
        go_wp2_with (first | go_skip)
        go_ret
        exact ⟨rfl, stepN⟩
      case true =>
        rw [show (true && nameE m && (numB c && numB k)) = (numB c && numB k) by simp [nameE, h2, h3]]
        go_enter Tryz.func36, Tryz.ntmps36
        go_wp2_with (first | ((with_reducible apply (stop_dst (dst := some 4))); (with_reducible apply wpl_loadcellN); (exact rfl); infer_instance; (exact rep_at0 _ _ _ _ _)) | ((with_reducible apply (wpl_box_agg (dst := some 1))); (exact rfl); intro zt wzt _ _ _))
        refine (rName_calls u l hl hu _).mono ?_
        rw [h1]
        rintro e w5 ⟨rfl, _⟩
        go_wp2_with (first | ((with_reducible apply (wpl_guard (op := .load _ _))); (exact rfl)) | ((with_reducible apply (stop_dst (dst := some 8))); (with_reducible apply wpl_loadcellN); (exact rfl); infer_instance; (exact rep_at1 _ _ _ _ _)) | ((with_reducible apply (stop_dst (dst := some 12))); (with_reducible apply wpl_loadcellN); (exact rfl); infer_instance; (exact rep_at1 _ _ _ _ _)) | ((with_reducible apply (wpl_guard (op := .fieldAddr _ _ _))); (exact rfl)))
        refine (rName_calls n m hm hn _).mono ?_
        rw [h3]
        rintro e w6 ⟨rfl, _⟩
        go_wp2_with (first | ((with_reducible apply (wpl_guard (op := .load _ _))); (exact rfl)) | ((with_reducible apply (wpl_guard (op := .buildSlice _ _ _))); (exact rfl)) | ((with_reducible apply (stop_dst (dst := some 18))); (with_reducible apply wpl_loadcellN); (exact rfl); infer_instance; (exact rep_at34 _ _ _ _ _)) | ((with_reducible apply (stop_dst (dst := some 20))); (with_reducible apply wpl_loadcellN); (exact rfl); infer_instance; (exact rep_at35 _ _ _ _ _)) | ((with_reducible apply (stop_dst (dst := some 21))); (try simp only [Act.put, sA, sB, sC]); ((with_reducible apply (wpl_bslice (dst := some 21))); (exact kb1 _); intro zb wb _ _ _)) | ((with_reducible apply (wpl_guard (op := .fieldAddr _ _ _))); (exact rfl)))
        have hr2 : HR wb (some ⟨zb, 0, none⟩) (i64l [c, k]) := HR.ints2 (inferInstance : HB wb zb 3 #[.int .i64 c, .int .i64 k])
        refine (rNum_calls (l := [c, k]) (n := 2) (c := 2) rfl (by decide)).mono ?_
        rw [allNum2]
        rintro e w7 ⟨rfl, _⟩
        go_wp2_with fail
        go_ret
        exact ⟨rfl, stepN⟩
end Go.Proofs.YtmnapacibpnodaaGreat
end
section
open Go Go.RowKit
namespace Go.Proofs.YtmnapacibpnodaaGreat
section
variable {P : Program} {ops : Array Oper} {a : Act} {w : World} {dst : Option Tmp} {ty : TypeId} {pos : String} {after : Array Edge} {gd : Option (Nat × Bool)}
/-- an array within a block as a slice -/
theorem ev_sl_arrK {t e : TypeId} {x : Operand} {g k m : Nat} (hx : a.eval x = .pointer (some ⟨g, k, none⟩)) (hu : P.underlying t = some (.array m e)) (hs : (P.info? e).map (·.size) = some 1) :
    (execOp a.eval ⟨dst, .slice t x none none none, ty, pos, after, gd⟩).run P w = .ok (.value (.slice (some ⟨g, k, none⟩) m m)) w := by
  show ((Instr.sliceAt t (a.eval x) none none none) >>= fun v => pure (Next.value v)).run P w = _
  rw [hx]
  cases hq : P.info? e with
  | none => rw [hq] at hs; simp at hs
  | some i => simp [Instr.sliceAt, run_underlying hu, Instr.sureAddr, Instr.sliceBounds, sizeOf, typeInfo, hq, add_zero_spot]
end
theorem fresh_hoW {w0 w : World} {A : Option Addr} {n c : Nat} {xs : List UInt8} (h : Fresh w0 w A n c xs) : HO w 5 1 A n c (bs xs) := ⟨h.own⟩
end Go.Proofs.YtmnapacibpnodaaGreat
end
