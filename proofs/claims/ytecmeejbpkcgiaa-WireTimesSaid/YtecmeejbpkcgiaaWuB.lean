/- A report may be; its fields. -/
import Derived.Test.YtecmeejbpkcgiaaWuA
import Derived.Test.YtecmeejbpkcgiaaConv
open Go Go.RowKit
namespace Go.Proofs.Ytecmeejbpkcgiaa
def repL (u n : ByteArray) (h : H32) (c k : Int) : List Value := .string u :: .string n :: (bs h.l ++ [.int .i64 c, .int .i64 k])
theorem repL_len (u n : ByteArray) (h : H32) (c k : Int) : (repL u n h c k).toArray.size = 36 := by
  show (repL u n h c k).length = 36
  simp [repL, bs_length]
theorem rep_sum (u n : ByteArray) (h : H32) (c k : Int) : ((repL u n h c k).toArray.toList.drop 2).take 32 = bs h.l := by
  show (bs h.l ++ [Value.int .i64 c, .int .i64 k]).take 32 = bs h.l
  rw [List.take_left' (bs32 h)]
theorem repL_one (u n : ByteArray) (h : H32) (c k : Int) : (repL u n h c k).toArray.all (·.oneCell') = true := by
  rw [Array.all_eq_true_iff_forall_mem]
  intro x hx
  have hx' : x ∈ repL u n h c k := by simpa using hx
  rcases List.mem_cons.1 hx' with rfl | hx'
  · rfl
  rcases List.mem_cons.1 hx' with rfl | hx'
  · rfl
  rcases List.mem_append.1 hx' with hx' | hx'
  · exact bs_one h.l x hx'
  · simp only [List.mem_cons, List.not_mem_nil, or_false] at hx'
    rcases hx' with rfl | rfl <;> rfl
theorem rep_at0 (u n : ByteArray) (h : H32) (c k : Int) : nth (repL u n h c k).toArray.toList 0 = some (.string u) := rfl
theorem rep_at1 (u n : ByteArray) (h : H32) (c k : Int) : nth (repL u n h c k).toArray.toList 1 = some (.string n) := rfl
theorem rep_at34 (u n : ByteArray) (h : H32) (c k : Int) : nth (repL u n h c k).toArray.toList 34 = some (.int .i64 c) := by
  rw [← nth_get]
  show (bs h.l ++ [Value.int .i64 c, .int .i64 k])[32]? = _
  rw [List.getElem?_append_right (by rw [bs32]; exact Nat.le_refl _), bs32]
  rfl
theorem rep_at35 (u n : ByteArray) (h : H32) (c k : Int) : nth (repL u n h c k).toArray.toList 35 = some (.int .i64 k) := by
  rw [← nth_get]
  show (bs h.l ++ [Value.int .i64 c, .int .i64 k])[33]? = _
  rw [List.getElem?_append_right (by rw [bs32]; decide), bs32]
  rfl
instance rowWuR : RowT Try.prog 47 36 := ⟨by kernel_rfl, _, Try.underlying47, rfl⟩
theorem toL {s : ByteArray} {l : List UInt8} (hs : s.data.toList = l) : s.toList = l := by
  subst hs
  exact strL_list s.data.toList
def nameE (l : List UInt8) : Bool := l.isEmpty || nameL l
set_option maxRecDepth 100000 in
theorem nameE_calls (s : ByteArray) (l : List UInt8) (hs : s.data.toList = l) (w : World) :
    Calls Try.prog 121 #[.string s] w fun e w' => e = .returned (.bool (nameE l)) ∧ Step nowhere w w' := by
  have hE : s.toList.isEmpty = l.isEmpty := by rw [toL hs]
  unfold nameE
  cases he : l.isEmpty
  case true =>
    rw [he] at hE
    rw [show (true || nameL l) = true from rfl]
    go_enter Try.func121, Try.ntmps121
    go_wp2_with fail
    go_ret
    first
      | exact ⟨rfl, stepN⟩
      | exact ⟨by simp [hE], stepN⟩
  case false =>
    rw [he] at hE
    rw [show (false || nameL l) = nameL l from rfl]
    go_enter Try.func121, Try.ntmps121
    go_wp2_with fail
    refine (name_calls s l hs _).mono ?_
    rintro e w5 ⟨rfl, _⟩
    go_wp2_with fail
    go_ret
    exact ⟨rfl, stepN⟩
def repB (l m : List UInt8) (c k : Int) : Bool := nameL l && nameE m && numB c && numB k
set_option maxRecDepth 100000 in
set_option maxHeartbeats 800000 in
theorem isReport_calls (u n : ByteArray) (h : H32) (c k : Int) (l m : List UInt8) (hl : u.data.toList = l) (hm : n.data.toList = m) (w : World) :
    Calls Try.prog 67 #[.agg (repL u n h c k).toArray] w fun e w' => e = .returned (.bool (repB l m c k)) ∧ Step nowhere w w' := by
  have hlen := repL_len u n h c k
  have hone := repL_one u n h c k
  unfold repB
  cases h1 : nameL l
  case false =>
    rw [show (false && nameE m && numB c && numB k) = false by simp]
    go_enter Try.func67, Try.ntmps67
    go_wp2_with (first | go_skip | ((with_reducible apply (wpl_guard (op := .load _ _))); (exact rfl)) | ((with_reducible apply (stop_dst (dst := some 4))); (with_reducible apply wpl_loadcellN); (exact rfl); (exact inferInstance); (exact rep_at0 _ _ _ _ _)) | ((with_reducible apply (stop_dst (dst := some 8))); (with_reducible apply wpl_loadcellN); (exact rfl); (exact inferInstance); (exact rep_at1 _ _ _ _ _)) | ((with_reducible apply (stop_dst (dst := some 13))); (with_reducible apply wpl_loadcellN); (exact rfl); (exact inferInstance); (exact rep_at34 _ _ _ _ _)) | ((with_reducible apply (stop_dst (dst := some 18))); (with_reducible apply wpl_loadcellN); (exact rfl); (exact inferInstance); (exact rep_at35 _ _ _ _ _)) | ((with_reducible apply (wpl_box_agg (dst := some 1))); (exact rfl); intro zt wzt _ _ _) | ((with_reducible apply (wpl_box_int (dst := some 1))); (exact rfl); intro zt wzt _ _ _) | ((with_reducible apply (wpl_box_slice (dst := some 1))); (exact rfl); intro zt wzt _ _ _) | ((with_reducible apply (wpl_box_str (dst := some 1))); (exact rfl); intro zt wzt _ _ _) | ((with_reducible apply (wpl_box_bool (dst := some 1))); (exact rfl); intro zt wzt _ _ _) | ((with_reducible apply (wpl_box_ptr (dst := some 1))); (exact rfl); intro zt wzt _ _ _) | ((with_reducible apply wpl_box_agg); (exact rfl); intro z wz _ _ _) | ((with_reducible apply wpl_box_int); (exact rfl); intro z wz _ _ _) | ((with_reducible apply wpl_box_slice); (exact rfl); intro z wz _ _ _) | ((with_reducible apply wpl_box_str); (exact rfl); intro z wz _ _ _) | ((with_reducible apply wpl_box_bool); (exact rfl); intro z wz _ _ _) | ((with_reducible apply wpl_box_ptr); (exact rfl); intro z wz _ _ _) | ((with_reducible apply (wpl_guard (op := .load _ _))); (exact rfl)) | ((with_reducible apply (wpl_guard (op := .fieldAddr _ _ _))); (exact rfl)) | ((with_reducible apply wpl_loadrow); (exact rfl); (exact inferInstance); (exact inferInstance); (first | (with_reducible assumption) | (with_reducible exact H32.size _) | kernel_rfl)) | ((with_reducible apply wpl_loadcellN); (exact rfl); (exact inferInstance); (exact rfl)))
    refine (name_calls u l hl _).mono ?_
    rw [h1]
    rintro e w5 ⟨rfl, _⟩
    go_wp2_with (first | go_skip | ((with_reducible apply (wpl_guard (op := .load _ _))); (exact rfl)) | ((with_reducible apply (stop_dst (dst := some 4))); (with_reducible apply wpl_loadcellN); (exact rfl); (exact inferInstance); (exact rep_at0 _ _ _ _ _)) | ((with_reducible apply (stop_dst (dst := some 8))); (with_reducible apply wpl_loadcellN); (exact rfl); (exact inferInstance); (exact rep_at1 _ _ _ _ _)) | ((with_reducible apply (stop_dst (dst := some 13))); (with_reducible apply wpl_loadcellN); (exact rfl); (exact inferInstance); (exact rep_at34 _ _ _ _ _)) | ((with_reducible apply (stop_dst (dst := some 18))); (with_reducible apply wpl_loadcellN); (exact rfl); (exact inferInstance); (exact rep_at35 _ _ _ _ _)) | ((with_reducible apply wpl_box_agg); (exact rfl); intro z wz _ _ _) | ((with_reducible apply wpl_box_int); (exact rfl); intro z wz _ _ _) | ((with_reducible apply wpl_box_slice); (exact rfl); intro z wz _ _ _) | ((with_reducible apply wpl_box_str); (exact rfl); intro z wz _ _ _) | ((with_reducible apply wpl_box_bool); (exact rfl); intro z wz _ _ _) | ((with_reducible apply wpl_box_ptr); (exact rfl); intro z wz _ _ _) | ((with_reducible apply (wpl_guard (op := .load _ _))); (exact rfl)) | ((with_reducible apply (wpl_guard (op := .fieldAddr _ _ _))); (exact rfl)) | ((with_reducible apply wpl_loadrow); (exact rfl); (exact inferInstance); (exact inferInstance); (first | (with_reducible assumption) | (with_reducible exact H32.size _) | kernel_rfl)) | ((with_reducible apply wpl_loadcellN); (exact rfl); (exact inferInstance); (exact rfl)))
    go_ret
    exact ⟨rfl, stepN⟩
  case true =>
    cases h2 : nameE m
    case false =>
      rw [show (true && false && numB c && numB k) = false by simp]
      go_enter Try.func67, Try.ntmps67
      go_wp2_with (first | go_skip | ((with_reducible apply (wpl_guard (op := .load _ _))); (exact rfl)) | ((with_reducible apply (stop_dst (dst := some 4))); (with_reducible apply wpl_loadcellN); (exact rfl); (exact inferInstance); (exact rep_at0 _ _ _ _ _)) | ((with_reducible apply (stop_dst (dst := some 8))); (with_reducible apply wpl_loadcellN); (exact rfl); (exact inferInstance); (exact rep_at1 _ _ _ _ _)) | ((with_reducible apply (stop_dst (dst := some 13))); (with_reducible apply wpl_loadcellN); (exact rfl); (exact inferInstance); (exact rep_at34 _ _ _ _ _)) | ((with_reducible apply (stop_dst (dst := some 18))); (with_reducible apply wpl_loadcellN); (exact rfl); (exact inferInstance); (exact rep_at35 _ _ _ _ _)) | ((with_reducible apply (wpl_box_agg (dst := some 1))); (exact rfl); intro zt wzt _ _ _) | ((with_reducible apply (wpl_box_int (dst := some 1))); (exact rfl); intro zt wzt _ _ _) | ((with_reducible apply (wpl_box_slice (dst := some 1))); (exact rfl); intro zt wzt _ _ _) | ((with_reducible apply (wpl_box_str (dst := some 1))); (exact rfl); intro zt wzt _ _ _) | ((with_reducible apply (wpl_box_bool (dst := some 1))); (exact rfl); intro zt wzt _ _ _) | ((with_reducible apply (wpl_box_ptr (dst := some 1))); (exact rfl); intro zt wzt _ _ _) | ((with_reducible apply wpl_box_agg); (exact rfl); intro z wz _ _ _) | ((with_reducible apply wpl_box_int); (exact rfl); intro z wz _ _ _) | ((with_reducible apply wpl_box_slice); (exact rfl); intro z wz _ _ _) | ((with_reducible apply wpl_box_str); (exact rfl); intro z wz _ _ _) | ((with_reducible apply wpl_box_bool); (exact rfl); intro z wz _ _ _) | ((with_reducible apply wpl_box_ptr); (exact rfl); intro z wz _ _ _) | ((with_reducible apply (wpl_guard (op := .load _ _))); (exact rfl)) | ((with_reducible apply (wpl_guard (op := .fieldAddr _ _ _))); (exact rfl)) | ((with_reducible apply wpl_loadrow); (exact rfl); (exact inferInstance); (exact inferInstance); (first | (with_reducible assumption) | (with_reducible exact H32.size _) | kernel_rfl)) | ((with_reducible apply wpl_loadcellN); (exact rfl); (exact inferInstance); (exact rfl)))
      refine (name_calls u l hl _).mono ?_
      rw [h1]
      rintro e w5 ⟨rfl, _⟩
      go_wp2_with (first | go_skip | ((with_reducible apply (wpl_guard (op := .load _ _))); (exact rfl)) | ((with_reducible apply (stop_dst (dst := some 4))); (with_reducible apply wpl_loadcellN); (exact rfl); (exact inferInstance); (exact rep_at0 _ _ _ _ _)) | ((with_reducible apply (stop_dst (dst := some 8))); (with_reducible apply wpl_loadcellN); (exact rfl); (exact inferInstance); (exact rep_at1 _ _ _ _ _)) | ((with_reducible apply (stop_dst (dst := some 13))); (with_reducible apply wpl_loadcellN); (exact rfl); (exact inferInstance); (exact rep_at34 _ _ _ _ _)) | ((with_reducible apply (stop_dst (dst := some 18))); (with_reducible apply wpl_loadcellN); (exact rfl); (exact inferInstance); (exact rep_at35 _ _ _ _ _)) | ((with_reducible apply wpl_box_agg); (exact rfl); intro z wz _ _ _) | ((with_reducible apply wpl_box_int); (exact rfl); intro z wz _ _ _) | ((with_reducible apply wpl_box_slice); (exact rfl); intro z wz _ _ _) | ((with_reducible apply wpl_box_str); (exact rfl); intro z wz _ _ _) | ((with_reducible apply wpl_box_bool); (exact rfl); intro z wz _ _ _) | ((with_reducible apply wpl_box_ptr); (exact rfl); intro z wz _ _ _) | ((with_reducible apply (wpl_guard (op := .load _ _))); (exact rfl)) | ((with_reducible apply (wpl_guard (op := .fieldAddr _ _ _))); (exact rfl)) | ((with_reducible apply wpl_loadrow); (exact rfl); (exact inferInstance); (exact inferInstance); (first | (with_reducible assumption) | (with_reducible exact H32.size _) | kernel_rfl)) | ((with_reducible apply wpl_loadcellN); (exact rfl); (exact inferInstance); (exact rfl)))
      refine (nameE_calls n m hm _).mono ?_
      rw [h2]
      rintro e w6 ⟨rfl, _⟩
      go_wp2_with (first | go_skip | ((with_reducible apply (wpl_guard (op := .load _ _))); (exact rfl)) | ((with_reducible apply (stop_dst (dst := some 4))); (with_reducible apply wpl_loadcellN); (exact rfl); (exact inferInstance); (exact rep_at0 _ _ _ _ _)) | ((with_reducible apply (stop_dst (dst := some 8))); (with_reducible apply wpl_loadcellN); (exact rfl); (exact inferInstance); (exact rep_at1 _ _ _ _ _)) | ((with_reducible apply (stop_dst (dst := some 13))); (with_reducible apply wpl_loadcellN); (exact rfl); (exact inferInstance); (exact rep_at34 _ _ _ _ _)) | ((with_reducible apply (stop_dst (dst := some 18))); (with_reducible apply wpl_loadcellN); (exact rfl); (exact inferInstance); (exact rep_at35 _ _ _ _ _)) | ((with_reducible apply wpl_box_agg); (exact rfl); intro z wz _ _ _) | ((with_reducible apply wpl_box_int); (exact rfl); intro z wz _ _ _) | ((with_reducible apply wpl_box_slice); (exact rfl); intro z wz _ _ _) | ((with_reducible apply wpl_box_str); (exact rfl); intro z wz _ _ _) | ((with_reducible apply wpl_box_bool); (exact rfl); intro z wz _ _ _) | ((with_reducible apply wpl_box_ptr); (exact rfl); intro z wz _ _ _) | ((with_reducible apply (wpl_guard (op := .load _ _))); (exact rfl)) | ((with_reducible apply (wpl_guard (op := .fieldAddr _ _ _))); (exact rfl)) | ((with_reducible apply wpl_loadrow); (exact rfl); (exact inferInstance); (exact inferInstance); (first | (with_reducible assumption) | (with_reducible exact H32.size _) | kernel_rfl)) | ((with_reducible apply wpl_loadcellN); (exact rfl); (exact inferInstance); (exact rfl)))
      go_ret
      exact ⟨rfl, stepN⟩
    case true =>
      cases h3 : numB c
      case false =>
        rw [show (true && true && false && numB k) = false by simp]
        go_enter Try.func67, Try.ntmps67
        go_wp2_with (first | go_skip | ((with_reducible apply (wpl_guard (op := .load _ _))); (exact rfl)) | ((with_reducible apply (stop_dst (dst := some 4))); (with_reducible apply wpl_loadcellN); (exact rfl); (exact inferInstance); (exact rep_at0 _ _ _ _ _)) | ((with_reducible apply (stop_dst (dst := some 8))); (with_reducible apply wpl_loadcellN); (exact rfl); (exact inferInstance); (exact rep_at1 _ _ _ _ _)) | ((with_reducible apply (stop_dst (dst := some 13))); (with_reducible apply wpl_loadcellN); (exact rfl); (exact inferInstance); (exact rep_at34 _ _ _ _ _)) | ((with_reducible apply (stop_dst (dst := some 18))); (with_reducible apply wpl_loadcellN); (exact rfl); (exact inferInstance); (exact rep_at35 _ _ _ _ _)) | ((with_reducible apply (wpl_box_agg (dst := some 1))); (exact rfl); intro zt wzt _ _ _) | ((with_reducible apply (wpl_box_int (dst := some 1))); (exact rfl); intro zt wzt _ _ _) | ((with_reducible apply (wpl_box_slice (dst := some 1))); (exact rfl); intro zt wzt _ _ _) | ((with_reducible apply (wpl_box_str (dst := some 1))); (exact rfl); intro zt wzt _ _ _) | ((with_reducible apply (wpl_box_bool (dst := some 1))); (exact rfl); intro zt wzt _ _ _) | ((with_reducible apply (wpl_box_ptr (dst := some 1))); (exact rfl); intro zt wzt _ _ _) | ((with_reducible apply wpl_box_agg); (exact rfl); intro z wz _ _ _) | ((with_reducible apply wpl_box_int); (exact rfl); intro z wz _ _ _) | ((with_reducible apply wpl_box_slice); (exact rfl); intro z wz _ _ _) | ((with_reducible apply wpl_box_str); (exact rfl); intro z wz _ _ _) | ((with_reducible apply wpl_box_bool); (exact rfl); intro z wz _ _ _) | ((with_reducible apply wpl_box_ptr); (exact rfl); intro z wz _ _ _) | ((with_reducible apply (wpl_guard (op := .load _ _))); (exact rfl)) | ((with_reducible apply (wpl_guard (op := .fieldAddr _ _ _))); (exact rfl)) | ((with_reducible apply wpl_loadrow); (exact rfl); (exact inferInstance); (exact inferInstance); (first | (with_reducible assumption) | (with_reducible exact H32.size _) | kernel_rfl)) | ((with_reducible apply wpl_loadcellN); (exact rfl); (exact inferInstance); (exact rfl)))
        refine (name_calls u l hl _).mono ?_
        rw [h1]
        rintro e w5 ⟨rfl, _⟩
        go_wp2_with (first | go_skip | ((with_reducible apply (wpl_guard (op := .load _ _))); (exact rfl)) | ((with_reducible apply (stop_dst (dst := some 4))); (with_reducible apply wpl_loadcellN); (exact rfl); (exact inferInstance); (exact rep_at0 _ _ _ _ _)) | ((with_reducible apply (stop_dst (dst := some 8))); (with_reducible apply wpl_loadcellN); (exact rfl); (exact inferInstance); (exact rep_at1 _ _ _ _ _)) | ((with_reducible apply (stop_dst (dst := some 13))); (with_reducible apply wpl_loadcellN); (exact rfl); (exact inferInstance); (exact rep_at34 _ _ _ _ _)) | ((with_reducible apply (stop_dst (dst := some 18))); (with_reducible apply wpl_loadcellN); (exact rfl); (exact inferInstance); (exact rep_at35 _ _ _ _ _)) | ((with_reducible apply wpl_box_agg); (exact rfl); intro z wz _ _ _) | ((with_reducible apply wpl_box_int); (exact rfl); intro z wz _ _ _) | ((with_reducible apply wpl_box_slice); (exact rfl); intro z wz _ _ _) | ((with_reducible apply wpl_box_str); (exact rfl); intro z wz _ _ _) | ((with_reducible apply wpl_box_bool); (exact rfl); intro z wz _ _ _) | ((with_reducible apply wpl_box_ptr); (exact rfl); intro z wz _ _ _) | ((with_reducible apply (wpl_guard (op := .load _ _))); (exact rfl)) | ((with_reducible apply (wpl_guard (op := .fieldAddr _ _ _))); (exact rfl)) | ((with_reducible apply wpl_loadrow); (exact rfl); (exact inferInstance); (exact inferInstance); (first | (with_reducible assumption) | (with_reducible exact H32.size _) | kernel_rfl)) | ((with_reducible apply wpl_loadcellN); (exact rfl); (exact inferInstance); (exact rfl)))
        refine (nameE_calls n m hm _).mono ?_
        rw [h2]
        rintro e w6 ⟨rfl, _⟩
        go_wp2_with (first | go_skip | ((with_reducible apply (wpl_guard (op := .load _ _))); (exact rfl)) | ((with_reducible apply (stop_dst (dst := some 4))); (with_reducible apply wpl_loadcellN); (exact rfl); (exact inferInstance); (exact rep_at0 _ _ _ _ _)) | ((with_reducible apply (stop_dst (dst := some 8))); (with_reducible apply wpl_loadcellN); (exact rfl); (exact inferInstance); (exact rep_at1 _ _ _ _ _)) | ((with_reducible apply (stop_dst (dst := some 13))); (with_reducible apply wpl_loadcellN); (exact rfl); (exact inferInstance); (exact rep_at34 _ _ _ _ _)) | ((with_reducible apply (stop_dst (dst := some 18))); (with_reducible apply wpl_loadcellN); (exact rfl); (exact inferInstance); (exact rep_at35 _ _ _ _ _)) | ((with_reducible apply wpl_box_agg); (exact rfl); intro z wz _ _ _) | ((with_reducible apply wpl_box_int); (exact rfl); intro z wz _ _ _) | ((with_reducible apply wpl_box_slice); (exact rfl); intro z wz _ _ _) | ((with_reducible apply wpl_box_str); (exact rfl); intro z wz _ _ _) | ((with_reducible apply wpl_box_bool); (exact rfl); intro z wz _ _ _) | ((with_reducible apply wpl_box_ptr); (exact rfl); intro z wz _ _ _) | ((with_reducible apply (wpl_guard (op := .load _ _))); (exact rfl)) | ((with_reducible apply (wpl_guard (op := .fieldAddr _ _ _))); (exact rfl)) | ((with_reducible apply wpl_loadrow); (exact rfl); (exact inferInstance); (exact inferInstance); (first | (with_reducible assumption) | (with_reducible exact H32.size _) | kernel_rfl)) | ((with_reducible apply wpl_loadcellN); (exact rfl); (exact inferInstance); (exact rfl)))
        refine (number_calls c _).mono ?_
        rw [h3]
        rintro e w7 ⟨rfl, _⟩
        go_wp2_with (first | go_skip | ((with_reducible apply (wpl_guard (op := .load _ _))); (exact rfl)) | ((with_reducible apply (stop_dst (dst := some 4))); (with_reducible apply wpl_loadcellN); (exact rfl); (exact inferInstance); (exact rep_at0 _ _ _ _ _)) | ((with_reducible apply (stop_dst (dst := some 8))); (with_reducible apply wpl_loadcellN); (exact rfl); (exact inferInstance); (exact rep_at1 _ _ _ _ _)) | ((with_reducible apply (stop_dst (dst := some 13))); (with_reducible apply wpl_loadcellN); (exact rfl); (exact inferInstance); (exact rep_at34 _ _ _ _ _)) | ((with_reducible apply (stop_dst (dst := some 18))); (with_reducible apply wpl_loadcellN); (exact rfl); (exact inferInstance); (exact rep_at35 _ _ _ _ _)) | ((with_reducible apply wpl_box_agg); (exact rfl); intro z wz _ _ _) | ((with_reducible apply wpl_box_int); (exact rfl); intro z wz _ _ _) | ((with_reducible apply wpl_box_slice); (exact rfl); intro z wz _ _ _) | ((with_reducible apply wpl_box_str); (exact rfl); intro z wz _ _ _) | ((with_reducible apply wpl_box_bool); (exact rfl); intro z wz _ _ _) | ((with_reducible apply wpl_box_ptr); (exact rfl); intro z wz _ _ _) | ((with_reducible apply (wpl_guard (op := .load _ _))); (exact rfl)) | ((with_reducible apply (wpl_guard (op := .fieldAddr _ _ _))); (exact rfl)) | ((with_reducible apply wpl_loadrow); (exact rfl); (exact inferInstance); (exact inferInstance); (first | (with_reducible assumption) | (with_reducible exact H32.size _) | kernel_rfl)) | ((with_reducible apply wpl_loadcellN); (exact rfl); (exact inferInstance); (exact rfl)))
        go_ret
        exact ⟨rfl, stepN⟩
      case true =>
        rw [show (true && true && true && numB k) = numB k by simp]
        go_enter Try.func67, Try.ntmps67
        go_wp2_with (first | go_skip | ((with_reducible apply (wpl_guard (op := .load _ _))); (exact rfl)) | ((with_reducible apply (stop_dst (dst := some 4))); (with_reducible apply wpl_loadcellN); (exact rfl); (exact inferInstance); (exact rep_at0 _ _ _ _ _)) | ((with_reducible apply (stop_dst (dst := some 8))); (with_reducible apply wpl_loadcellN); (exact rfl); (exact inferInstance); (exact rep_at1 _ _ _ _ _)) | ((with_reducible apply (stop_dst (dst := some 13))); (with_reducible apply wpl_loadcellN); (exact rfl); (exact inferInstance); (exact rep_at34 _ _ _ _ _)) | ((with_reducible apply (stop_dst (dst := some 18))); (with_reducible apply wpl_loadcellN); (exact rfl); (exact inferInstance); (exact rep_at35 _ _ _ _ _)) | ((with_reducible apply (wpl_box_agg (dst := some 1))); (exact rfl); intro zt wzt _ _ _) | ((with_reducible apply (wpl_box_int (dst := some 1))); (exact rfl); intro zt wzt _ _ _) | ((with_reducible apply (wpl_box_slice (dst := some 1))); (exact rfl); intro zt wzt _ _ _) | ((with_reducible apply (wpl_box_str (dst := some 1))); (exact rfl); intro zt wzt _ _ _) | ((with_reducible apply (wpl_box_bool (dst := some 1))); (exact rfl); intro zt wzt _ _ _) | ((with_reducible apply (wpl_box_ptr (dst := some 1))); (exact rfl); intro zt wzt _ _ _) | ((with_reducible apply wpl_box_agg); (exact rfl); intro z wz _ _ _) | ((with_reducible apply wpl_box_int); (exact rfl); intro z wz _ _ _) | ((with_reducible apply wpl_box_slice); (exact rfl); intro z wz _ _ _) | ((with_reducible apply wpl_box_str); (exact rfl); intro z wz _ _ _) | ((with_reducible apply wpl_box_bool); (exact rfl); intro z wz _ _ _) | ((with_reducible apply wpl_box_ptr); (exact rfl); intro z wz _ _ _) | ((with_reducible apply (wpl_guard (op := .load _ _))); (exact rfl)) | ((with_reducible apply (wpl_guard (op := .fieldAddr _ _ _))); (exact rfl)) | ((with_reducible apply wpl_loadrow); (exact rfl); (exact inferInstance); (exact inferInstance); (first | (with_reducible assumption) | (with_reducible exact H32.size _) | kernel_rfl)) | ((with_reducible apply wpl_loadcellN); (exact rfl); (exact inferInstance); (exact rfl)))
        refine (name_calls u l hl _).mono ?_
        rw [h1]
        rintro e w5 ⟨rfl, _⟩
        go_wp2_with (first | go_skip | ((with_reducible apply (wpl_guard (op := .load _ _))); (exact rfl)) | ((with_reducible apply (stop_dst (dst := some 4))); (with_reducible apply wpl_loadcellN); (exact rfl); (exact inferInstance); (exact rep_at0 _ _ _ _ _)) | ((with_reducible apply (stop_dst (dst := some 8))); (with_reducible apply wpl_loadcellN); (exact rfl); (exact inferInstance); (exact rep_at1 _ _ _ _ _)) | ((with_reducible apply (stop_dst (dst := some 13))); (with_reducible apply wpl_loadcellN); (exact rfl); (exact inferInstance); (exact rep_at34 _ _ _ _ _)) | ((with_reducible apply (stop_dst (dst := some 18))); (with_reducible apply wpl_loadcellN); (exact rfl); (exact inferInstance); (exact rep_at35 _ _ _ _ _)) | ((with_reducible apply wpl_box_agg); (exact rfl); intro z wz _ _ _) | ((with_reducible apply wpl_box_int); (exact rfl); intro z wz _ _ _) | ((with_reducible apply wpl_box_slice); (exact rfl); intro z wz _ _ _) | ((with_reducible apply wpl_box_str); (exact rfl); intro z wz _ _ _) | ((with_reducible apply wpl_box_bool); (exact rfl); intro z wz _ _ _) | ((with_reducible apply wpl_box_ptr); (exact rfl); intro z wz _ _ _) | ((with_reducible apply (wpl_guard (op := .load _ _))); (exact rfl)) | ((with_reducible apply (wpl_guard (op := .fieldAddr _ _ _))); (exact rfl)) | ((with_reducible apply wpl_loadrow); (exact rfl); (exact inferInstance); (exact inferInstance); (first | (with_reducible assumption) | (with_reducible exact H32.size _) | kernel_rfl)) | ((with_reducible apply wpl_loadcellN); (exact rfl); (exact inferInstance); (exact rfl)))
        refine (nameE_calls n m hm _).mono ?_
        rw [h2]
        rintro e w6 ⟨rfl, _⟩
        go_wp2_with (first | go_skip | ((with_reducible apply (wpl_guard (op := .load _ _))); (exact rfl)) | ((with_reducible apply (stop_dst (dst := some 4))); (with_reducible apply wpl_loadcellN); (exact rfl); (exact inferInstance); (exact rep_at0 _ _ _ _ _)) | ((with_reducible apply (stop_dst (dst := some 8))); (with_reducible apply wpl_loadcellN); (exact rfl); (exact inferInstance); (exact rep_at1 _ _ _ _ _)) | ((with_reducible apply (stop_dst (dst := some 13))); (with_reducible apply wpl_loadcellN); (exact rfl); (exact inferInstance); (exact rep_at34 _ _ _ _ _)) | ((with_reducible apply (stop_dst (dst := some 18))); (with_reducible apply wpl_loadcellN); (exact rfl); (exact inferInstance); (exact rep_at35 _ _ _ _ _)) | ((with_reducible apply wpl_box_agg); (exact rfl); intro z wz _ _ _) | ((with_reducible apply wpl_box_int); (exact rfl); intro z wz _ _ _) | ((with_reducible apply wpl_box_slice); (exact rfl); intro z wz _ _ _) | ((with_reducible apply wpl_box_str); (exact rfl); intro z wz _ _ _) | ((with_reducible apply wpl_box_bool); (exact rfl); intro z wz _ _ _) | ((with_reducible apply wpl_box_ptr); (exact rfl); intro z wz _ _ _) | ((with_reducible apply (wpl_guard (op := .load _ _))); (exact rfl)) | ((with_reducible apply (wpl_guard (op := .fieldAddr _ _ _))); (exact rfl)) | ((with_reducible apply wpl_loadrow); (exact rfl); (exact inferInstance); (exact inferInstance); (first | (with_reducible assumption) | (with_reducible exact H32.size _) | kernel_rfl)) | ((with_reducible apply wpl_loadcellN); (exact rfl); (exact inferInstance); (exact rfl)))
        refine (number_calls c _).mono ?_
        rw [h3]
        rintro e w7 ⟨rfl, _⟩
        go_wp2_with (first | go_skip | ((with_reducible apply (wpl_guard (op := .load _ _))); (exact rfl)) | ((with_reducible apply (stop_dst (dst := some 4))); (with_reducible apply wpl_loadcellN); (exact rfl); (exact inferInstance); (exact rep_at0 _ _ _ _ _)) | ((with_reducible apply (stop_dst (dst := some 8))); (with_reducible apply wpl_loadcellN); (exact rfl); (exact inferInstance); (exact rep_at1 _ _ _ _ _)) | ((with_reducible apply (stop_dst (dst := some 13))); (with_reducible apply wpl_loadcellN); (exact rfl); (exact inferInstance); (exact rep_at34 _ _ _ _ _)) | ((with_reducible apply (stop_dst (dst := some 18))); (with_reducible apply wpl_loadcellN); (exact rfl); (exact inferInstance); (exact rep_at35 _ _ _ _ _)) | ((with_reducible apply wpl_box_agg); (exact rfl); intro z wz _ _ _) | ((with_reducible apply wpl_box_int); (exact rfl); intro z wz _ _ _) | ((with_reducible apply wpl_box_slice); (exact rfl); intro z wz _ _ _) | ((with_reducible apply wpl_box_str); (exact rfl); intro z wz _ _ _) | ((with_reducible apply wpl_box_bool); (exact rfl); intro z wz _ _ _) | ((with_reducible apply wpl_box_ptr); (exact rfl); intro z wz _ _ _) | ((with_reducible apply (wpl_guard (op := .load _ _))); (exact rfl)) | ((with_reducible apply (wpl_guard (op := .fieldAddr _ _ _))); (exact rfl)) | ((with_reducible apply wpl_loadrow); (exact rfl); (exact inferInstance); (exact inferInstance); (first | (with_reducible assumption) | (with_reducible exact H32.size _) | kernel_rfl)) | ((with_reducible apply wpl_loadcellN); (exact rfl); (exact inferInstance); (exact rfl)))
        refine (number_calls k _).mono ?_
        rintro e w8 ⟨rfl, _⟩
        go_wp2_with (first | go_skip | ((with_reducible apply (wpl_guard (op := .load _ _))); (exact rfl)) | ((with_reducible apply (stop_dst (dst := some 4))); (with_reducible apply wpl_loadcellN); (exact rfl); (exact inferInstance); (exact rep_at0 _ _ _ _ _)) | ((with_reducible apply (stop_dst (dst := some 8))); (with_reducible apply wpl_loadcellN); (exact rfl); (exact inferInstance); (exact rep_at1 _ _ _ _ _)) | ((with_reducible apply (stop_dst (dst := some 13))); (with_reducible apply wpl_loadcellN); (exact rfl); (exact inferInstance); (exact rep_at34 _ _ _ _ _)) | ((with_reducible apply (stop_dst (dst := some 18))); (with_reducible apply wpl_loadcellN); (exact rfl); (exact inferInstance); (exact rep_at35 _ _ _ _ _)) | ((with_reducible apply wpl_box_agg); (exact rfl); intro z wz _ _ _) | ((with_reducible apply wpl_box_int); (exact rfl); intro z wz _ _ _) | ((with_reducible apply wpl_box_slice); (exact rfl); intro z wz _ _ _) | ((with_reducible apply wpl_box_str); (exact rfl); intro z wz _ _ _) | ((with_reducible apply wpl_box_bool); (exact rfl); intro z wz _ _ _) | ((with_reducible apply wpl_box_ptr); (exact rfl); intro z wz _ _ _) | ((with_reducible apply (wpl_guard (op := .load _ _))); (exact rfl)) | ((with_reducible apply (wpl_guard (op := .fieldAddr _ _ _))); (exact rfl)) | ((with_reducible apply wpl_loadrow); (exact rfl); (exact inferInstance); (exact inferInstance); (first | (with_reducible assumption) | (with_reducible exact H32.size _) | kernel_rfl)) | ((with_reducible apply wpl_loadcellN); (exact rfl); (exact inferInstance); (exact rfl)))
        go_ret
        exact ⟨rfl, stepN⟩
theorem run_fld4 (f1 f2 f3 f4 : FuncId) (c1 c2 c3 c4 : Array Value) (w : World) : (Instr.buildSlice 216 4 #[(0, .func (.func f1) #[] c1), (1, .func (.func f2) #[] c2), (2, .func (.func f3) #[] c3), (3, .func (.func f4) #[] c4)]).run Try.prog w = .ok (.slice (some ⟨w.heap.size, 0, none⟩) 4 4) (w.alloc (.cells #[.func (.func f1) #[] c1, .func (.func f2) #[] c2, .func (.func f3) #[] c3, .func (.func f4) #[] c4] 164)) := by kernel_rfl
/-- four fields, one behind the other -/
theorem fields4 {z c : Nat} {f1 f2 f3 f4 : FuncId} {c1 c2 c3 c4 : Array Value} {T1 T2 T3 T4 : Nat → Prop} {y1 y2 y3 y4 : List UInt8} {w : World} {t : TypeId} [h : HB w z t #[.func (.func f1) #[] c1, .func (.func f2) #[] c2, .func (.func f3) #[] c3, .func (.func f4) #[] c4]]
    (h1 : Lays w T1 (.func (.func f1) #[] c1) y1) (h2 : Lays w T2 (.func (.func f2) #[] c2) y2) (h3 : Lays w T3 (.func (.func f3) #[] c3) y3) (h4 : Lays w T4 (.func (.func f4) #[] c4) y4) :
    Calls Try.prog 100 #[.slice (some ⟨z, 0, none⟩) 4 c] w fun e w' => ∃ f caps T, e = .returned (.func (.func f) #[] caps) ∧ Step nowhere w w' ∧ Lays w' T (.func (.func f) #[] caps) (y1 ++ (y2 ++ (y3 ++ y4))) ∧ ∀ x, T x → w.heap.size ≤ x ∨ x = z ∨ T1 x ∨ T2 x ∨ T3 x ∨ T4 x := by
  have hr := h.rdL
  refine (fields_calls (A2 := some ⟨z, 0, none⟩) (c := c) (l := [⟨_, T1, y1⟩, ⟨_, T2, y2⟩, ⟨_, T3, y3⟩, ⟨_, T4, y4⟩]) hr rfl (show 4 ≤ 1000000000 by decide) ?_).mono ?_
  · intro f hf
    simp only [List.mem_cons, List.not_mem_nil, or_false] at hf
    rcases hf with rfl | rfl | rfl | rfl
    · exact h1
    · exact h2
    · exact h3
    · exact h4
  · rintro e w' ⟨f, caps, T, rfl, hs, hL, hT⟩
    refine ⟨f, caps, T, rfl, hs, ?_, fun x hx => ?_⟩
    · have e2 : allYs [⟨Value.func (.func f1) #[] c1, T1, y1⟩, ⟨Value.func (.func f2) #[] c2, T2, y2⟩, ⟨Value.func (.func f3) #[] c3, T3, y3⟩, ⟨Value.func (.func f4) #[] c4, T4, y4⟩] = y1 ++ (y2 ++ (y3 ++ y4)) := by simp [allYs]
      rwa [e2] at hL
    · rcases hT x hx with h | ⟨_, ad, e, hk⟩ | ⟨f, hf, hk⟩
      · exact .inl h
      · injection e with e
        subst e
        exact .inr (.inl hk.symm)
      · simp only [List.mem_cons, List.not_mem_nil, or_false] at hf
        rcases hf with rfl | rfl | rfl | rfl
        · exact .inr (.inr (.inl hk))
        · exact .inr (.inr (.inr (.inl hk)))
        · exact .inr (.inr (.inr (.inr (.inl hk))))
        · exact .inr (.inr (.inr (.inr (.inr hk))))
end Go.Proofs.Ytecmeejbpkcgiaa
