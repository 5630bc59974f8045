/- Conv, WuB, WuC -/
import Derived.Test.YtmnapacibpnodaaGreatUeBase
import Derived.Laws.BytesArg
import Derived.Laws.BytesString
import Derived.Test.YtmnapacibpnodaaGreatUeWuA
import Derived.Test.YtmnapacibpnodaaGreatUeOcRfC
section
open Go Go.RowKit
namespace Go.Proofs.YtmnapacibpnodaaGreat
def strL (xs : List UInt8) : ByteArray := ⟨xs.toArray⟩
theorem list_loop (a : ByteArray) : ∀ (m i : Nat) (r : List UInt8), m = a.size - i → ByteArray.toList.loop a i r = r.reverse ++ a.data.toList.drop i
  | 0, i, r, h => by
    have hsz : a.data.toList.length = a.size := Array.length_toList
    rw [ByteArray.toList.loop, if_neg (by omega), List.drop_of_length_le (by omega), List.append_nil]
  | m + 1, i, r, h => by
    rw [ByteArray.toList.loop, if_pos (by omega), list_loop a m (i + 1) _ (by omega)]
    have hsz : a.data.toList.length = a.size := Array.length_toList
    have hi : i < a.data.toList.length := by omega
    rw [List.drop_eq_getElem_cons hi]
    have e : a.get! i = a.data.toList[i] := by
      simp only [ByteArray.get!]
      rw [getElem!_pos a.data i (by simpa using hi)]
      simp
    rw [e]
    simp
theorem strL_list (xs : List UInt8) : (strL xs).toList = xs := by
  show ByteArray.toList.loop (strL xs) 0 [] = xs
  rw [list_loop (strL xs) _ 0 [] rfl]
  simp [strL]
section
variable {P : Program} {ops : Array Oper} {rest : List Oper} {a : Act} {w : World} {Q : Exit → Act → World → Prop} {dst : Option Tmp} {ty : TypeId} {pos : String} {after : Array Edge}
theorem foldl_push (xs : List UInt8) (b : ByteArray) : (xs.map fun x => (x.toNat : Int)).foldl (fun a n => a.push (UInt8.ofNat n.toNat)) b = ⟨b.data ++ xs.toArray⟩ := by
  induction xs generalizing b with
  | nil => simp
  | cons x xs ih =>
    rw [List.map_cons, List.foldl_cons, ih]
    congr 1
    apply Array.ext'
    simp [ByteArray.push]
theorem run_convS {src td e : TypeId} {A : Option Addr} {n c : Nat} {xs : List UInt8} (hr : Rd w A (bs xs)) (hn : xs.length = n)
    (hs : P.underlying src = some (.slice e)) (he : P.underlying e = some (.int .u8)) (hd : P.underlying td = some .string) : (convert src td (.slice A n c)).run P w = .ok (.string (strL xs)) w := by
  cases A with
  | none =>
    have hx : xs = [] := by
      cases xs with
      | nil => rfl
      | cons x l => obtain ⟨ad, h, _⟩ := hr 0 _ rfl; cases h
    subst hx
    subst hn
    exact run_convert_bytes_nil w src e hs he _ c td hd
  | some ad =>
    have hl : (loadCells ad n).run P w = .ok ((xs.map fun x => (x.toNat : Int)).map (Value.int .u8)).toArray w := by
      have h := run_loadCells_list (P := P) w ad (bs xs) (fun j v hv => by
        obtain ⟨ad', e1, e2⟩ := hr j v hv
        injection e1 with e1
        subst e1
        exact e2)
      rw [bs_length, hn] at h
      rw [h, List.map_map]
      rfl
    rw [run_convert_bytes_string w src td e ad n c hs he hd, run_bytesToString w ad n c _ hl, foldl_push]
    simp [strL]
theorem wpl_conv {src td e : TypeId} {x : Operand} {A : Option Addr} {n c : Nat} {xs : List UInt8} (hx : a.eval x = .slice A n c) (hr : HR w A (bs xs)) (hn : xs.length = n)
    (hs : P.underlying src = some (.slice e)) (he : P.underlying e = some (.int .u8)) (hd : P.underlying td = some .string)
    (h : wpList P ops Q rest (a.put dst (.string (strL xs))) w) : wpList P ops Q (⟨dst, .convert src td x, ty, pos, after, none⟩ :: rest) a w :=
  wpl_of_run rfl (by
    show ((convert src td (a.eval x)) >>= fun v => pure (Next.value v)).run P w = _
    rw [hx, Sem.run_bind, run_convS hr.out hn hs he hd]
    rfl) h
end
end Go.Proofs.YtmnapacibpnodaaGreat
end
section
open Go Go.RowKit
namespace Go.Proofs.YtmnapacibpnodaaGreat
def repL (u n : ByteArray) (h : H32) (c k : Int) : List Value := .string u :: .string n :: (bs h.l ++ [.int .i64 c, .int .i64 k])
theorem repL_len (u n : ByteArray) (h : H32) (c k : Int) : (repL u n h c k).toArray.size = 36 := by
  show (repL u n h c k).length = 36
  simp [repL, bs_length]
theorem rep_sum (u n : ByteArray) (h : H32) (c k : Int) : ((repL u n h c k).toArray.toList.drop 2).take 32 = bs h.l := by
  show (bs h.l ++ [Value.int .i64 c, .int .i64 k]).take 32 = bs h.l
  rw [List.take_left' (bs32 h)]
theorem repL_one (u n : ByteArray) (h : H32) (c k : Int) : (repL u n h c k).toArray.all (·.oneCell') = true := by
  rw [Array.all_eq_true_iff_forall_mem]
  intro x hx
  have hx' : x ∈ repL u n h c k := by simpa using hx
  rcases List.mem_cons.1 hx' with rfl | hx'
  · rfl
  rcases List.mem_cons.1 hx' with rfl | hx'
  · rfl
  rcases List.mem_append.1 hx' with hx' | hx'
  · exact bs_one h.l x hx'
  · simp only [List.mem_cons, List.not_mem_nil, or_false] at hx'
    rcases hx' with rfl | rfl <;> rfl
theorem rep_at0 (u n : ByteArray) (h : H32) (c k : Int) : nth (repL u n h c k).toArray.toList 0 = some (.string u) := rfl
theorem rep_at1 (u n : ByteArray) (h : H32) (c k : Int) : nth (repL u n h c k).toArray.toList 1 = some (.string n) := rfl
theorem rep_at34 (u n : ByteArray) (h : H32) (c k : Int) : nth (repL u n h c k).toArray.toList 34 = some (.int .i64 c) := by
  rw [← nth_get]
  show (bs h.l ++ [Value.int .i64 c, .int .i64 k])[32]? = _
  rw [List.getElem?_append_right (by rw [bs32]; exact Nat.le_refl _), bs32]
  rfl
theorem rep_at35 (u n : ByteArray) (h : H32) (c k : Int) : nth (repL u n h c k).toArray.toList 35 = some (.int .i64 k) := by
  rw [← nth_get]
  show (bs h.l ++ [Value.int .i64 c, .int .i64 k])[33]? = _
  rw [List.getElem?_append_right (by rw [bs32]; decide), bs32]
  rfl
instance rowWuR : RowT Tryz.prog 43 36 := ⟨by kernel_rfl, _, Tryz.underlying43, rfl⟩
theorem toL {s : ByteArray} {l : List UInt8} (hs : s.data.toList = l) : s.toList = l := by
  subst hs
  exact strL_list s.data.toList
def nameE (l : List UInt8) : Bool := l.isEmpty || nameL l
set_option maxRecDepth 100000 in
theorem nameE_calls (s : ByteArray) (l : List UInt8) (hs : s.data.toList = l) (w : World) :
    Calls Tryz.prog 68 #[.string s] w fun e w' => e = .returned (.bool (nameE l)) ∧ Step nowhere w w' := by
  have hE : s.toList.isEmpty = l.isEmpty := by rw [toL hs]
  unfold nameE
  cases he : l.isEmpty
  case true =>
    rw [he] at hE
    rw [show (true || nameL l) = true from rfl]
    go_enter Tryz.func68, Tryz.ntmps68
    go_wp2_with fail
    go_ret
    first
      | exact ⟨rfl, stepN⟩
      | exact ⟨by simp [hE], stepN⟩
  case false =>
    rw [he] at hE
    rw [show (false || nameL l) = nameL l from rfl]
    go_enter Tryz.func68, Tryz.ntmps68
    go_wp2_with fail
    refine (wname_calls s l hs _).mono ?_
    rintro e w5 ⟨rfl, _⟩
    go_wp2_with fail
    go_ret
    exact ⟨rfl, stepN⟩
def repB (l m : List UInt8) (c k : Int) : Bool := nameL l && nameE m && numB c && numB k
set_option maxRecDepth 100000 in
set_option maxHeartbeats 800000 in
theorem isReport_calls (u n : ByteArray) (h : H32) (c k : Int) (l m : List UInt8) (hl : u.data.toList = l) (hm : n.data.toList = m) (w : World) :
    Calls Tryz.prog 43 #[.agg (repL u n h c k).toArray] w fun e w' => e = .returned (.bool (repB l m c k)) ∧ Step nowhere w w' := by
  have hlen := repL_len u n h c k
  have hone := repL_one u n h c k
  unfold repB
  cases h1 : nameL l
  case false =>
    rw [show (false && nameE m && numB c && numB k) = false by simp]
    go_enter Tryz.func43, Tryz.ntmps43
    go_wp2_with (first | ((with_reducible apply (stop_dst (dst := some 4))); (with_reducible apply wpl_loadcellN); (exact rfl); infer_instance; (exact rep_at0 _ _ _ _ _)) | ((with_reducible apply (wpl_box_agg (dst := some 1))); (exact rfl); intro zt wzt _ _ _))
    refine (wname_calls u l hl _).mono ?_
    rw [h1]
    rintro e w5 ⟨rfl, _⟩
    go_wp2_with (first | go_skip)
    go_ret
    exact ⟨rfl, stepN⟩
  case true =>
    cases h2 : nameE m
    case false =>
      rw [show (true && false && numB c && numB k) = false by simp]
      go_enter Tryz.func43, Tryz.ntmps43
      go_wp2_with (first | ((with_reducible apply (stop_dst (dst := some 4))); (with_reducible apply wpl_loadcellN); (exact rfl); infer_instance; (exact rep_at0 _ _ _ _ _)) | ((with_reducible apply (wpl_box_agg (dst := some 1))); (exact rfl); intro zt wzt _ _ _))
      refine (wname_calls u l hl _).mono ?_
      rw [h1]
      rintro e w5 ⟨rfl, _⟩
      go_wp2_with (first | ((with_reducible apply (wpl_guard (op := .load _ _))); (exact rfl)) | ((with_reducible apply (stop_dst (dst := some 8))); (with_reducible apply wpl_loadcellN); (exact rfl); infer_instance; (exact rep_at1 _ _ _ _ _)) | ((with_reducible apply (wpl_guard (op := .fieldAddr _ _ _))); (exact rfl)))
      refine (nameE_calls n m hm _).mono ?_
      rw [h2]
      rintro e w6 ⟨rfl, _⟩
      go_wp2_with (first | go_skip)
      go_ret
      exact ⟨rfl, stepN⟩
    case true =>
      cases h3 : numB c
      case false =>
        rw [show (true && true && false && numB k) = false by simp]
        go_enter Tryz.func43, Tryz.ntmps43
        go_wp2_with (first | ((with_reducible apply (stop_dst (dst := some 4))); (with_reducible apply wpl_loadcellN); (exact rfl); infer_instance; (exact rep_at0 _ _ _ _ _)) | ((with_reducible apply (wpl_box_agg (dst := some 1))); (exact rfl); intro zt wzt _ _ _))
        refine (wname_calls u l hl _).mono ?_
        rw [h1]
        rintro e w5 ⟨rfl, _⟩
        go_wp2_with (first | ((with_reducible apply (wpl_guard (op := .load _ _))); (exact rfl)) | ((with_reducible apply (stop_dst (dst := some 8))); (with_reducible apply wpl_loadcellN); (exact rfl); infer_instance; (exact rep_at1 _ _ _ _ _)) | ((with_reducible apply (wpl_guard (op := .fieldAddr _ _ _))); (exact rfl)))
        refine (nameE_calls n m hm _).mono ?_
        rw [h2]
        rintro e w6 ⟨rfl, _⟩
        go_wp2_with (first | ((with_reducible apply (wpl_guard (op := .load _ _))); (exact rfl)) | ((with_reducible apply (stop_dst (dst := some 13))); (with_reducible apply wpl_loadcellN); (exact rfl); infer_instance; (exact rep_at34 _ _ _ _ _)) | ((with_reducible apply (wpl_guard (op := .fieldAddr _ _ _))); (exact rfl)))
        refine (number_calls c _).mono ?_
        rw [h3]
        rintro e w7 ⟨rfl, _⟩
        go_wp2_with (first | go_skip)
        go_ret
        exact ⟨rfl, stepN⟩
      case true =>
        rw [show (true && true && true && numB k) = numB k by simp]
        go_enter Tryz.func43, Tryz.ntmps43
        go_wp2_with (first | ((with_reducible apply (stop_dst (dst := some 4))); (with_reducible apply wpl_loadcellN); (exact rfl); infer_instance; (exact rep_at0 _ _ _ _ _)) | ((with_reducible apply (wpl_box_agg (dst := some 1))); (exact rfl); intro zt wzt _ _ _))
        refine (wname_calls u l hl _).mono ?_
        rw [h1]
        rintro e w5 ⟨rfl, _⟩
        go_wp2_with (first | ((with_reducible apply (wpl_guard (op := .load _ _))); (exact rfl)) | ((with_reducible apply (stop_dst (dst := some 8))); (with_reducible apply wpl_loadcellN); (exact rfl); infer_instance; (exact rep_at1 _ _ _ _ _)) | ((with_reducible apply (wpl_guard (op := .fieldAddr _ _ _))); (exact rfl)))
        refine (nameE_calls n m hm _).mono ?_
        rw [h2]
        rintro e w6 ⟨rfl, _⟩
        go_wp2_with (first | ((with_reducible apply (wpl_guard (op := .load _ _))); (exact rfl)) | ((with_reducible apply (stop_dst (dst := some 13))); (with_reducible apply wpl_loadcellN); (exact rfl); infer_instance; (exact rep_at34 _ _ _ _ _)) | ((with_reducible apply (wpl_guard (op := .fieldAddr _ _ _))); (exact rfl)))
        refine (number_calls c _).mono ?_
        rw [h3]
        rintro e w7 ⟨rfl, _⟩
        go_wp2_with (first | ((with_reducible apply (wpl_guard (op := .load _ _))); (exact rfl)) | ((with_reducible apply (stop_dst (dst := some 18))); (with_reducible apply wpl_loadcellN); (exact rfl); infer_instance; (exact rep_at35 _ _ _ _ _)) | ((with_reducible apply (wpl_guard (op := .fieldAddr _ _ _))); (exact rfl)))
        refine (number_calls k _).mono ?_
        rintro e w8 ⟨rfl, _⟩
        go_wp2_with fail
        go_ret
        exact ⟨rfl, stepN⟩
theorem run_fld4 (f1 f2 f3 f4 : FuncId) (c1 c2 c3 c4 : Array Value) (w : World) : (Instr.buildSlice 214 4 #[(0, .func (.func f1) #[] c1), (1, .func (.func f2) #[] c2), (2, .func (.func f3) #[] c3), (3, .func (.func f4) #[] c4)]).run Tryz.prog w = .ok (.slice (some ⟨w.heap.size, 0, none⟩) 4 4) (w.alloc (.cells #[.func (.func f1) #[] c1, .func (.func f2) #[] c2, .func (.func f3) #[] c3, .func (.func f4) #[] c4] 189)) := by kernel_rfl
/-- four fields, one behind the other -/
theorem fields4 {z c : Nat} {f1 f2 f3 f4 : FuncId} {c1 c2 c3 c4 : Array Value} {T1 T2 T3 T4 : Nat → Prop} {y1 y2 y3 y4 : List UInt8} {w : World} {t : TypeId} [h : HB w z t #[.func (.func f1) #[] c1, .func (.func f2) #[] c2, .func (.func f3) #[] c3, .func (.func f4) #[] c4]]
    (h1 : Lays w T1 (.func (.func f1) #[] c1) y1) (h2 : Lays w T2 (.func (.func f2) #[] c2) y2) (h3 : Lays w T3 (.func (.func f3) #[] c3) y3) (h4 : Lays w T4 (.func (.func f4) #[] c4) y4) :
    Calls Tryz.prog 120 #[.slice (some ⟨z, 0, none⟩) 4 c] w fun e w' => ∃ f caps T, e = .returned (.func (.func f) #[] caps) ∧ Step nowhere w w' ∧ Lays w' T (.func (.func f) #[] caps) (y1 ++ (y2 ++ (y3 ++ y4))) ∧ ∀ x, T x → w.heap.size ≤ x ∨ x = z ∨ T1 x ∨ T2 x ∨ T3 x ∨ T4 x := by
  have hr := h.rdL
  refine (fields_calls (A2 := some ⟨z, 0, none⟩) (c := c) (l := [⟨_, T1, y1⟩, ⟨_, T2, y2⟩, ⟨_, T3, y3⟩, ⟨_, T4, y4⟩]) hr rfl (show 4 ≤ 1000000000 by decide) ?_).mono ?_
  · intro f hf
    simp only [List.mem_cons, List.not_mem_nil, or_false] at hf
    rcases hf with rfl | rfl | rfl | rfl
    · exact h1
    · exact h2
    · exact h3
    · exact h4
  · rintro e w' ⟨f, caps, T, rfl, hs, hL, hT⟩
    refine ⟨f, caps, T, rfl, hs, ?_, fun x hx => ?_⟩
    · have e2 : allYs [⟨Value.func (.func f1) #[] c1, T1, y1⟩, ⟨Value.func (.func f2) #[] c2, T2, y2⟩, ⟨Value.func (.func f3) #[] c3, T3, y3⟩, ⟨Value.func (.func f4) #[] c4, T4, y4⟩] = y1 ++ (y2 ++ (y3 ++ y4)) := by simp [allYs]
      rwa [e2] at hL
    · rcases hT x hx with h | ⟨_, ad, e, hk⟩ | ⟨f, hf, hk⟩
      · exact .inl h
      · injection e with e
        subst e
        exact .inr (.inl hk.symm)
      · simp only [List.mem_cons, List.not_mem_nil, or_false] at hf
        rcases hf with rfl | rfl | rfl | rfl
        · exact .inr (.inr (.inl hk))
        · exact .inr (.inr (.inr (.inl hk)))
        · exact .inr (.inr (.inr (.inr (.inl hk))))
        · exact .inr (.inr (.inr (.inr (.inr hk))))
end Go.Proofs.YtmnapacibpnodaaGreat
end
section
open Go Go.RowKit
namespace Go.Proofs.YtmnapacibpnodaaGreat
theorem nameL_le {l : List UInt8} (h : nameL l = true) : l.length ≤ 12 := by
  unfold nameL at h
  simp only [Bool.and_eq_true, decide_eq_true_eq] at h
  exact h.1.2
theorem nameE_le {l : List UInt8} (h : nameE l = true) : l.length ≤ 12 := by
  unfold nameE at h
  rw [Bool.or_eq_true] at h
  rcases h with h | h
  · rw [List.isEmpty_iff.1 h]
    decide
  · exact nameL_le h
end Go.Proofs.YtmnapacibpnodaaGreat
end
