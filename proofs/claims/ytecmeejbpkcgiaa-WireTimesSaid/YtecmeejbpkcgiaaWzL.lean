/- The law WireTimes. -/
import Derived.Test.YtecmeejbpkcgiaaWzE
import Derived.Test.YtecmeejbpkcgiaaWyQ
import Derived.Test.YtecmeejbpkcgiaaWnB
open Go Go.RowKit
namespace Go.Proofs.Ytecmeejbpkcgiaa
theorem eql_of_neq {P : Program} {t : TypeId} {xs ys : Array Value} {b : Bool} {w : World} (h : (binOp .neq t (.agg xs) (.agg ys)).run P w = .ok (.bool (!b)) w) : (binOp .eql t (.agg xs) (.agg ys)).run P w = .ok (.bool b) w := by
  rw [run_neq_struct] at h
  rw [run_eql_struct]
  generalize (Op.equalIn 10000 t (.agg xs) (.agg ys)).run P w = r at h
  cases r with
  | ok b' w' =>
    simp only [Result.andThen] at h ⊢
    injection h with h1 h2
    injection h1 with h1
    subst h2
    cases b <;> cases b' <;> simp_all
  | _ => simp [Result.andThen] at h
theorem EncPost.uniW {ok : Bool} {bytes : List UInt8} {w w' : World} {e : Ending} (h : EncPost ok bytes w e w') :
    Step nowhere w w' ∧ ∃ A n c, e = .returned (.tuple #[.slice A n c, .int .i64 (if ok then 0 else 1)]) ∧ (if ok then bytes else []).length = n ∧ HR w' A (bs (if ok then bytes else [])) := by
  obtain ⟨hs, h⟩ := h
  refine ⟨hs, ?_⟩
  cases ok with
  | false =>
    obtain rfl : e = _ := h
    exact ⟨none, 0, 0, rfl, rfl, HR.nilB w'⟩
  | true =>
    obtain ⟨A, n, c, rfl, hn, hO, _⟩ := h
    exact ⟨A, n, c, rfl, hn.symm, ⟨hO.out.rd⟩⟩
/-- what a decoded time is, whether or not it was one -/
def tmV (b : List UInt8) : Array Value := if tOk b then timD b else (timL 0 0 0 zeroH).toArray
def rpV (b : List UInt8) : Array Value := if rOk b then repD b else (repL ⟨#[]⟩ ⟨#[]⟩ zeroH 0 0).toArray
theorem tmV_len (b : List UInt8) : (tmV b).size = 35 := by
  unfold tmV
  split
  · exact timL_len _ _ _ _
  · exact timL_len _ _ _ _
theorem tmV_one (b : List UInt8) : (tmV b).all (·.oneCell') = true := by
  unfold tmV
  split
  · exact timL_one _ _ _ _
  · exact timL_one _ _ _ _
theorem rpV_len (b : List UInt8) : (rpV b).size = 36 := by
  unfold rpV
  split
  · exact repL_len _ _ _ _ _
  · exact repL_len _ _ _ _ _
theorem rpV_one (b : List UInt8) : (rpV b).all (·.oneCell') = true := by
  unfold rpV
  split
  · exact repL_one _ _ _ _ _
  · exact repL_one _ _ _ _ _
theorem tmV_eql (b : List UInt8) (w : World) : (binOp .eql 45 (.agg (tmV b)) (.agg (tmV b))).run Try.prog w = .ok (.bool true) w := by
  have hs : ∀ a : TimR, tmB a a = true := fun a => by simp [tmB]
  have h : ∀ a : TimR, (binOp .eql 45 (.agg a.arr) (.agg a.arr)).run Try.prog w = .ok (.bool true) w := fun a => eql_of_neq (by
    have h1 := neqTim a a w
    rwa [hs] at h1)
  unfold tmV
  split
  · exact h ⟨tV (kindS 2 b), tE (kindS 2 b), tS (kindS 2 b), tH (kindS 2 b)⟩
  · exact h ⟨0, 0, 0, zeroH⟩
theorem rpV_eql (b : List UInt8) (w : World) : (binOp .eql 47 (.agg (rpV b)) (.agg (rpV b))).run Try.prog w = .ok (.bool true) w := by
  have hs : ∀ a : RepR, rpB a a = true := fun a => by simp [rpB]
  have h : ∀ a : RepR, (binOp .eql 47 (.agg a.arr) (.agg a.arr)).run Try.prog w = .ok (.bool true) w := fun a => eql_of_neq (by
    have h1 := neqRep a a w
    rwa [hs] at h1)
  unfold rpV
  split
  · exact h ⟨strL (rU (kindS 5 b)), strL (rN (kindS 5 b)), rH (kindS 5 b), rC (kindS 5 b), rK (kindS 5 b)⟩
  · exact h ⟨⟨#[]⟩, ⟨#[]⟩, zeroH, 0, 0⟩
theorem DecT.uni {b : List UInt8} {w w' : World} {e : Ending} (h : DecT b w e w') : Step nowhere w w' ∧ e = .returned (.tuple #[.agg (tmV b), .int .i64 (if tOk b then 0 else 2)]) := by
  obtain ⟨hs, rfl⟩ := h
  refine ⟨hs, ?_⟩
  unfold tmV
  cases tOk b <;> rfl
theorem DecR.uni {b : List UInt8} {w w' : World} {e : Ending} (h : DecR b w e w') : Step nowhere w w' ∧ e = .returned (.tuple #[.agg (rpV b), .int .i64 (if rOk b then 0 else 2)]) := by
  obtain ⟨hs, rfl⟩ := h
  refine ⟨hs, ?_⟩
  unfold rpV
  cases rOk b <;> rfl
instance factNilW : Fact' (([] : List UInt8).length ≤ maxLen) := ⟨Nat.zero_le _⟩
theorem run_emptyBW (w : World) : (Instr.buildSlice 28 0 #[]).run Try.prog w = .ok (.slice (some ⟨w.heap.size, 0, none⟩) 0 0) (w.alloc (.cells (u8s []) 5)) := by kernel_rfl
set_option maxRecDepth 100000 in
set_option maxHeartbeats 3200000 in
theorem wireTimes_calls (v e0 s : Int) (h1 : H32) (u n : ByteArray) (h2 : H32) (c k : Int) {A : Option Addr} {q d : Nat} {b : List UInt8} (hu : u.size ≤ 9223372036854775807) (hn : n.size ≤ 9223372036854775807) {w : World} [hr : HR w A (bs b)] (hl : b.length = q) (hcap : q ≤ d) (hq9 : q ≤ 9223372036854775807) :
    Calls Try.prog 4 #[.agg (timL v e0 s h1).toArray, .agg (repL u n h2 c k).toArray, .slice A q d] w fun e w' => e = .returned (.bool true) ∧ Chg nowhere w w' := by
  have hlt := timL_len v e0 s h1
  have hlr := repL_len u n h2 c k
  have hot := timL_one v e0 s h1
  have hor := repL_one u n h2 c k
  have HLE := Lib.hid hl
  have HRR := Lib.hid hr.out
  obtain ⟨Y1, hY1⟩ : ∃ Y, Y = if timB v e0 s then encAll [2] ++ (encAll [v, e0, s] ++ h1.l) else [] := ⟨_, rfl⟩
  obtain ⟨E1, hE1⟩ : ∃ E : Int, E = if timB v e0 s then 0 else 1 := ⟨_, rfl⟩
  obtain ⟨Y2, hY2⟩ : ∃ Y, Y = if repB u.data.toList n.data.toList c k then encAll [5] ++ (encRow u.data.toList ++ (encRow n.data.toList ++ (h2.l ++ encAll [c, k]))) else [] := ⟨_, rfl⟩
  obtain ⟨E2, hE2⟩ : ∃ E : Int, E = if repB u.data.toList n.data.toList c k then 0 else 1 := ⟨_, rfl⟩
  obtain ⟨T, hT⟩ : ∃ T, T = tmV b := ⟨_, rfl⟩
  obtain ⟨F1, hF1⟩ : ∃ E : Int, E = if tOk b then 0 else 2 := ⟨_, rfl⟩
  obtain ⟨R, hRv⟩ : ∃ T, T = rpV b := ⟨_, rfl⟩
  obtain ⟨F2, hF2⟩ : ∃ E : Int, E = if rOk b then 0 else 2 := ⟨_, rfl⟩
  have hY1' : Y1 = if timB v e0 s then encAll [2, v, e0, s] ++ h1.l else [] := by
    rw [hY1]
    have e1 : encAll [2, v, e0, s] ++ h1.l = encAll [2] ++ (encAll [v, e0, s] ++ h1.l) := by simp [encAll]
    rw [e1]
  have tl : T.size = 35 := by rw [hT]; exact tmV_len b
  have to : T.all (·.oneCell') = true := by rw [hT]; exact tmV_one b
  have te : ∀ w, (binOp .eql 45 (.agg T) (.agg T)).run Try.prog w = .ok (.bool true) w := fun w => by rw [hT]; exact tmV_eql b w
  have rl : R.size = 36 := by rw [hRv]; exact rpV_len b
  have ro : R.all (·.oneCell') = true := by rw [hRv]; exact rpV_one b
  have re : ∀ w, (binOp .eql 47 (.agg R) (.agg R)).run Try.prog w = .ok (.bool true) w := fun w => by rw [hRv]; exact rpV_eql b w
  have HY1 := Lib.hid hY1
  have HY1' := Lib.hid hY1'
  have HE1 := Lib.hid hE1
  have HY2 := Lib.hid hY2
  have HE2 := Lib.hid hE2
  have HT := Lib.hid hT
  have HF1 := Lib.hid hF1
  have HRV := Lib.hid hRv
  have HF2 := Lib.hid hF2
  have TE := Lib.hid te
  have RE := Lib.hid re
  clear hY1 hY1' hE1 hY2 hE2 hT hF1 hRv hF2 te re hl
  by_cases c0 : 500 < q
  · have c1 : 500 < (q : Int) := by omega
    go_enter Try.func4, Try.ntmps4
    go_wp2_with (first | go_skip | ((with_reducible apply (wpl_alloc (dst := some 3))); intro zt wzt _ _ _) | ((with_reducible apply (wpl_box_agg (dst := some 3))); (exact rfl); intro zt wzt _ _ _) | ((with_reducible apply (wpl_box_int (dst := some 3))); (exact rfl); intro zt wzt _ _ _) | ((with_reducible apply (wpl_box_slice (dst := some 3))); (exact rfl); intro zt wzt _ _ _) | ((with_reducible apply (wpl_box_str (dst := some 3))); (exact rfl); intro zt wzt _ _ _) | ((with_reducible apply (wpl_box_bool (dst := some 3))); (exact rfl); intro zt wzt _ _ _) | ((with_reducible apply (wpl_box_ptr (dst := some 3))); (exact rfl); intro zt wzt _ _ _) | ((with_reducible apply (wpl_alloc (dst := some 4))); intro zp wzp _ _ _) | ((with_reducible apply (wpl_box_agg (dst := some 4))); (exact rfl); intro zp wzp _ _ _) | ((with_reducible apply (wpl_box_int (dst := some 4))); (exact rfl); intro zp wzp _ _ _) | ((with_reducible apply (wpl_box_slice (dst := some 4))); (exact rfl); intro zp wzp _ _ _) | ((with_reducible apply (wpl_box_str (dst := some 4))); (exact rfl); intro zp wzp _ _ _) | ((with_reducible apply (wpl_box_bool (dst := some 4))); (exact rfl); intro zp wzp _ _ _) | ((with_reducible apply (wpl_box_ptr (dst := some 4))); (exact rfl); intro zp wzp _ _ _) | ((with_reducible apply wpl_alloc); intro z wz _ _ _) | ((with_reducible apply wpl_box_agg); (exact rfl); intro z wz _ _ _) | ((with_reducible apply wpl_box_int); (exact rfl); intro z wz _ _ _) | ((with_reducible apply wpl_box_slice); (exact rfl); intro z wz _ _ _) | ((with_reducible apply wpl_box_str); (exact rfl); intro z wz _ _ _) | ((with_reducible apply wpl_box_bool); (exact rfl); intro z wz _ _ _) | ((with_reducible apply wpl_box_ptr); (exact rfl); intro z wz _ _ _) | ((with_reducible apply (wpl_guard (op := .load _ _))); (exact rfl)) | ((with_reducible apply (wpl_guard (op := .fieldAddr _ _ _))); (exact rfl)) | ((with_reducible apply (wpl_guard (op := .convert _ _ _))); (exact rfl)) | ((with_reducible apply wpl_loadrow); (exact rfl); (exact inferInstance); (exact inferInstance); (first | (with_reducible assumption) | (with_reducible exact H32.size _) | kernel_rfl)) | ((with_reducible apply wpl_loadcellN); (exact rfl); (exact inferInstance); (exact rfl)) | ((with_reducible apply wpl_storerow); (exact rfl); (exact rfl); (exact inferInstance); (exact inferInstance); (first | (with_reducible assumption) | (with_reducible exact H32.size _) | kernel_rfl); (first | (with_reducible assumption) | (with_reducible exact H32.size _) | kernel_rfl); (first | (with_reducible exact u8s_one _) | (with_reducible assumption) | kernel_rfl); intro ws _ _) | ((with_reducible apply wpl_storecell); (exact rfl); (exact rfl); (exact inferInstance); (exact rfl); (first | (with_reducible assumption) | omega | (focus (simp; done)) | (focus (simp; omega; done)) | decide); intro ws _ _))
    go_ret
    exact ⟨rfl, (stepN (w0 := w)).chg⟩
  · have c1 : ¬ 500 < (q : Int) := by omega
    by_cases c2 : 200 < wrap64 ((u.size : Int) + (n.size : Int))
    · go_enter Try.func4, Try.ntmps4
      go_wp2_with (first | go_skip | ((with_reducible apply (wpl_guard (op := .load _ _))); (exact rfl)) | ((with_reducible apply (stop_dst (dst := some 28))); (with_reducible apply wpl_loadcellN); (exact rfl); (exact inferInstance); (exact rep_at0 _ _ _ _ _)) | ((with_reducible apply (stop_dst (dst := some 31))); (with_reducible apply wpl_loadcellN); (exact rfl); (exact inferInstance); (exact rep_at1 _ _ _ _ _)) | ((with_reducible apply (wpl_alloc (dst := some 3))); intro zt wzt _ _ _) | ((with_reducible apply (wpl_box_agg (dst := some 3))); (exact rfl); intro zt wzt _ _ _) | ((with_reducible apply (wpl_box_int (dst := some 3))); (exact rfl); intro zt wzt _ _ _) | ((with_reducible apply (wpl_box_slice (dst := some 3))); (exact rfl); intro zt wzt _ _ _) | ((with_reducible apply (wpl_box_str (dst := some 3))); (exact rfl); intro zt wzt _ _ _) | ((with_reducible apply (wpl_box_bool (dst := some 3))); (exact rfl); intro zt wzt _ _ _) | ((with_reducible apply (wpl_box_ptr (dst := some 3))); (exact rfl); intro zt wzt _ _ _) | ((with_reducible apply (wpl_alloc (dst := some 4))); intro zp wzp _ _ _) | ((with_reducible apply (wpl_box_agg (dst := some 4))); (exact rfl); intro zp wzp _ _ _) | ((with_reducible apply (wpl_box_int (dst := some 4))); (exact rfl); intro zp wzp _ _ _) | ((with_reducible apply (wpl_box_slice (dst := some 4))); (exact rfl); intro zp wzp _ _ _) | ((with_reducible apply (wpl_box_str (dst := some 4))); (exact rfl); intro zp wzp _ _ _) | ((with_reducible apply (wpl_box_bool (dst := some 4))); (exact rfl); intro zp wzp _ _ _) | ((with_reducible apply (wpl_box_ptr (dst := some 4))); (exact rfl); intro zp wzp _ _ _) | ((with_reducible apply wpl_alloc); intro z wz _ _ _) | ((with_reducible apply wpl_box_agg); (exact rfl); intro z wz _ _ _) | ((with_reducible apply wpl_box_int); (exact rfl); intro z wz _ _ _) | ((with_reducible apply wpl_box_slice); (exact rfl); intro z wz _ _ _) | ((with_reducible apply wpl_box_str); (exact rfl); intro z wz _ _ _) | ((with_reducible apply wpl_box_bool); (exact rfl); intro z wz _ _ _) | ((with_reducible apply wpl_box_ptr); (exact rfl); intro z wz _ _ _) | ((with_reducible apply (wpl_guard (op := .load _ _))); (exact rfl)) | ((with_reducible apply (wpl_guard (op := .fieldAddr _ _ _))); (exact rfl)) | ((with_reducible apply (wpl_guard (op := .convert _ _ _))); (exact rfl)) | ((with_reducible apply wpl_loadrow); (exact rfl); (exact inferInstance); (exact inferInstance); (first | (with_reducible assumption) | (with_reducible exact H32.size _) | kernel_rfl)) | ((with_reducible apply wpl_loadcellN); (exact rfl); (exact inferInstance); (exact rfl)) | ((with_reducible apply wpl_storerow); (exact rfl); (exact rfl); (exact inferInstance); (exact inferInstance); (first | (with_reducible assumption) | (with_reducible exact H32.size _) | kernel_rfl); (first | (with_reducible assumption) | (with_reducible exact H32.size _) | kernel_rfl); (first | (with_reducible exact u8s_one _) | (with_reducible assumption) | kernel_rfl); intro ws _ _) | ((with_reducible apply wpl_storecell); (exact rfl); (exact rfl); (exact inferInstance); (exact rfl); (first | (with_reducible assumption) | omega | (focus (simp; done)) | (focus (simp; omega; done)) | decide); intro ws _ _))
      go_ret
      exact ⟨rfl, (stepN (w0 := w)).chg⟩
    · go_enter Try.func4, Try.ntmps4
      go_wp2_with (first | go_skip | ((with_reducible apply (wpl_guard (op := .load _ _))); (exact rfl)) | ((with_reducible apply (stop_dst (dst := some 28))); (with_reducible apply wpl_loadcellN); (exact rfl); (exact inferInstance); (exact rep_at0 _ _ _ _ _)) | ((with_reducible apply (stop_dst (dst := some 31))); (with_reducible apply wpl_loadcellN); (exact rfl); (exact inferInstance); (exact rep_at1 _ _ _ _ _)) | ((with_reducible apply (wpl_alloc (dst := some 3))); intro zt wzt _ _ _) | ((with_reducible apply (wpl_box_agg (dst := some 3))); (exact rfl); intro zt wzt _ _ _) | ((with_reducible apply (wpl_box_int (dst := some 3))); (exact rfl); intro zt wzt _ _ _) | ((with_reducible apply (wpl_box_slice (dst := some 3))); (exact rfl); intro zt wzt _ _ _) | ((with_reducible apply (wpl_box_str (dst := some 3))); (exact rfl); intro zt wzt _ _ _) | ((with_reducible apply (wpl_box_bool (dst := some 3))); (exact rfl); intro zt wzt _ _ _) | ((with_reducible apply (wpl_box_ptr (dst := some 3))); (exact rfl); intro zt wzt _ _ _) | ((with_reducible apply (wpl_alloc (dst := some 4))); intro zp wzp _ _ _) | ((with_reducible apply (wpl_box_agg (dst := some 4))); (exact rfl); intro zp wzp _ _ _) | ((with_reducible apply (wpl_box_int (dst := some 4))); (exact rfl); intro zp wzp _ _ _) | ((with_reducible apply (wpl_box_slice (dst := some 4))); (exact rfl); intro zp wzp _ _ _) | ((with_reducible apply (wpl_box_str (dst := some 4))); (exact rfl); intro zp wzp _ _ _) | ((with_reducible apply (wpl_box_bool (dst := some 4))); (exact rfl); intro zp wzp _ _ _) | ((with_reducible apply (wpl_box_ptr (dst := some 4))); (exact rfl); intro zp wzp _ _ _) | ((with_reducible apply wpl_alloc); intro z wz _ _ _) | ((with_reducible apply wpl_box_agg); (exact rfl); intro z wz _ _ _) | ((with_reducible apply wpl_box_int); (exact rfl); intro z wz _ _ _) | ((with_reducible apply wpl_box_slice); (exact rfl); intro z wz _ _ _) | ((with_reducible apply wpl_box_str); (exact rfl); intro z wz _ _ _) | ((with_reducible apply wpl_box_bool); (exact rfl); intro z wz _ _ _) | ((with_reducible apply wpl_box_ptr); (exact rfl); intro z wz _ _ _) | ((with_reducible apply (wpl_guard (op := .load _ _))); (exact rfl)) | ((with_reducible apply (wpl_guard (op := .fieldAddr _ _ _))); (exact rfl)) | ((with_reducible apply (wpl_guard (op := .convert _ _ _))); (exact rfl)) | ((with_reducible apply wpl_loadrow); (exact rfl); (exact inferInstance); (exact inferInstance); (first | (with_reducible assumption) | (with_reducible exact H32.size _) | kernel_rfl)) | ((with_reducible apply wpl_loadcellN); (exact rfl); (exact inferInstance); (exact rfl)) | ((with_reducible apply wpl_storerow); (exact rfl); (exact rfl); (exact inferInstance); (exact inferInstance); (first | (with_reducible assumption) | (with_reducible exact H32.size _) | kernel_rfl); (first | (with_reducible assumption) | (with_reducible exact H32.size _) | kernel_rfl); (first | (with_reducible exact u8s_one _) | (with_reducible assumption) | kernel_rfl); intro ws _ _) | ((with_reducible apply wpl_storecell); (exact rfl); (exact rfl); (exact inferInstance); (exact rfl); (first | (with_reducible assumption) | omega | (focus (simp; done)) | (focus (simp; omega; done)) | decide); intro ws _ _))
      have hbq : b.length = q := HLE.out
      clear c2
      refine (EncodeTime_calls v e0 s h1 _).mono ?_
      rintro e w1 hp
      obtain ⟨_, A1, n1, c1', rfl, hn1, hR1⟩ := hp.uniW
      clear hp
      rw [← HY1.out] at hn1 hR1
      rw [← HE1.out]
      have HN1 := Lib.hid hn1
      clear hn1
      go_wp2_with (first | go_skip | ((with_reducible apply wpl_loadrow); (exact rfl); (exact inferInstance); (exact inferInstance); (first | (exact hlt) | (exact hlr))) | ((with_reducible apply wpl_alloc); intro z wz _ _ _) | ((with_reducible apply wpl_box_agg); (exact rfl); intro z wz _ _ _) | ((with_reducible apply wpl_box_int); (exact rfl); intro z wz _ _ _) | ((with_reducible apply wpl_box_slice); (exact rfl); intro z wz _ _ _) | ((with_reducible apply wpl_box_str); (exact rfl); intro z wz _ _ _) | ((with_reducible apply wpl_box_bool); (exact rfl); intro z wz _ _ _) | ((with_reducible apply wpl_box_ptr); (exact rfl); intro z wz _ _ _) | ((with_reducible apply (wpl_guard (op := .load _ _))); (exact rfl)) | ((with_reducible apply (wpl_guard (op := .fieldAddr _ _ _))); (exact rfl)) | ((with_reducible apply (wpl_guard (op := .convert _ _ _))); (exact rfl)) | ((with_reducible apply wpl_loadrow); (exact rfl); (exact inferInstance); (exact inferInstance); (first | (with_reducible assumption) | (with_reducible exact H32.size _) | kernel_rfl)) | ((with_reducible apply wpl_loadcellN); (exact rfl); (exact inferInstance); (exact rfl)) | ((with_reducible apply wpl_storerow); (exact rfl); (exact rfl); (exact inferInstance); (exact inferInstance); (first | (with_reducible assumption) | (with_reducible exact H32.size _) | kernel_rfl); (first | (with_reducible assumption) | (with_reducible exact H32.size _) | kernel_rfl); (first | (with_reducible exact u8s_one _) | (with_reducible assumption) | kernel_rfl); intro ws _ _) | ((with_reducible apply wpl_storecell); (exact rfl); (exact rfl); (exact inferInstance); (exact rfl); (first | (with_reducible assumption) | omega | (focus (simp; done)) | (focus (simp; omega; done)) | decide); intro ws _ _))
      refine (rEncodeTime_calls v e0 s h1 _).mono ?_
      rintro e w2 hp
      obtain ⟨_, A2, n2, c2', rfl, hn2, hR2⟩ := hp.uniW
      clear hp
      rw [← HY1'.out] at hn2 hR2
      rw [← HE1.out]
      have HN2 := Lib.hid hn2
      clear hn2
      have nw2 : Nw w w2 := inferInstance
      have hp2 : HB w2 zp 47 (repL u n h2 c k).toArray := inferInstance
      have hb2 : HR w2 A (bs b) := nw2.hr HRR.out
      go_wp2_with (first | go_skip | ((with_reducible apply (stop_dst (dst := some 47))); (try simp only [Act.put, List.setIfInBounds_toArray, List.set_cons_succ, List.set_cons_zero]); ((with_reducible apply (wpl_bslice (dst := some 47))); (exact run_emptyBW _); intro zb wb _ _ _)) | ((with_reducible apply wpl_appendB); (exact rfl); (exact rfl); (exact inferInstance); (exact inferInstance); (exact inferInstance); (exact hbq); omega; intro A3 c3 wa _ hO3 _ _) | ((with_reducible apply wpl_alloc); intro z wz _ _ _) | ((with_reducible apply wpl_box_agg); (exact rfl); intro z wz _ _ _) | ((with_reducible apply wpl_box_int); (exact rfl); intro z wz _ _ _) | ((with_reducible apply wpl_box_slice); (exact rfl); intro z wz _ _ _) | ((with_reducible apply wpl_box_str); (exact rfl); intro z wz _ _ _) | ((with_reducible apply wpl_box_bool); (exact rfl); intro z wz _ _ _) | ((with_reducible apply wpl_box_ptr); (exact rfl); intro z wz _ _ _) | ((with_reducible apply (wpl_guard (op := .load _ _))); (exact rfl)) | ((with_reducible apply (wpl_guard (op := .fieldAddr _ _ _))); (exact rfl)) | ((with_reducible apply (wpl_guard (op := .convert _ _ _))); (exact rfl)) | ((with_reducible apply wpl_loadrow); (exact rfl); (exact inferInstance); (exact inferInstance); (first | (with_reducible assumption) | (with_reducible exact H32.size _) | kernel_rfl)) | ((with_reducible apply wpl_loadcellN); (exact rfl); (exact inferInstance); (exact rfl)) | ((with_reducible apply wpl_storerow); (exact rfl); (exact rfl); (exact inferInstance); (exact inferInstance); (first | (with_reducible assumption) | (with_reducible exact H32.size _) | kernel_rfl); (first | (with_reducible assumption) | (with_reducible exact H32.size _) | kernel_rfl); (first | (with_reducible exact u8s_one _) | (with_reducible assumption) | kernel_rfl); intro ws _ _) | ((with_reducible apply wpl_storecell); (exact rfl); (exact rfl); (exact inferInstance); (exact rfl); (first | (with_reducible assumption) | omega | (focus (simp; done)) | (focus (simp; omega; done)) | decide); intro ws _ _))
      have hR3 : HR wa A3 (bs b) := ⟨by
        have := hO3.out.rd
        rwa [List.nil_append] at this⟩
      clear hO3
      refine (DecodeTime_calls (b := b) (by have := HLE.out; omega) (by omega)).mono ?_
      rintro e w3 hp
      obtain ⟨_, rfl⟩ := hp.uni
      clear hp
      rw [← HT.out, ← HF1.out]
      go_wp2_with (first | go_skip | ((with_reducible apply wpl_storerow); (exact rfl); (exact rfl); (exact inferInstance); (exact inferInstance); (first | (exact tl) | (exact rl)); (first | (exact timL_len _ _ _ _) | (exact repL_len _ _ _ _ _)); (first | (exact to) | (exact ro)); intro ws _ _) | ((with_reducible apply (wpl_alloc (dst := some 11))); intro z1 wz1 _ _ _) | ((with_reducible apply (wpl_box_agg (dst := some 11))); (exact rfl); intro z1 wz1 _ _ _) | ((with_reducible apply (wpl_box_int (dst := some 11))); (exact rfl); intro z1 wz1 _ _ _) | ((with_reducible apply (wpl_box_slice (dst := some 11))); (exact rfl); intro z1 wz1 _ _ _) | ((with_reducible apply (wpl_box_str (dst := some 11))); (exact rfl); intro z1 wz1 _ _ _) | ((with_reducible apply (wpl_box_bool (dst := some 11))); (exact rfl); intro z1 wz1 _ _ _) | ((with_reducible apply (wpl_box_ptr (dst := some 11))); (exact rfl); intro z1 wz1 _ _ _) | ((with_reducible apply wpl_alloc); intro z wz _ _ _) | ((with_reducible apply wpl_box_agg); (exact rfl); intro z wz _ _ _) | ((with_reducible apply wpl_box_int); (exact rfl); intro z wz _ _ _) | ((with_reducible apply wpl_box_slice); (exact rfl); intro z wz _ _ _) | ((with_reducible apply wpl_box_str); (exact rfl); intro z wz _ _ _) | ((with_reducible apply wpl_box_bool); (exact rfl); intro z wz _ _ _) | ((with_reducible apply wpl_box_ptr); (exact rfl); intro z wz _ _ _) | ((with_reducible apply (wpl_guard (op := .load _ _))); (exact rfl)) | ((with_reducible apply (wpl_guard (op := .fieldAddr _ _ _))); (exact rfl)) | ((with_reducible apply (wpl_guard (op := .convert _ _ _))); (exact rfl)) | ((with_reducible apply wpl_loadrow); (exact rfl); (exact inferInstance); (exact inferInstance); (first | (with_reducible assumption) | (with_reducible exact H32.size _) | kernel_rfl)) | ((with_reducible apply wpl_loadcellN); (exact rfl); (exact inferInstance); (exact rfl)) | ((with_reducible apply wpl_storerow); (exact rfl); (exact rfl); (exact inferInstance); (exact inferInstance); (first | (with_reducible assumption) | (with_reducible exact H32.size _) | kernel_rfl); (first | (with_reducible assumption) | (with_reducible exact H32.size _) | kernel_rfl); (first | (with_reducible exact u8s_one _) | (with_reducible assumption) | kernel_rfl); intro ws _ _) | ((with_reducible apply wpl_storecell); (exact rfl); (exact rfl); (exact inferInstance); (exact rfl); (first | (with_reducible assumption) | omega | (focus (simp; done)) | (focus (simp; omega; done)) | decide); intro ws _ _))
      have nw4 : Nw w ws := inferInstance
      have hp4 : HB ws zp 47 (repL u n h2 c k).toArray := inferInstance
      have y14 : HR ws A1 (bs Y1) := inferInstance
      have y24 : HR ws A2 (bs Y1) := inferInstance
      have hb4 : HR ws A (bs b) := nw4.hr HRR.out
      refine (rDecodeTime_calls (b := b) HLE.out hcap (by omega)).mono ?_
      rintro e w4 hp
      obtain ⟨_, rfl⟩ := hp.uni
      clear hp
      rw [← HT.out, ← HF1.out]
      go_wp2_with (first | go_skip | ((with_reducible apply wpl_storerow); (exact rfl); (exact rfl); (exact inferInstance); (exact inferInstance); (first | (exact tl) | (exact rl)); (first | (exact timL_len _ _ _ _) | (exact repL_len _ _ _ _ _)); (first | (exact to) | (exact ro)); intro ws _ _) | ((with_reducible apply wpl_loadrow); (exact rfl); (exact inferInstance); (exact inferInstance); (first | (exact hlt) | (exact hlr))) | ((with_reducible apply (wpl_alloc (dst := some 13))); intro z2 wz2 _ _ _) | ((with_reducible apply (wpl_box_agg (dst := some 13))); (exact rfl); intro z2 wz2 _ _ _) | ((with_reducible apply (wpl_box_int (dst := some 13))); (exact rfl); intro z2 wz2 _ _ _) | ((with_reducible apply (wpl_box_slice (dst := some 13))); (exact rfl); intro z2 wz2 _ _ _) | ((with_reducible apply (wpl_box_str (dst := some 13))); (exact rfl); intro z2 wz2 _ _ _) | ((with_reducible apply (wpl_box_bool (dst := some 13))); (exact rfl); intro z2 wz2 _ _ _) | ((with_reducible apply (wpl_box_ptr (dst := some 13))); (exact rfl); intro z2 wz2 _ _ _) | ((with_reducible apply wpl_alloc); intro z wz _ _ _) | ((with_reducible apply wpl_box_agg); (exact rfl); intro z wz _ _ _) | ((with_reducible apply wpl_box_int); (exact rfl); intro z wz _ _ _) | ((with_reducible apply wpl_box_slice); (exact rfl); intro z wz _ _ _) | ((with_reducible apply wpl_box_str); (exact rfl); intro z wz _ _ _) | ((with_reducible apply wpl_box_bool); (exact rfl); intro z wz _ _ _) | ((with_reducible apply wpl_box_ptr); (exact rfl); intro z wz _ _ _) | ((with_reducible apply (wpl_guard (op := .load _ _))); (exact rfl)) | ((with_reducible apply (wpl_guard (op := .fieldAddr _ _ _))); (exact rfl)) | ((with_reducible apply (wpl_guard (op := .convert _ _ _))); (exact rfl)) | ((with_reducible apply wpl_loadrow); (exact rfl); (exact inferInstance); (exact inferInstance); (first | (with_reducible assumption) | (with_reducible exact H32.size _) | kernel_rfl)) | ((with_reducible apply wpl_loadcellN); (exact rfl); (exact inferInstance); (exact rfl)) | ((with_reducible apply wpl_storerow); (exact rfl); (exact rfl); (exact inferInstance); (exact inferInstance); (first | (with_reducible assumption) | (with_reducible exact H32.size _) | kernel_rfl); (first | (with_reducible assumption) | (with_reducible exact H32.size _) | kernel_rfl); (first | (with_reducible exact u8s_one _) | (with_reducible assumption) | kernel_rfl); intro ws _ _) | ((with_reducible apply wpl_storecell); (exact rfl); (exact rfl); (exact inferInstance); (exact rfl); (first | (with_reducible assumption) | omega | (focus (simp; done)) | (focus (simp; omega; done)) | decide); intro ws _ _))
      refine (EncodeReport_calls u n h2 c k _ _ rfl rfl _).mono ?_
      rintro e w5 hp
      obtain ⟨_, A4, n4, c4, rfl, hn4, hR4⟩ := hp.uniW
      have hp5 : HB w5 zp 47 (repL u n h2 c k).toArray := inferInstance
      clear hp
      rw [← HY2.out] at hn4 hR4
      rw [← HE2.out]
      have HN3 := Lib.hid hn4
      clear hn4
      go_wp2_with (first | go_skip | ((with_reducible apply wpl_loadrow); (exact rfl); (exact inferInstance); (exact inferInstance); (first | (exact hlt) | (exact hlr))) | ((with_reducible apply wpl_alloc); intro z wz _ _ _) | ((with_reducible apply wpl_box_agg); (exact rfl); intro z wz _ _ _) | ((with_reducible apply wpl_box_int); (exact rfl); intro z wz _ _ _) | ((with_reducible apply wpl_box_slice); (exact rfl); intro z wz _ _ _) | ((with_reducible apply wpl_box_str); (exact rfl); intro z wz _ _ _) | ((with_reducible apply wpl_box_bool); (exact rfl); intro z wz _ _ _) | ((with_reducible apply wpl_box_ptr); (exact rfl); intro z wz _ _ _) | ((with_reducible apply (wpl_guard (op := .load _ _))); (exact rfl)) | ((with_reducible apply (wpl_guard (op := .fieldAddr _ _ _))); (exact rfl)) | ((with_reducible apply (wpl_guard (op := .convert _ _ _))); (exact rfl)) | ((with_reducible apply wpl_loadrow); (exact rfl); (exact inferInstance); (exact inferInstance); (first | (with_reducible assumption) | (with_reducible exact H32.size _) | kernel_rfl)) | ((with_reducible apply wpl_loadcellN); (exact rfl); (exact inferInstance); (exact rfl)) | ((with_reducible apply wpl_storerow); (exact rfl); (exact rfl); (exact inferInstance); (exact inferInstance); (first | (with_reducible assumption) | (with_reducible exact H32.size _) | kernel_rfl); (first | (with_reducible assumption) | (with_reducible exact H32.size _) | kernel_rfl); (first | (with_reducible exact u8s_one _) | (with_reducible assumption) | kernel_rfl); intro ws _ _) | ((with_reducible apply wpl_storecell); (exact rfl); (exact rfl); (exact inferInstance); (exact rfl); (first | (with_reducible assumption) | omega | (focus (simp; done)) | (focus (simp; omega; done)) | decide); intro ws _ _))
      refine (rEncodeReport_calls u n h2 c k _ _ rfl rfl hu hn _).mono ?_
      rintro e w6 hp
      obtain ⟨_, A6, n6, c6, rfl, hn6, hR6⟩ := hp.uniW
      clear hp
      rw [← HY2.out] at hn6 hR6
      rw [← HE2.out]
      have HN4 := Lib.hid hn6
      clear hn6
      have nw6 : Nw w w6 := inferInstance
      have hb6 : HR w6 A (bs b) := nw6.hr HRR.out
      have hz1 : HB w6 z1 45 T := inferInstance
      have hz2 : HB w6 z2 45 T := inferInstance
      have hy1 : HR w6 A1 (bs Y1) := inferInstance
      have hy2 : HR w6 A2 (bs Y1) := inferInstance
      have hy3 : HR w6 A4 (bs Y2) := inferInstance
      go_wp2_with (first | go_skip | ((with_reducible apply (stop_dst (dst := some 69))); (try simp only [Act.put, List.setIfInBounds_toArray, List.set_cons_succ, List.set_cons_zero]); ((with_reducible apply (wpl_bslice (dst := some 69))); (exact run_emptyBW _); intro zb wb _ _ _)) | ((with_reducible apply wpl_appendB); (exact rfl); (exact rfl); (exact inferInstance); (exact inferInstance); (exact inferInstance); (exact hbq); omega; intro A5 c5 wq _ hO5 _ _) | ((with_reducible apply wpl_alloc); intro z wz _ _ _) | ((with_reducible apply wpl_box_agg); (exact rfl); intro z wz _ _ _) | ((with_reducible apply wpl_box_int); (exact rfl); intro z wz _ _ _) | ((with_reducible apply wpl_box_slice); (exact rfl); intro z wz _ _ _) | ((with_reducible apply wpl_box_str); (exact rfl); intro z wz _ _ _) | ((with_reducible apply wpl_box_bool); (exact rfl); intro z wz _ _ _) | ((with_reducible apply wpl_box_ptr); (exact rfl); intro z wz _ _ _) | ((with_reducible apply (wpl_guard (op := .load _ _))); (exact rfl)) | ((with_reducible apply (wpl_guard (op := .fieldAddr _ _ _))); (exact rfl)) | ((with_reducible apply (wpl_guard (op := .convert _ _ _))); (exact rfl)) | ((with_reducible apply wpl_loadrow); (exact rfl); (exact inferInstance); (exact inferInstance); (first | (with_reducible assumption) | (with_reducible exact H32.size _) | kernel_rfl)) | ((with_reducible apply wpl_loadcellN); (exact rfl); (exact inferInstance); (exact rfl)) | ((with_reducible apply wpl_storerow); (exact rfl); (exact rfl); (exact inferInstance); (exact inferInstance); (first | (with_reducible assumption) | (with_reducible exact H32.size _) | kernel_rfl); (first | (with_reducible assumption) | (with_reducible exact H32.size _) | kernel_rfl); (first | (with_reducible exact u8s_one _) | (with_reducible assumption) | kernel_rfl); intro ws _ _) | ((with_reducible apply wpl_storecell); (exact rfl); (exact rfl); (exact inferInstance); (exact rfl); (first | (with_reducible assumption) | omega | (focus (simp; done)) | (focus (simp; omega; done)) | decide); intro ws _ _))
      have hR7 : HR wq A5 (bs b) := ⟨by
        have := hO5.out.rd
        rwa [List.nil_append] at this⟩
      clear hO5
      refine (DecodeReport_calls (b := b) (by have := HLE.out; omega) (by omega)).mono ?_
      rintro e w7 hp
      obtain ⟨_, rfl⟩ := hp.uni
      clear hp
      rw [← HRV.out, ← HF2.out]
      go_wp2_with (first | go_skip | ((with_reducible apply wpl_storerow); (exact rfl); (exact rfl); (exact inferInstance); (exact inferInstance); (first | (exact tl) | (exact rl)); (first | (exact timL_len _ _ _ _) | (exact repL_len _ _ _ _ _)); (first | (exact to) | (exact ro)); intro ws _ _) | ((with_reducible apply (wpl_alloc (dst := some 19))); intro z3 wz3 _ _ _) | ((with_reducible apply (wpl_box_agg (dst := some 19))); (exact rfl); intro z3 wz3 _ _ _) | ((with_reducible apply (wpl_box_int (dst := some 19))); (exact rfl); intro z3 wz3 _ _ _) | ((with_reducible apply (wpl_box_slice (dst := some 19))); (exact rfl); intro z3 wz3 _ _ _) | ((with_reducible apply (wpl_box_str (dst := some 19))); (exact rfl); intro z3 wz3 _ _ _) | ((with_reducible apply (wpl_box_bool (dst := some 19))); (exact rfl); intro z3 wz3 _ _ _) | ((with_reducible apply (wpl_box_ptr (dst := some 19))); (exact rfl); intro z3 wz3 _ _ _) | ((with_reducible apply wpl_alloc); intro z wz _ _ _) | ((with_reducible apply wpl_box_agg); (exact rfl); intro z wz _ _ _) | ((with_reducible apply wpl_box_int); (exact rfl); intro z wz _ _ _) | ((with_reducible apply wpl_box_slice); (exact rfl); intro z wz _ _ _) | ((with_reducible apply wpl_box_str); (exact rfl); intro z wz _ _ _) | ((with_reducible apply wpl_box_bool); (exact rfl); intro z wz _ _ _) | ((with_reducible apply wpl_box_ptr); (exact rfl); intro z wz _ _ _) | ((with_reducible apply (wpl_guard (op := .load _ _))); (exact rfl)) | ((with_reducible apply (wpl_guard (op := .fieldAddr _ _ _))); (exact rfl)) | ((with_reducible apply (wpl_guard (op := .convert _ _ _))); (exact rfl)) | ((with_reducible apply wpl_loadrow); (exact rfl); (exact inferInstance); (exact inferInstance); (first | (with_reducible assumption) | (with_reducible exact H32.size _) | kernel_rfl)) | ((with_reducible apply wpl_loadcellN); (exact rfl); (exact inferInstance); (exact rfl)) | ((with_reducible apply wpl_storerow); (exact rfl); (exact rfl); (exact inferInstance); (exact inferInstance); (first | (with_reducible assumption) | (with_reducible exact H32.size _) | kernel_rfl); (first | (with_reducible assumption) | (with_reducible exact H32.size _) | kernel_rfl); (first | (with_reducible exact u8s_one _) | (with_reducible assumption) | kernel_rfl); intro ws _ _) | ((with_reducible apply wpl_storecell); (exact rfl); (exact rfl); (exact inferInstance); (exact rfl); (first | (with_reducible assumption) | omega | (focus (simp; done)) | (focus (simp; omega; done)) | decide); intro ws _ _))
      have nw8 : Nw w ws := inferInstance
      have hb8 : HR ws A (bs b) := nw8.hr HRR.out
      refine (rDecodeReport_calls (b := b) HLE.out hcap (by omega)).mono ?_
      rintro e w8 hp
      obtain ⟨_, rfl⟩ := hp.uni
      clear hp
      rw [← HRV.out, ← HF2.out]
      have hz1b : HB w8 z1 45 T := inferInstance
      have hz2b : HB w8 z2 45 T := inferInstance
      have hz3b : HB w8 z3 47 R := inferInstance
      have hy1b : HR w8 A1 (bs Y1) := inferInstance
      have hy2b : HR w8 A2 (bs Y1) := inferInstance
      have hy3b : HR w8 A4 (bs Y2) := inferInstance
      have hy4b : HR w8 A6 (bs Y2) := inferInstance
      have te := TE.out
      have re := RE.out
      have q1 : ((strL Y1).toList == (strL Y1).toList) = true := by simp
      have q2 : ((strL Y2).toList == (strL Y2).toList) = true := by simp
      go_wp2_with (first | go_skip | ((with_reducible apply wpl_storerow); (exact rfl); (exact rfl); (exact inferInstance); (exact inferInstance); (first | (exact tl) | (exact rl)); (first | (exact timL_len _ _ _ _) | (exact repL_len _ _ _ _ _)); (first | (exact to) | (exact ro)); intro ws _ _) | ((with_reducible apply (wpl_guard (op := .load _ _))); (exact rfl)) | ((with_reducible apply (wpl_guard (op := .convert _ _ _))); (exact rfl)) | ((with_reducible apply wpl_conv); (exact rfl); (exact inferInstance); (first | (exact HN1.out) | (exact HN2.out) | (exact HN3.out) | (exact HN4.out)); (exact Try.underlying28); (exact Try.underlying5); (exact Try.underlying9)) | ((with_reducible apply wpl_loadrow); (exact rfl); (exact inferInstance); (exact inferInstance); (first | (exact tl) | (exact rl))) | ((with_reducible apply (wpl_alloc (dst := some 21))); intro z4 wz4 _ _ _) | ((with_reducible apply (wpl_box_agg (dst := some 21))); (exact rfl); intro z4 wz4 _ _ _) | ((with_reducible apply (wpl_box_int (dst := some 21))); (exact rfl); intro z4 wz4 _ _ _) | ((with_reducible apply (wpl_box_slice (dst := some 21))); (exact rfl); intro z4 wz4 _ _ _) | ((with_reducible apply (wpl_box_str (dst := some 21))); (exact rfl); intro z4 wz4 _ _ _) | ((with_reducible apply (wpl_box_bool (dst := some 21))); (exact rfl); intro z4 wz4 _ _ _) | ((with_reducible apply (wpl_box_ptr (dst := some 21))); (exact rfl); intro z4 wz4 _ _ _) | ((with_reducible apply wpl_alloc); intro z wz _ _ _) | ((with_reducible apply wpl_box_agg); (exact rfl); intro z wz _ _ _) | ((with_reducible apply wpl_box_int); (exact rfl); intro z wz _ _ _) | ((with_reducible apply wpl_box_slice); (exact rfl); intro z wz _ _ _) | ((with_reducible apply wpl_box_str); (exact rfl); intro z wz _ _ _) | ((with_reducible apply wpl_box_bool); (exact rfl); intro z wz _ _ _) | ((with_reducible apply wpl_box_ptr); (exact rfl); intro z wz _ _ _) | ((with_reducible apply (wpl_guard (op := .load _ _))); (exact rfl)) | ((with_reducible apply (wpl_guard (op := .fieldAddr _ _ _))); (exact rfl)) | ((with_reducible apply (wpl_guard (op := .convert _ _ _))); (exact rfl)) | ((with_reducible apply wpl_loadrow); (exact rfl); (exact inferInstance); (exact inferInstance); (first | (with_reducible assumption) | (with_reducible exact H32.size _) | kernel_rfl)) | ((with_reducible apply wpl_loadcellN); (exact rfl); (exact inferInstance); (exact rfl)) | ((with_reducible apply wpl_storerow); (exact rfl); (exact rfl); (exact inferInstance); (exact inferInstance); (first | (with_reducible assumption) | (with_reducible exact H32.size _) | kernel_rfl); (first | (with_reducible assumption) | (with_reducible exact H32.size _) | kernel_rfl); (first | (with_reducible exact u8s_one _) | (with_reducible assumption) | kernel_rfl); intro ws _ _) | ((with_reducible apply wpl_storecell); (exact rfl); (exact rfl); (exact inferInstance); (exact rfl); (first | (with_reducible assumption) | omega | (focus (simp; done)) | (focus (simp; omega; done)) | decide); intro ws _ _))
      refine (wknown_calls _).mono ?_
      rintro e w9 ⟨rfl, _⟩
      go_wp2_with (first | go_skip | ((with_reducible apply wpl_alloc); intro z wz _ _ _) | ((with_reducible apply wpl_box_agg); (exact rfl); intro z wz _ _ _) | ((with_reducible apply wpl_box_int); (exact rfl); intro z wz _ _ _) | ((with_reducible apply wpl_box_slice); (exact rfl); intro z wz _ _ _) | ((with_reducible apply wpl_box_str); (exact rfl); intro z wz _ _ _) | ((with_reducible apply wpl_box_bool); (exact rfl); intro z wz _ _ _) | ((with_reducible apply wpl_box_ptr); (exact rfl); intro z wz _ _ _) | ((with_reducible apply (wpl_guard (op := .load _ _))); (exact rfl)) | ((with_reducible apply (wpl_guard (op := .fieldAddr _ _ _))); (exact rfl)) | ((with_reducible apply (wpl_guard (op := .convert _ _ _))); (exact rfl)) | ((with_reducible apply wpl_loadrow); (exact rfl); (exact inferInstance); (exact inferInstance); (first | (with_reducible assumption) | (with_reducible exact H32.size _) | kernel_rfl)) | ((with_reducible apply wpl_loadcellN); (exact rfl); (exact inferInstance); (exact rfl)) | ((with_reducible apply wpl_storerow); (exact rfl); (exact rfl); (exact inferInstance); (exact inferInstance); (first | (with_reducible assumption) | (with_reducible exact H32.size _) | kernel_rfl); (first | (with_reducible assumption) | (with_reducible exact H32.size _) | kernel_rfl); (first | (with_reducible exact u8s_one _) | (with_reducible assumption) | kernel_rfl); intro ws _ _) | ((with_reducible apply wpl_storecell); (exact rfl); (exact rfl); (exact inferInstance); (exact rfl); (first | (with_reducible assumption) | omega | (focus (simp; done)) | (focus (simp; omega; done)) | decide); intro ws _ _))
      go_ret
      exact ⟨rfl, (stepN (w0 := w)).chg⟩
end Go.Proofs.Ytecmeejbpkcgiaa
