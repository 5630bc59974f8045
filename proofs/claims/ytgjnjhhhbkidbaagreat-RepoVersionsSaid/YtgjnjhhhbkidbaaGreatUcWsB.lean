/- WrD, WtA, WtB, WtC, WnB, WsA, WsB -/
import Derived.Test.YtgjnjhhhbkidbaaGreatUcOcRfC
import Derived.Test.YtgjnjhhhbkidbaaGreatUcWnA
section
open Go Go.RowKit
namespace Go.Proofs.YtgjnjhhhbkidbaaGreat
theorem bs32 (h : H32) : (bs h.l).length = 32 := by rw [bs_length, H32.len]
section
variable {P : Program} {ops : Array Oper} {a : Act} {w : World} {dst : Option Tmp} {ty : TypeId} {pos : String} {after : Array Edge} {gd : Option (Nat × Bool)}
/-- a part of a struct, an array or a struct itself -/
theorem ev_loadMid {t : TypeId} {x : Operand} {g k n : Nat} (hx : a.eval x = .pointer (some ⟨g, k, none⟩)) {tb : TypeId} {cs : Array Value} (hb : HB w g tb cs) (ht : RowT P t n) {part : List Value} (hc : (cs.toList.drop k).take n = part) (hn : part.length = n) (hp : 0 < n) :
    (execOp a.eval ⟨dst, .load t x, ty, pos, after, gd⟩).run P w = .ok (.value (.agg part.toArray)) w := by
 have hr := hb.rdL
 have e : (Value.pointer (some (⟨g, k, none⟩ : Addr))) = ptrOf (some ⟨g, 0, none⟩) k := by rw [ptrOf, shift_some, add_row]
 show ((Instr.loadAt t (a.eval x)) >>= fun v => pure (Next.value v)).run P w = _
 rw [hx, e, Sem.run_bind, run_loadshift (k := k) (cs := part) hr ht hn hc hp]
 rfl
end
def timL (v e s : Int) (h : H32) : List Value := .int .i64 v :: .int .i64 e :: .int .i64 s :: bs h.l
theorem timL_len (v e s : Int) (h : H32) : (timL v e s h).toArray.size = 35 := by
 show (timL v e s h).length = 35
 simp [timL, bs_length]
theorem tim_sum (v e s : Int) (h : H32) : ((timL v e s h).toArray.toList.drop 3).take 32 = bs h.l := by
 show (bs h.l).take 32 = bs h.l
 exact List.take_of_length_le (by rw [bs32]; exact Nat.le_refl _)
theorem run_int1 (a : Int) (w : World) : (Instr.buildSlice 223 1 #[(0, .int .i64 a)]).run Tryz.prog w = .ok (.slice (some ⟨w.heap.size, 0, none⟩) 1 1) (w.alloc (.cells #[.int .i64 a] 3)) := by kernel_rfl
theorem run_int3 (a b c : Int) (w : World) : (Instr.buildSlice 223 3 #[(0, .int .i64 a), (1, .int .i64 b), (2, .int .i64 c)]).run Tryz.prog w = .ok (.slice (some ⟨w.heap.size, 0, none⟩) 3 3) (w.alloc (.cells #[.int .i64 a, .int .i64 b, .int .i64 c] 3)) := by kernel_rfl
theorem run_fld2 (f1 f2 : FuncId) (c1 c2 : Array Value) (w : World) : (Instr.buildSlice 230 2 #[(0, .func (.func f1) #[] c1), (1, .func (.func f2) #[] c2)]).run Tryz.prog w = .ok (.slice (some ⟨w.heap.size, 0, none⟩) 2 2) (w.alloc (.cells #[.func (.func f1) #[] c1, .func (.func f2) #[] c2] 186)) := by kernel_rfl
theorem numsC {z n c : Nat} {vs : List Int} {w : World} {t : TypeId} {cs : Array Value} [h : HB w z t cs] (hcs : cs = (is64 vs).toArray) (hn : vs.length = n) (hlim : 9 * vs.length ≤ 1000000000) :
    Calls Tryz.prog 107 #[.slice (some ⟨z, 0, none⟩) n c] w fun e w' => ∃ f caps T, e = .returned (.func (.func f) #[] caps) ∧ Step nowhere w w' ∧ Lays w' T (.func (.func f) #[] caps) (encAll vs) ∧ ∀ x, T x → w.heap.size ≤ x ∨ x = z := by
 have hr := h.rdL
 rw [hcs] at hr
 refine (nums_calls (A2 := some ⟨z, 0, none⟩) (c := c) (by simpa using hr) hn hlim).mono ?_
 rintro e w' ⟨fv, T, rfl, hs, hL, hT⟩
 obtain ⟨f, caps, rfl, _, _⟩ := hL.run
 refine ⟨f, caps, T, rfl, hs, hL, fun x hx => ?_⟩
 rcases hT x hx with h | ⟨ad, e, hk⟩
 · exact .inl h
 · injection e with e
   subst e
   exact .inr hk.symm
/-- two fields, one behind the other -/
theorem fields2 {z c : Nat} {f1 f2 : FuncId} {c1 c2 : Array Value} {T1 T2 : Nat → Prop} {y1 y2 : List UInt8} {w : World} {t : TypeId} [h : HB w z t #[.func (.func f1) #[] c1, .func (.func f2) #[] c2]] (h1 : Lays w T1 (.func (.func f1) #[] c1) y1) (h2 : Lays w T2 (.func (.func f2) #[] c2) y2) :
    Calls Tryz.prog 106 #[.slice (some ⟨z, 0, none⟩) 2 c] w fun e w' => ∃ f caps T, e = .returned (.func (.func f) #[] caps) ∧ Step nowhere w w' ∧ Lays w' T (.func (.func f) #[] caps) (y1 ++ y2) ∧ ∀ x, T x → w.heap.size ≤ x ∨ x = z ∨ T1 x ∨ T2 x := by
 have hr := h.rdL
 refine (fields_calls (A2 := some ⟨z, 0, none⟩) (c := c) (l := [⟨_, T1, y1⟩, ⟨_, T2, y2⟩]) hr rfl (show 2 ≤ 1000000000 by decide) ?_).mono ?_
 · intro f hf
   simp only [List.mem_cons, List.not_mem_nil, or_false] at hf
   rcases hf with rfl | rfl
   · exact h1
   · exact h2
 · rintro e w' ⟨f, caps, T, rfl, hs, hL, hT⟩
   refine ⟨f, caps, T, rfl, hs, ?_, fun x hx => ?_⟩
   · have e2 : allYs [⟨Value.func (.func f1) #[] c1, T1, y1⟩, ⟨Value.func (.func f2) #[] c2, T2, y2⟩] = y1 ++ y2 := by simp [allYs]
     rwa [e2] at hL
   · rcases hT x hx with h | ⟨_, ad, e, hk⟩ | ⟨f, hf, hk⟩
     · exact .inl h
     · injection e with e
       subst e
       exact .inr (.inl hk.symm)
     · simp only [List.mem_cons, List.not_mem_nil, or_false] at hf
       rcases hf with rfl | rfl
       · exact .inr (.inr (.inl hk))
       · exact .inr (.inr (.inr hk))
set_option maxRecDepth 100000 in
set_option maxHeartbeats 800000 in
theorem layTime_calls (v e0 s : Int) (h : H32) (w : World) :
    Calls Tryz.prog 69 #[.agg (timL v e0 s h).toArray] w fun e w' => ∃ f caps T, e = .returned (.func (.func f) #[] caps) ∧ Step nowhere w w' ∧ Lays w' T (.func (.func f) #[] caps) (encAll [v, e0, s] ++ h.l) ∧ ∀ x, T x → w.heap.size ≤ x := by
 go_enter Tryz.func69, Tryz.ntmps69
 go_wp2_with (first | ((with_reducible apply (wpl_box_agg (dst := some 1))); exact rfl; intro zt wzt _ _ _))
 have hwz := (stepN (w0 := w) (w := wzt)).chg.size
 refine wp_region_N (nowhere) (by kernel_rfl) (fun wd _ _ => ?_)
 refine' tk 0 _ rfl (by kernel_rfl) (by kernel_rfl) (by kernel_rfl) (fun _ _ _ h => h) (yo (by rfl) fun w' _ => ?_) inferInstance ?_
 rotate_left
 · (go_simp; try with_reducible rfl)
 try simp only [Act.put, sA, sB, sC]
 refine' tk 1 _ rfl (by kernel_rfl) (by kernel_rfl) (by kernel_rfl) (fun _ _ _ h => h) (yo (by rfl) fun w' _ => ?_) inferInstance ?_
 rotate_left
 · ((apply ev_loadcellN); exact rfl; infer_instance; infer_instance; exact rfl)
 try simp only [Act.put, sA, sB, sC]
 refine' tk 2 _ rfl (by kernel_rfl) (by kernel_rfl) (by kernel_rfl) (fun _ _ _ h => h) (yo (by rfl) fun w' _ => ?_) inferInstance ?_
 rotate_left
 · (go_simp; try with_reducible rfl)
 try simp only [Act.put, sA, sB, sC]
 refine' tk 3 _ rfl (by kernel_rfl) (by kernel_rfl) (by kernel_rfl) (fun _ _ _ h => h) (yo (by rfl) fun w' _ => ?_) inferInstance ?_
 rotate_left
 · ((apply ev_loadcellN); exact rfl; infer_instance; infer_instance; exact rfl)
 try simp only [Act.put, sA, sB, sC]
 refine' tk 4 _ rfl (by kernel_rfl) (by kernel_rfl) (by kernel_rfl) (fun _ _ _ h => h) (yo (by rfl) fun w' _ => ?_) inferInstance ?_
 rotate_left
 · (go_simp; try with_reducible rfl)
 try simp only [Act.put, sA, sB, sC]
 refine' tk 5 _ rfl (by kernel_rfl) (by kernel_rfl) (by kernel_rfl) (fun _ _ _ h => h) (yo (by rfl) fun w' _ => ?_) inferInstance ?_
 rotate_left
 · ((apply ev_loadcellN); exact rfl; infer_instance; infer_instance; exact rfl)
 try simp only [Act.put, sA, sB, sC]
 refine' tk 8 _ rfl (by kernel_rfl) (by kernel_rfl) (by kernel_rfl) (fun _ _ _ h => h) (yo (by rfl) fun w' _ => ?_) inferInstance ?_
 rotate_left
 · (go_simp; try with_reducible rfl)
 try simp only [Act.put, sA, sB, sC]
 refine' tk 9 _ rfl (by kernel_rfl) (by kernel_rfl) (by kernel_rfl) (fun _ _ _ h => h) (yo (by rfl) fun w' _ => ?_) inferInstance ?_
 rotate_left
 · ((apply ev_loadMid); exact rfl; infer_instance; infer_instance; exact tim_sum _ _ _ _; exact bs32 _; (decide))
 try simp only [Act.put, sA, sB, sC]
 refine goH (i := 6) (by kernel_rfl) rfl (fun K_ hK_ => ?_)
 rw [if_pos (by kernel_rfl)]
 refine wpr_of_list ?_
 (first | ((with_reducible apply (stop_dst (dst := some 9))); (try simp only [Act.put, sA, sB, sC]); ((with_reducible apply (wpl_bslice (dst := some 9))); exact run_int3 _ _ _ _; intro zb wb _ _ _)) | ((with_reducible apply (stop_dst (dst := some 14))); (try simp only [Act.put, sA, sB, sC]); ((with_reducible apply (wpl_bslice (dst := some 14))); exact run_fld2 _ _ _ _ _; intro zc wb _ _ _)))
 refine wpList_nil ?_
 unfold onlyN
 refine hK_.out _ _ inferInstance (fun _ => ?_)
 clear hK_ K_
 try simp only [Act.put, sA, sB, sC]
 refine goH (i := 7) (by kernel_rfl) rfl (fun K_ hK_ => ?_)
 go_simp
 refine (numsC (z := zb) (vs := [v, e0, s]) rfl rfl (show 9 * 3 ≤ 1000000000 by decide)).mono ?_
 rintro e w5 ⟨f5, caps5, T5, rfl, _, hL5, hT5⟩
 have hzb : w.heap.size ≤ zb := (NewA.monoS (w0 := w) (NewA.of_born (z := zb) 0)).out ⟨zb, 0, none⟩ rfl
 refine hK_.out _ _ inferInstance (fun _ => ?_)
 clear hK_ K_
 try simp only [Act.put, sA, sB, sC]
 refine goH (i := 10) (by kernel_rfl) rfl (fun K_ hK_ => ?_)
 go_simp
 refine (fhash_calls h _).mono ?_
 rintro e w6 ⟨f6, caps6, T6, rfl, _, hL6, hT6⟩
 refine hK_.out _ _ inferInstance (fun _ => ?_)
 clear hK_ K_
 try simp only [Act.put, sA, sB, sC]
 refine goH (i := 11) (by kernel_rfl) rfl (fun K_ hK_ => ?_)
 rw [if_pos (by kernel_rfl)]
 refine wpr_of_list ?_
 (first | ((with_reducible apply (stop_dst (dst := some 9))); (try simp only [Act.put, sA, sB, sC]); ((with_reducible apply (wpl_bslice (dst := some 9))); exact run_int3 _ _ _ _; intro zb wb _ _ _)) | ((with_reducible apply (stop_dst (dst := some 14))); (try simp only [Act.put, sA, sB, sC]); ((with_reducible apply (wpl_bslice (dst := some 14))); exact run_fld2 _ _ _ _ _; intro zc wb _ _ _)))
 refine wpList_nil ?_
 unfold onlyN
 refine hK_.out _ _ inferInstance (fun _ => ?_)
 clear hK_ K_
 try simp only [Act.put, sA, sB, sC]
 refine goH (i := 12) (by kernel_rfl) rfl (fun K_ hK_ => ?_)
 go_simp
 refine (fields2 (z := zc) (hL5.later (stepN (w0 := w5)).chg (fun _ _ h => h)) (hL6.later (stepN (w0 := w6)).chg (fun _ _ h => h))).mono ?_
 rintro e w7 ⟨f7, caps7, T7, rfl, _, hL7, hT7⟩
 have hzc : w.heap.size ≤ zc := (NewA.monoS (w0 := w) (NewA.of_born (z := zc) 0)).out ⟨zc, 0, none⟩ rfl
 refine hK_.out _ _ inferInstance (fun _ => ?_)
 clear hK_ K_
 try simp only [Act.put, sA, sB, sC]
 refine' tk 13 _ rfl (by kernel_rfl) (by kernel_rfl) (by kernel_rfl) (fun _ _ _ h => h) (yo (by rfl) fun w' _ => ?_) inferInstance ?_
 rotate_left
 · (go_simp; try with_reducible rfl)
 try simp only [Act.put, sA, sB, sC]
 refine wpAnyH_done (by kernel_rfl) ?_ _
 go_wp2_with fail
 go_ret
 refine ⟨f7, caps7, T7, rfl, stepN, hL7, fun x hx => ?_⟩
 rcases hT7 x hx with h | rfl | h | h
 · exact Nat.le_trans (stepN (w0 := w)).chg.size h
 · exact hzc
 · rcases hT5 x h with h | rfl
   · exact Nat.le_trans (stepN (w0 := w)).chg.size h
   · exact hzb
 · exact Nat.le_trans (stepN (w0 := w)).chg.size (hT6 x h)
def numB (n : Int) : Bool := decide (0 ≤ n) && decide (n ≤ 1073741824)
def verB (n : Int) : Bool := decide (1 ≤ n) && decide (n ≤ 1073741824)
theorem number_calls (n : Int) (w : World) : Calls Tryz.prog 111 #[.int .i64 n] w fun e w' => e = .returned (.bool (numB n)) ∧ Step nowhere w w' := by
 by_cases h1 : 0 ≤ n
 · by_cases h2 : n ≤ 1073741824
   · have e : numB n = true := by simp [numB, h1, h2]
     rw [e]
     clear e
     go_enter Tryz.func111, Tryz.ntmps111
     go_wp2_with fail
     go_ret
     exact ⟨rfl, stepN⟩
   · have e : numB n = false := by simp [numB, h2]
     rw [e]
     clear e
     go_enter Tryz.func111, Tryz.ntmps111
     go_wp2_with fail
     go_ret
     exact ⟨rfl, stepN⟩
 · have e : numB n = false := by simp [numB, h1]
   rw [e]
   clear e
   go_enter Tryz.func111, Tryz.ntmps111
   go_wp2_with fail
   go_ret
   exact ⟨rfl, stepN⟩
theorem version_calls (n : Int) (w : World) : Calls Tryz.prog 110 #[.int .i64 n] w fun e w' => e = .returned (.bool (verB n)) ∧ Step nowhere w w' := by
 by_cases h1 : 1 ≤ n
 · by_cases h2 : n ≤ 1073741824
   · have e : verB n = true := by simp [verB, h1, h2]
     rw [e]
     clear e
     go_enter Tryz.func110, Tryz.ntmps110
     go_wp2_with fail
     go_ret
     exact ⟨rfl, stepN⟩
   · have e : verB n = false := by simp [verB, h2]
     rw [e]
     clear e
     go_enter Tryz.func110, Tryz.ntmps110
     go_wp2_with fail
     go_ret
     exact ⟨rfl, stepN⟩
 · have e : verB n = false := by simp [verB, h1]
   rw [e]
   clear e
   go_enter Tryz.func110, Tryz.ntmps110
   go_wp2_with fail
   go_ret
   exact ⟨rfl, stepN⟩
def timB (v e s : Int) : Bool := verB v && numB e && verB s
set_option maxRecDepth 100000 in
theorem isTime_calls (v e0 s : Int) (h : H32) (w : World) :
    Calls Tryz.prog 68 #[.agg (timL v e0 s h).toArray] w fun e w' => e = .returned (.bool (timB v e0 s)) ∧ Step nowhere w w' := by
 unfold timB
 rcases h1 : verB v with _ | _
 · have e1 : (false && numB e0 && verB s) = false := by simp
   rw [e1]
   go_enter Tryz.func68, Tryz.ntmps68
   go_wp2_with (first | ((with_reducible apply (wpl_box_agg (dst := some 1))); exact rfl; intro zt wzt _ _ _) | ((with_reducible apply wpl_loadcellN); exact rfl; infer_instance; exact rfl))
   refine (version_calls v _).mono ?_
   rw [h1]
   rintro e w5 ⟨rfl, _⟩
   go_wp2_with (first | go_skip)
   go_ret
   exact ⟨rfl, stepN⟩
 · rcases h2 : numB e0 with _ | _
   · have e1 : (true && false && verB s) = false := by simp
     rw [e1]
     go_enter Tryz.func68, Tryz.ntmps68
     go_wp2_with (first | ((with_reducible apply (wpl_box_agg (dst := some 1))); exact rfl; intro zt wzt _ _ _) | ((with_reducible apply wpl_loadcellN); exact rfl; infer_instance; exact rfl))
     refine (version_calls v _).mono ?_
     rw [h1]
     rintro e w5 ⟨rfl, _⟩
     go_wp2_with (first | ((with_reducible apply (wpl_guard (op := .load _ _))); exact rfl) | ((with_reducible apply (wpl_guard (op := .fieldAddr _ _ _))); exact rfl) | ((with_reducible apply wpl_loadcellN); exact rfl; infer_instance; exact rfl))
     refine (number_calls e0 _).mono ?_
     rw [h2]
     rintro e w6 ⟨rfl, _⟩
     go_wp2_with (first | go_skip)
     go_ret
     exact ⟨rfl, stepN⟩
   · have e1 : (true && true && verB s) = verB s := by simp
     rw [e1]
     go_enter Tryz.func68, Tryz.ntmps68
     go_wp2_with (first | ((with_reducible apply (wpl_box_agg (dst := some 1))); exact rfl; intro zt wzt _ _ _) | ((with_reducible apply wpl_loadcellN); exact rfl; infer_instance; exact rfl))
     refine (version_calls v _).mono ?_
     rw [h1]
     rintro e w5 ⟨rfl, _⟩
     go_wp2_with (first | ((with_reducible apply (wpl_guard (op := .load _ _))); exact rfl) | ((with_reducible apply (wpl_guard (op := .fieldAddr _ _ _))); exact rfl) | ((with_reducible apply wpl_loadcellN); exact rfl; infer_instance; exact rfl))
     refine (number_calls e0 _).mono ?_
     rw [h2]
     rintro e w6 ⟨rfl, _⟩
     go_wp2_with (first | ((with_reducible apply (wpl_guard (op := .load _ _))); exact rfl) | ((with_reducible apply (wpl_guard (op := .fieldAddr _ _ _))); exact rfl) | ((with_reducible apply wpl_loadcellN); exact rfl; infer_instance; exact rfl))
     refine (version_calls s _).mono ?_
     rintro e w7 ⟨rfl, _⟩
     go_wp2_with fail
     go_ret
     exact ⟨rfl, stepN⟩
/-- what encode answers -/
def EncPost (ok : Bool) (bytes : List UInt8) (w : World) : Ending → World → Prop := fun e w' => Step nowhere w w' ∧
 if ok then ∃ A n c, e = .returned (.tuple #[.slice A n c, .int .i64 0]) ∧ n = bytes.length ∧ HO w' 5 1 A n c (bs bytes) ∧ NewA w A
 else e = .returned (.tuple #[.slice none 0 0, .int .i64 1])
set_option maxRecDepth 100000 in
set_option maxHeartbeats 800000 in
theorem encTime_calls (v e0 s : Int) (h : H32) (w : World) :
    Calls Tryz.prog 67 #[.int .i64 2, .agg (timL v e0 s h).toArray, .func (.func 68) #[] #[], .func (.func 69) #[] #[]] w (EncPost (timB v e0 s) (encAll [2] ++ (encAll [v, e0, s] ++ h.l)) w) := by
 have hlen := timL_len v e0 s h
 unfold EncPost
 rcases hb : timB v e0 s with _ | _
 · go_enter Tryz.func67, Tryz.ntmps67
   go_wp2_with (first | ((with_reducible apply (wpl_box_agg (dst := some 5))); exact rfl; intro zt wzt _ _ _) | ((with_reducible apply wpl_loadrow); exact rfl; infer_instance; infer_instance; (first | (with_reducible assumption) | (with_reducible exact H32.size _) | kernel_rfl)))
   refine (isTime_calls v e0 s h _).mono ?_
   rw [hb]
   rintro e w5 ⟨rfl, _⟩
   go_wp2_with fail
   go_ret2
   exact ⟨stepN, rfl⟩
 · go_enter Tryz.func67, Tryz.ntmps67
   go_wp2_with (first | ((with_reducible apply (wpl_box_agg (dst := some 5))); exact rfl; intro zt wzt _ _ _) | ((with_reducible apply wpl_loadrow); exact rfl; infer_instance; infer_instance; (first | (with_reducible assumption) | (with_reducible exact H32.size _) | kernel_rfl)))
   refine (isTime_calls v e0 s h _).mono ?_
   rw [hb]
   rintro e w5 ⟨rfl, _⟩
   go_wp2_with (first | ((with_reducible apply (wpl_alloc (dst := some 10))); intro zw wzw _ _ _))
   have hzw := (inferInstance : HB wzw zw 184 #[.slice none 0 0]).out.lt
   have n9 : Nw w wzw := inferInstance
   refine wp_region_N ((only zw)) (by kernel_rfl) (fun wd _ _ => ?_)
   refine' tk 0 _ rfl (by kernel_rfl) (by kernel_rfl) (by kernel_rfl) (fun _ _ _ h => h) (yo (by rfl) fun w' _ => ?_) inferInstance ?_
   rotate_left
   · (go_simp; try with_reducible rfl)
   try simp only [Act.put, sA, sB, sC]
   refine' tk 3 _ rfl (by kernel_rfl) (by kernel_rfl) (by kernel_rfl) (fun _ _ _ h => h) (yo (by rfl) fun w' _ => ?_) inferInstance ?_
   rotate_left
   · (go_simp; try with_reducible rfl)
   try simp only [Act.put, sA, sB, sC]
   refine' tk 4 _ rfl (by kernel_rfl) (by kernel_rfl) (by kernel_rfl) (fun _ _ _ h => h) (yo (by rfl) fun w' _ => ?_) inferInstance ?_
   rotate_left
   · ((apply ev_loadrow); exact rfl; infer_instance; infer_instance; (first | (with_reducible assumption) | (with_reducible exact H32.size _) | kernel_rfl))
   try simp only [Act.put, sA, sB, sC]
   refine goH (i := 1) (by kernel_rfl) rfl (fun K_ hK_ => ?_)
   rw [if_pos (by kernel_rfl)]
   refine wpr_of_list ?_
   (first | ((with_reducible apply (stop_dst (dst := some 16))); (try simp only [Act.put, sA, sB, sC]); ((with_reducible apply (wpl_bslice (dst := some 16))); exact run_int1 _ _; intro zb wb _ _ _)) | ((with_reducible apply (stop_dst (dst := some 21))); (try simp only [Act.put, sA, sB, sC]); ((with_reducible apply (wpl_bslice (dst := some 21))); exact run_fld2 _ _ _ _ _; intro zc wb _ _ _)))
   refine wpList_nil ?_
   unfold onlyN
   refine hK_.out _ _ inferInstance (fun _ => ?_)
   clear hK_ K_
   try simp only [Act.put, sA, sB, sC]
   refine goH (i := 2) (by kernel_rfl) rfl (fun K_ hK_ => ?_)
   go_simp
   refine (numsC (z := zb) (vs := [2]) rfl rfl (show 9 * 1 ≤ 1000000000 by decide)).mono ?_
   rintro e w6 ⟨f6, caps6, T6, rfl, _, hL6, hT6⟩
   have hzb : wzw.heap.size ≤ zb := (NewA.monoS (w0 := wzw) (NewA.of_born (z := zb) 0)).out ⟨zb, 0, none⟩ rfl
   refine hK_.out _ _ inferInstance (fun _ => ?_)
   clear hK_ K_
   try simp only [Act.put, sA, sB, sC]
   refine goH (i := 5) (by kernel_rfl) rfl (fun K_ hK_ => ?_)
   go_simp
   refine (layTime_calls v e0 s h _).mono ?_
   rintro e w7 ⟨f7, caps7, T7, rfl, _, hL7, hT7⟩
   refine hK_.out _ _ inferInstance (fun _ => ?_)
   clear hK_ K_
   try simp only [Act.put, sA, sB, sC]
   refine goH (i := 6) (by kernel_rfl) rfl (fun K_ hK_ => ?_)
   rw [if_pos (by kernel_rfl)]
   refine wpr_of_list ?_
   (first | ((with_reducible apply (stop_dst (dst := some 16))); (try simp only [Act.put, sA, sB, sC]); ((with_reducible apply (wpl_bslice (dst := some 16))); exact run_int1 _ _; intro zb wb _ _ _)) | ((with_reducible apply (stop_dst (dst := some 21))); (try simp only [Act.put, sA, sB, sC]); ((with_reducible apply (wpl_bslice (dst := some 21))); exact run_fld2 _ _ _ _ _; intro zc wb _ _ _)))
   refine wpList_nil ?_
   unfold onlyN
   refine hK_.out _ _ inferInstance (fun _ => ?_)
   clear hK_ K_
   try simp only [Act.put, sA, sB, sC]
   refine goH (i := 7) (by kernel_rfl) rfl (fun K_ hK_ => ?_)
   go_simp
   refine (fields2 (z := zc) (hL6.later (stepN (w0 := w6)).chg (fun _ _ h => h)) (hL7.later (stepN (w0 := w7)).chg (fun _ _ h => h))).mono ?_
   rintro e w8 ⟨f8, caps8, T8, rfl, _, hL8, hT8⟩
   have hzc : wzw.heap.size ≤ zc := (NewA.monoS (w0 := wzw) (NewA.of_born (z := zc) 0)).out ⟨zc, 0, none⟩ rfl
   obtain ⟨f9, caps9, he9, hent, hrun⟩ := hL8.run
   injection he9 with e1 _ e2
   injection e1 with e1
   subst e1 e2
   have hw8 : WrAt w8 zw none [] := ⟨⟨0, 0, rfl, (inferInstance : HB w8 zw 184 #[.slice none 0 0]).out, Own.nil _ _ _⟩, fun ad h => by cases h⟩
   have hT : ∀ x, Wf zw none x → ¬ T8 x := by
    rintro x (rfl | ⟨ad, e, _⟩) hx
    · rcases hT8 _ hx with h | h | h | h
      · have := Nat.le_trans (stepN (w0 := wzw)).chg.size h; omega
      · omega
      · rcases hT6 _ h with h | h
        · have := Nat.le_trans (stepN (w0 := wzw)).chg.size h; omega
        · omega
      · have := Nat.le_trans (stepN (w0 := wzw)).chg.size (hT7 _ h); omega
    · cases e
   have hlen2 : ([] : List UInt8).length + (encAll [2] ++ (encAll [v, e0, s] ++ h.l)).length ≤ 1000000000 := by
    have a1 := encAll_len [2]
    have a2 := encAll_len [v, e0, s]
    simp only [List.length_append, List.length_cons, List.length_nil, H32.len_] at *
    omega
   have HRUN := Lib.hid (hrun w8 zw none [] (Chg.refl _ _) hw8 hT hlen2)
   clear hrun
   refine hK_.out _ _ inferInstance (fun _ => ?_)
   clear hK_ K_
   try simp only [Act.put, sA, sB, sC]
   refine goH (i := 8) (by kernel_rfl) rfl (fun K_ hK_ => ?_)
   go_simp
   refine HRUN.out.mono ?_
   rintro e w9 ⟨rfl, A9, hW9, hC9, hM9⟩
   have st9 : Step (only zw) w8 w9 := ⟨hC9.mono (fun x _ hx => by
    rcases hx with h | ⟨ad, e, _⟩
    · exact h
    · cases e)⟩
   refine hK_.out _ _ inferInstance (fun _ => ?_)
   clear hK_ K_
   try simp only [Act.put, sA, sB, sC]
   refine wpAnyH_done (by kernel_rfl) ?_ _
   have n99 : Nw w w9 := inferInstance
   go_wp2_with fail
   refine (Out_calls zw A9 _ w9 hW9 (by rw [List.length_append]; omega)).mono ?_
   rintro e w10 ⟨A10, n10, c10, rfl, hn, ho, hc, hnew⟩
   have st10 : Step nowhere w9 w10 := ⟨hc.out⟩
   go_wp2_with fail
   go_ret2
   exact ⟨stepN, A10, n10, c10, rfl, by have h9 := hn.out; simpa using h9, ⟨ho.out⟩, ⟨fun ad e => Nat.le_trans n99.out.size (hnew.out ad e)⟩⟩
set_option maxRecDepth 100000 in
theorem EncodeTime_calls (v e0 s : Int) (h : H32) (w : World) :
    Calls Tryz.prog 30 #[.agg (timL v e0 s h).toArray] w (EncPost (timB v e0 s) (encAll [2] ++ (encAll [v, e0, s] ++ h.l)) w) := by
 have hlen := timL_len v e0 s h
 unfold EncPost
 rcases hb : timB v e0 s with _ | _
 all_goals
  go_enter Tryz.func30, Tryz.ntmps30
  go_wp2_with (first | ((with_reducible apply (wpl_box_agg (dst := some 1))); exact rfl; intro zt wzt _ _ _) | ((with_reducible apply wpl_loadrow); exact rfl; infer_instance; infer_instance; (first | (with_reducible assumption) | (with_reducible exact H32.size _) | kernel_rfl)))
  refine (encTime_calls v e0 s h _).mono ?_
  rintro e w5 ⟨_, h5⟩
  rw [hb] at h5
 · obtain rfl : e = _ := h5
   go_wp2_with fail
   go_ret2
   exact ⟨stepN, rfl⟩
 · obtain ⟨A, n, c, rfl, hn, hO, hA⟩ := h5
   have HN := Lib.hid hn
   clear hn
   go_wp2_with fail
   go_ret2
   exact ⟨stepN, A, n, c, rfl, by have h9 := HN.out; simpa using h9, hO, NewA.monoS hA⟩
end Go.Proofs.YtgjnjhhhbkidbaaGreat
end
section
open Go Go.RowKit
namespace Go.Proofs.YtgjnjhhhbkidbaaGreat
instance iWtA_1 : ZeroT Tryz.prog 23 (u8s zeroH.l) := ⟨.agg (u8s zeroH.l), fun _ => by kernel_rfl, rfl⟩
def RS.hsh (s : RS) : H32 := if h : (s.raw 32).1.length = 32 then ⟨(s.raw 32).1, h⟩ else zeroH
theorem RS.raw_c (s : RS) : (s.raw 32).1.length = 32 ∨ (s.raw 32).1 = [] := by
 unfold RS.raw
 split
 · exact .inr rfl
 · rename_i h
   refine .inl ?_
   show (s.b.take (32 : Int).toNat).length = 32
   rw [List.length_take]
   have : ¬ (s.b.length : Int) < 32 := fun h2 => h (.inr (.inr h2))
   omega
theorem RS.raw_l (s : RS) (i : Int) : (s.raw i).2.b.length ≤ s.b.length := by
 unfold RS.raw
 split
 · exact Nat.zero_le _
 · show (s.b.drop i.toNat).length ≤ _
   rw [List.length_drop]; omega
theorem RS.hsh_copy (s : RS) (m : Nat) (hm : m = (s.raw 32).1.length) : zeroH.l.take 0 ++ (s.raw 32).1 ++ zeroH.l.drop (0 + m) = s.hsh.l := by
 subst hm
 rcases s.raw_c with h | h
 · rw [RS.hsh, dif_pos h, h]
   show [] ++ (s.raw 32).1 ++ zeroH.l.drop 32 = _
   rw [show zeroH.l.drop 32 = [] from rfl, List.append_nil]
   rfl
 · rw [RS.hsh, dif_neg (by rw [h]; decide), h]
   rfl
section
variable {P : Program} {ops : Array Oper} {a : Act} {w : World} {dst : Option Tmp} {ty : TypeId} {pos : String} {after : Array Edge} {gd : Option (Nat × Bool)}
end
def gz2 (g z : Nat) : Nat → Prop := fun x => x = g ∨ x = z
instance (w : World) (g z : Nat) : Sub w (only g) (gz2 g z) := ⟨fun _ _ h => .inl h⟩
instance (w : World) (g z : Nat) : Sub w (only z) (gz2 g z) := ⟨fun _ _ h => .inr h⟩
instance (w : World) (g z : Nat) : Into w (only g) (gz2 g z) := ⟨fun _ _ h => .inl h⟩
instance (w : World) (g z : Nat) : Into w (only z) (gz2 g z) := ⟨fun _ _ h => .inr h⟩
end Go.Proofs.YtgjnjhhhbkidbaaGreat
end
section
open Go Go.RowKit
namespace Go.Proofs.YtgjnjhhhbkidbaaGreat
instance iWtB_1 : ZeroT Tryz.prog 54 (timL 0 0 0 zeroH).toArray := ⟨.agg (timL 0 0 0 zeroH).toArray, fun _ => by kernel_rfl, rfl⟩
section
variable {P : Program} {ops : Array Oper} {rest : List Oper} {a : Act} {w : World} {Q : Exit → Act → World → Prop} {dst : Option Tmp} {ty : TypeId} {pos : String} {after : Array Edge}
/-- a part of a block written, whole -/
theorem wpl_storepart {t : TypeId} {x y : Operand} {g k n : Nat} {vs : Array Value} (hx : a.eval x = .pointer (some ⟨g, k, none⟩)) (hy : a.eval y = .agg vs) {tb : TypeId} {cs : Array Value} (hb : HB w g tb cs) (ht : RowT P t n) (hn : vs.size = n) (hn0 : 0 < n) (hk : k + n ≤ cs.size) (hone : vs.all (·.oneCell') = true) {cs' : Array Value} (hcs : cs.toList.take k ++ vs.toList ++ cs.toList.drop (k + n) = cs'.toList)
    (h : ∀ w', Step (only g) w w' → HB w' g tb cs' → wpList P ops Q rest (a.put dst undef) w') : wpList P ops Q (⟨dst, .store t x y, ty, pos, after, none⟩ :: rest) a w := by
 have ho : Own w tb cs.size (some ⟨g, 0, none⟩) 1 1 cs.toList :=
  Own.of_blk hb.out (Nat.le_refl _) (by decide) (by simp) (by rw [Nat.one_mul, List.take_of_length_le (by simp)])
 obtain ⟨g', hA, h1, h2, h3⟩ := own_setCells ho (k := k) (cs := vs.toList) (m := n) (by simpa using hn) (by simpa using hk) hn0
 obtain rfl : g' = g := by injection hA with hA; injection hA with hA; exact hA.symm
 rw [hcs] at h2
 refine wpl_of_unit rfl (w' := w.setCells g' k vs.toList) ?_ (h _ ⟨⟨h3.os, h3.tape, h3.output, h3.size, fun x hx hn => h3.block x hx (fun ⟨ad, e, e2⟩ => hn (by injection e with e; subst e; exact e2.symm))⟩⟩ ⟨?_⟩)
 · show ((Instr.storeAt t (a.eval x) (a.eval y)) >>= fun _ => pure Next.skip).run P w = _
   rw [hx, hy, Sem.run_bind, run_storeAt_mid (P := P) w g' k t vs (by rw [hn]; exact h1) (by rw [hn]; exact ht.size) hone]
   rfl
 · have hl2 : cs'.size = cs.size := by
     have := congrArg List.length hcs
     simp at this
     omega
   rcases h2.form with ⟨hn, _⟩ | ⟨g3, cur, e, hb2, _, _, hsz, htk⟩
   · cases hn
   · injection e with e
     injection e with e
     subst e
     have : cur = cs' := by
      apply Array.ext'
      rw [List.take_of_length_le (by rw [Array.length_toList, hsz]; exact Nat.le_refl _)] at htk
      exact htk
     rw [← this]
     exact hb2
end
theorem timL_one (v e s : Int) (h : H32) : (timL v e s h).toArray.all (·.oneCell') = true := by
 rw [Array.all_eq_true_iff_forall_mem]
 intro u hu
 have hu' : u ∈ timL v e s h := by simpa using hu
 rcases List.mem_cons.1 hu' with rfl | hu'
 · rfl
 rcases List.mem_cons.1 hu' with rfl | hu'
 · rfl
 rcases List.mem_cons.1 hu' with rfl | hu'
 · rfl
 exact bs_one h.l u hu'
/-- the numbers of a time, and its digest, as they are taken -/
def tV (s : RS) : Nat := s.num.1
def tE (s : RS) : Nat := (s.at 1).num.1
def tS (s : RS) : Nat := (s.at 2).num.1
def tH (s : RS) : H32 := (s.at 3).hsh
def tR (s : RS) : RS := ((s.at 3).raw 32).2
end Go.Proofs.YtgjnjhhhbkidbaaGreat
end
section
open Go Go.RowKit
namespace Go.Proofs.YtgjnjhhhbkidbaaGreat
/-- what is left behind the kind -/
def kindS (kind : Nat) (b : List UInt8) : RS := if (⟨b, false⟩ : RS).num.1 = kind then (⟨b, false⟩ : RS).num.2 else RS.bad
theorem kindS_le (kind : Nat) (b : List UInt8) : (kindS kind b).b.length ≤ b.length := by
 unfold kindS
 split
 · exact RS.num_le ⟨b, false⟩
 · exact Nat.zero_le _
def wholeB (s : RS) : Bool := !s.e && decide (s.b = [])
theorem tR_le (s : RS) : (tR s).b.length ≤ s.b.length := Nat.le_trans ((s.at 3).raw_l 32) (s.at_le 3)
def tOk (b : List UInt8) : Bool := wholeB (tR (kindS 2 b)) && timB (tV (kindS 2 b)) (tE (kindS 2 b)) (tS (kindS 2 b))
/-- what is decoded -/
def timD (b : List UInt8) : Array Value := (timL (tV (kindS 2 b)) (tE (kindS 2 b)) (tS (kindS 2 b)) (tH (kindS 2 b))).toArray
def DecT (b : List UInt8) (w : World) : Ending → World → Prop := fun e w' => Step nowhere w w' ∧ e = .returned (if tOk b then .tuple #[.agg (timD b), .int .i64 0] else .tuple #[.agg (timL 0 0 0 zeroH).toArray, .int .i64 2])
end Go.Proofs.YtgjnjhhhbkidbaaGreat
end
section
open Go Go.RowKit
namespace Go.Proofs.YtgjnjhhhbkidbaaGreat
section
variable {P : Program} {ops : Array Oper} {rest : List Oper} {a : Act} {w : World} {Q : Exit → Act → World → Prop} {dst : Option Tmp} {ty : TypeId} {pos : String} {after : Array Edge}
/-- a byte of a text -/
theorem wpl_indexStr {t : TypeId} {x ix : Operand} {s : ByteArray} {l : List UInt8} {k v : Nat} (hs : s.data.toList = l) (hv : (bget l k).toNat = v) (hx : a.eval x = .string s) (hi : a.eval ix = .int .i64 (k : Int)) (hu : P.underlying t = some .string) (hk : k < l.length)
    (h : wpList P ops Q rest (a.put dst (.int .u8 (v : Int))) w) : wpList P ops Q (⟨dst, .index t x ix, ty, pos, after, none⟩ :: rest) a w :=
 wpl_of_run rfl (by
  subst hs
  have hsz : s.data.toList.length = s.size := Array.length_toList
  have h1 : (0 : Int) ≤ (k : Int) ∧ (k : Int) < s.size := by omega
  show ((Instr.index t (a.eval x) (a.eval ix)) >>= fun v => pure (Next.value v)).run P w = _
  rw [hx, hi, Sem.run_bind, run_index_string w t s .i64 (k : Int) hu, dif_pos h1]
  have e : (s[(k : Int).toNat]'(by omega)).toNat = v := by
   rw [← hv]
   have hk2 : k < s.data.size := by rw [← Array.length_toList]; exact hk
   have e1 : s[(k : Int).toNat]'(by omega) = s.data[k] := rfl
   have e2 : s.data[k]? = some s.data[k] := Array.getElem?_eq_getElem hk2
   rw [e1]
   simp only [bget, List.getD_eq_getElem?_getD, Array.getElem?_toList, e2, Option.getD_some]
  rw [e]
  rfl) h
end
theorem good_case (v : Nat) {g : Bool} (hg : g = ((decide (97 ≤ v) && decide (v ≤ 122)) || (decide (48 ≤ v) && decide (v ≤ 57)) || decide (v = 45))) :
    (g = true ∧ ((97 ≤ (v : Int) ∧ (v : Int) ≤ 122) ∨ (97 ≤ (v : Int) ∧ ¬ (v : Int) ≤ 122 ∧ False) ∨ (¬ 97 ≤ (v : Int) ∧ 48 ≤ (v : Int) ∧ (v : Int) ≤ 57) ∨ (¬ 97 ≤ (v : Int) ∧ ¬ 48 ≤ (v : Int) ∧ ((v : Int) == 45) = true))) ∨ (g = false ∧ ((97 ≤ (v : Int) ∧ ¬ (v : Int) ≤ 122 ∧ 48 ≤ (v : Int) ∧ ¬ (v : Int) ≤ 57 ∧ ((v : Int) == 45) = false) ∨ (¬ 97 ≤ (v : Int) ∧ 48 ≤ (v : Int) ∧ ¬ (v : Int) ≤ 57 ∧ ((v : Int) == 45) = false) ∨ (¬ 97 ≤ (v : Int) ∧ ¬ 48 ≤ (v : Int) ∧ ((v : Int) == 45) = false))) := by
 subst hg
 by_cases a1 : 97 ≤ v
 · by_cases a2 : v ≤ 122
   · exact .inl ⟨by simp [a1, a2], .inl ⟨by omega, by omega⟩⟩
   · exact .inr ⟨by simp [a1, a2]; omega, .inl ⟨by omega, by omega, by omega, by omega, beqF (by omega)⟩⟩
 · by_cases a3 : 48 ≤ v
   · by_cases a4 : v ≤ 57
     · exact .inl ⟨by simp [a3, a4], .inr (.inr (.inl ⟨by omega, by omega, by omega⟩))⟩
     · exact .inr ⟨by simp [a1, a4]; omega, .inr (.inl ⟨by omega, by omega, by omega, beqF (by omega)⟩)⟩
   · by_cases a5 : v = 45
     · exact .inl ⟨by simp [a5], .inr (.inr (.inr ⟨by omega, by omega, beqT (by omega)⟩))⟩
     · exact .inr ⟨by simp [a1, a3, a5], .inr (.inr ⟨by omega, by omega, beqF (by omega)⟩)⟩
end Go.Proofs.YtgjnjhhhbkidbaaGreat
end
section
open Go Go.RowKit
namespace Go.Proofs.YtgjnjhhhbkidbaaGreat
instance iWsA_1 : CellT Tryz.prog 57 := ⟨fun _ => by kernel_rfl, fun _ => by kernel_rfl⟩
instance iWsA_2 : RowT Tryz.prog 59 3 := ⟨by kernel_rfl, _, Tryz.underlying59, rfl⟩
def snapV (v e : Int) : Array Value := #[.int .i64 v, .int .i64 e, .slice none 0 0]
def snapB (v e : Int) : Bool := verB v && numB e
end Go.Proofs.YtgjnjhhhbkidbaaGreat
end
section
open Go Go.RowKit
namespace Go.Proofs.YtgjnjhhhbkidbaaGreat
theorem run_int2 (a b : Int) (w : World) : (Instr.buildSlice 223 2 #[(0, .int .i64 a), (1, .int .i64 b)]).run Tryz.prog w = .ok (.slice (some ⟨w.heap.size, 0, none⟩) 2 2) (w.alloc (.cells #[.int .i64 a, .int .i64 b] 3)) := by kernel_rfl
end Go.Proofs.YtgjnjhhhbkidbaaGreat
end
