/- WzA, WzB, UnD, RoM -/
import Derived.Test.YtgjnjhhhbkidbaaGreatUcWxB
import Derived.Test.YtgjnjhhhbkidbaaGreatUcOcRfC
import Derived.Test.YtgjnjhhhbkidbaaGreatUcWsB
import Derived.Test.YtgjnjhhhbkidbaaGreatUcWuC
import Derived.Test.YtgjnjhhhbkidbaaGreatUcUnC
section
open Go Go.RowKit
namespace Go.Proofs.YtgjnjhhhbkidbaaGreat
section
variable {P : Program} {ops : Array Oper} {a : Act} {w : World} {dst : Option Tmp} {ty : TypeId} {pos : String} {after : Array Edge} {gd : Option (Nat × Bool)}
/-- an array within a block as a slice -/
theorem ev_sl_arrK {t e : TypeId} {x : Operand} {g k m : Nat} (hx : a.eval x = .pointer (some ⟨g, k, none⟩)) (hu : P.underlying t = some (.array m e)) (hs : (P.info? e).map (·.size) = some 1) :
    (execOp a.eval ⟨dst, .slice t x none none none, ty, pos, after, gd⟩).run P w = .ok (.value (.slice (some ⟨g, k, none⟩) m m)) w := by
 show ((Instr.sliceAt t (a.eval x) none none none) >>= fun v => pure (Next.value v)).run P w = _
 rw [hx]
 cases hq : P.info? e with
 | none => rw [hq] at hs; simp at hs
 | some i => simp [Instr.sliceAt, run_underlying hu, Instr.sureAddr, Instr.sliceBounds, sizeOf, typeInfo, hq, add_zero_spot]
end
theorem run_int4 (a b c d : Int) (w : World) : (Instr.buildSlice 223 4 #[(0, .int .i64 a), (1, .int .i64 b), (2, .int .i64 c), (3, .int .i64 d)]).run Tryz.prog w = .ok (.slice (some ⟨w.heap.size, 0, none⟩) 4 4) (w.alloc (.cells #[.int .i64 a, .int .i64 b, .int .i64 c, .int .i64 d] 3)) := by kernel_rfl
theorem fresh_hoW {w0 w : World} {A : Option Addr} {n c : Nat} {xs : List UInt8} (h : Fresh w0 w A n c xs) : HO w 5 1 A n c (bs xs) := ⟨h.own⟩
theorem tim_tail {w : World} {z : Nat} {v e0 s : Int} {h : H32} {t : TypeId} (hb : HB w z t (timL v e0 s h).toArray) : HR w (some ⟨z, 3, none⟩) (bs h.l) := ⟨by
 have h1 := hb.rdL.drop 3
 simpa [Addr.add, timL] using h1⟩
set_option maxRecDepth 100000 in
set_option maxHeartbeats 1600000 in
theorem rEncodeTime_calls (v e0 s : Int) (h : H32) (w : World) :
    Calls Tryz.prog 46 #[.agg (timL v e0 s h).toArray] w (EncPost (timB v e0 s) (encAll [2, v, e0, s] ++ h.l) w) := by
 have hlen := timL_len v e0 s h
 unfold EncPost
 rcases hb : timB v e0 s with _ | _
 · go_enter Tryz.func46, Tryz.ntmps46
   go_wp2_with (first | ((with_reducible apply (wpl_box_agg (dst := some 1))); exact rfl; intro zt wzt _ _ _) | ((with_reducible apply wpl_loadrow); exact rfl; infer_instance; infer_instance; (first | (with_reducible assumption) | (with_reducible exact H32.size _) | kernel_rfl)))
   refine (rIsTime_calls v e0 s h _).mono ?_
   rw [hb]
   rintro e w5 ⟨rfl, _⟩
   go_wp2_with fail
   go_ret2
   exact ⟨stepN, rfl⟩
 · have HE : Hid ((encAll [2, v, e0, s]).length ≤ 36) := Lib.hid (encAll_len [2, v, e0, s])
   go_enter Tryz.func46, Tryz.ntmps46
   go_wp2_with (first | ((with_reducible apply (wpl_box_agg (dst := some 1))); exact rfl; intro zt wzt _ _ _) | ((with_reducible apply wpl_loadrow); exact rfl; infer_instance; infer_instance; (first | (with_reducible assumption) | (with_reducible exact H32.size _) | kernel_rfl)))
   refine (rIsTime_calls v e0 s h _).mono ?_
   rw [hb]
   rintro e w5 ⟨rfl, _⟩
   go_wp2_with fail
   have hr5 : HR w5 (some ⟨zt, 3, none⟩) (bs h.l) := tim_tail (inferInstance : HB w5 zt 54 (timL v e0 s h).toArray)
   have n5 : Nw w w5 := inferInstance
   have kb4 := run_int4 2 v e0 s
   refine wp_region_N (nowhere) (by kernel_rfl) (fun wd _ _ => ?_)
   refine' tk 0 _ rfl (by kernel_rfl) (by kernel_rfl) (by kernel_rfl) (fun _ _ _ h => h) (yo (by rfl) fun w' _ => ?_) inferInstance ?_
   rotate_left
   · (go_simp; try with_reducible rfl)
   try simp only [Act.put, sA, sB, sC]
   refine' tk 1 _ rfl (by kernel_rfl) (by kernel_rfl) (by kernel_rfl) (fun _ _ _ h => h) (yo (by rfl) fun w' _ => ?_) inferInstance ?_
   rotate_left
   · ((apply ev_loadcellN); exact rfl; infer_instance; infer_instance; exact rfl)
   try simp only [Act.put, sA, sB, sC]
   refine' tk 2 _ rfl (by kernel_rfl) (by kernel_rfl) (by kernel_rfl) (fun _ _ _ h => h) (yo (by rfl) fun w' _ => ?_) inferInstance ?_
   rotate_left
   · (go_simp; try with_reducible rfl)
   try simp only [Act.put, sA, sB, sC]
   refine' tk 3 _ rfl (by kernel_rfl) (by kernel_rfl) (by kernel_rfl) (fun _ _ _ h => h) (yo (by rfl) fun w' _ => ?_) inferInstance ?_
   rotate_left
   · ((apply ev_loadcellN); exact rfl; infer_instance; infer_instance; exact rfl)
   try simp only [Act.put, sA, sB, sC]
   refine' tk 4 _ rfl (by kernel_rfl) (by kernel_rfl) (by kernel_rfl) (fun _ _ _ h => h) (yo (by rfl) fun w' _ => ?_) inferInstance ?_
   rotate_left
   · (go_simp; try with_reducible rfl)
   try simp only [Act.put, sA, sB, sC]
   refine' tk 5 _ rfl (by kernel_rfl) (by kernel_rfl) (by kernel_rfl) (fun _ _ _ h => h) (yo (by rfl) fun w' _ => ?_) inferInstance ?_
   rotate_left
   · ((apply ev_loadcellN); exact rfl; infer_instance; infer_instance; exact rfl)
   try simp only [Act.put, sA, sB, sC]
   refine' tk 8 _ rfl (by kernel_rfl) (by kernel_rfl) (by kernel_rfl) (fun _ _ _ h => h) (yo (by rfl) fun w' _ => ?_) inferInstance ?_
   rotate_left
   · (go_simp; try with_reducible rfl)
   try simp only [Act.put, sA, sB, sC]
   refine' tk 9 _ rfl (by kernel_rfl) (by kernel_rfl) (by kernel_rfl) (fun _ _ _ h => h) (yo (by rfl) fun w' _ => ?_) inferInstance ?_
   rotate_left
   · ((apply (ev_sl_arrK (m := 32) (e := 5))); exact rfl; exact Tryz.underlying23; (kernel_rfl))
   try simp only [Act.put, sA, sB, sC]
   refine goH (i := 6) (by kernel_rfl) rfl (fun K_ hK_ => ?_)
   rw [if_pos (by kernel_rfl)]
   refine wpr_of_list ?_
   (first | ((with_reducible apply (stop_dst (dst := some 13))); (try simp only [Act.put, sA, sB, sC]); ((with_reducible apply (wpl_bslice (dst := some 13))); exact kb4 _; intro zi wb _ _ _)))
   refine wpList_nil ?_
   unfold onlyN
   refine hK_.out _ _ inferInstance (fun _ => ?_)
   clear hK_ K_
   try simp only [Act.put, sA, sB, sC]
   refine goH (i := 7) (by kernel_rfl) rfl (fun K_ hK_ => ?_)
   go_simp
   refine (refNums_calls (some ⟨zi, 0, none⟩) 4 4 [2, v, e0, s] _ (HB.rdL (z := zi) (t := 3) (cs := #[.int .i64 2, .int .i64 v, .int .i64 e0, .int .i64 s]) inferInstance) rfl (show 4 ≤ 1000000000 by decide)).mono ?_
   rintro e w6 ⟨A6, n6, c6, rfl, hF⟩
   have st6 : Step nowhere _ w6 := ⟨hF.out.chg⟩
   have hA6 : NewA w A6 := ⟨fun ad e => Nat.le_trans (Nat.le_trans n5.out.size (stepN (w0 := w5)).chg.size) (hF.out.new ad e)⟩
   have hA6d : NewA wd A6 := ⟨fun ad e => Nat.le_trans (stepN (w0 := wd)).chg.size (hF.out.new ad e)⟩
   have ho6 : HO w6 5 1 A6 n6 c6 (bs (encAll [2, v, e0, s])) := fresh_hoW hF.out
   have hn6 : n6 ≤ 36 := by
    have h1 := hF.out.len
    have := HE.out
    omega
   have HN : Hid (n6 = (encAll [2, v, e0, s]).length) := Lib.hid hF.out.len
   clear hF
   refine hK_.out _ _ inferInstance (fun _ => ?_)
   clear hK_ K_
   try simp only [Act.put, sA, sB, sC]
   refine goH (i := 10) (by kernel_rfl) rfl (fun K_ hK_ => ?_)
   rw [if_pos (by kernel_rfl)]
   refine wpr_of_list ?_
   (first | ((with_reducible apply (stop_dst (dst := some 13))); (try simp only [Act.put, sA, sB, sC]); ((with_reducible apply (wpl_bslice (dst := some 13))); exact kb4 _; intro zi wb _ _ _)) | ((with_reducible apply wpl_appendB); exact rfl; exact rfl; infer_instance; (first | exact inferInstance | exact ⟨Own.nil _ _ _⟩); infer_instance; (first | (with_reducible assumption) | (with_reducible exact H32.len _) | (focus (simp; done)) | omega); (first | (with_reducible assumption) | omega); intro A' c' wa _ _ _ hcap) | ((with_reducible apply wpl_appendH); exact rfl; exact rfl; infer_instance; (first | exact inferInstance | exact ⟨Own.nil _ _ _⟩); infer_instance; (first | (with_reducible assumption) | omega); intro A' c' wa _ _ _ hcap) | ((with_reducible apply (wpl_appendR (α := H32))); exact rfl; exact rfl; infer_instance; (first | exact inferInstance | exact ⟨Own.nil _ _ _⟩); infer_instance; exact rfl; (first | (with_reducible assumption) | (with_reducible exact H32.len _) | (focus (simp; done)) | omega); (first | (with_reducible assumption) | omega); (decide); (decide); intro A' c' wa _ _ _ hcap))
   refine wpList_nil ?_
   unfold onlyN
   refine hK_.out _ _ inferInstance (fun _ => ?_)
   clear hK_ K_
   try simp only [Act.put, sA, sB, sC]
   refine' tk 11 _ rfl (by kernel_rfl) (by kernel_rfl) (by kernel_rfl) (fun _ _ _ h => h) (yo (by rfl) fun w' _ => ?_) inferInstance ?_
   rotate_left
   · (go_simp; try with_reducible rfl)
   try simp only [Act.put, sA, sB, sC]
   refine' tk 12 _ rfl (by kernel_rfl) (by kernel_rfl) (by kernel_rfl) (fun _ _ _ h => h) (yo (by rfl) fun w' _ => ?_) inferInstance ?_
   rotate_left
   · (go_simp; try with_reducible rfl)
   try simp only [Act.put, sA, sB, sC]
   refine wpAnyH_done (by kernel_rfl) ?_ _
   go_wp2_with fail
   go_ret2
   refine ⟨stepN, A', n6 + 32, c', rfl, ?_, inferInstance, NewA.monoS (inferInstance : NewA wd A')⟩
   have h1 := HN.out
   simp [h1]
end Go.Proofs.YtgjnjhhhbkidbaaGreat
end
section
open Go Go.RowKit
namespace Go.Proofs.YtgjnjhhhbkidbaaGreat
theorem encRow_le (l : List UInt8) (h : l.length ≤ 1000000000) : (encRow l).length ≤ l.length + 9 := by
 have h1 := encAll_len [(l.length : Int)]
 rw [encAll_one] at h1
 have h2 : clampN (l.length : Int) = l.length := by unfold clampN; omega
 rw [h2] at h1
 unfold encRow
 rw [List.length_append]
 simp at h1
 omega
instance (priority := 600) Sub.grewW (w0 w : World) (A A' : Option Addr) (T : Nat → Prop) [g : Grew w A A'] [s : Sub w0 (rowOf A) T] [n : SzLe w0 w] : Sub w0 (rowOf A') T := ⟨fun x hx ⟨ad, e, hk⟩ => by
 rcases g.out with h1 | h1
 · exact s.out x hx ⟨ad, by rw [← h1]; exact e, hk⟩
 · have h2 := n.out
   rw [h1] at e
   injection e with e
   subst e
   have h3 : w.heap.size = x := hk
   omega⟩
set_option maxRecDepth 100000 in
theorem rText_calls (s : ByteArray) (l : List UInt8) (hl : s.data.toList = l) (hx : l.length ≤ 1000000000) (w : World) :
    Calls Tryz.prog 91 #[.string s] w fun e w' => ∃ A n c, e = .returned (.slice A n c) ∧ Hid (Fresh w w' A n c (encRow l)) := by
 go_enter Tryz.func91, Tryz.ntmps91
 go_wp2_with ((with_reducible apply (wpl_strN (l := l))); exact rfl; exact hl; exact Tryz.underlying9; exact Tryz.underlying29; exact Tryz.underlying5; intro cs wz _ _)
 refine (refBytes_calls (some ⟨w.heap.size, 0, none⟩) l.length cs l wz (inferInstance : HR wz (some ⟨w.heap.size, 0, none⟩) (bs l)).out rfl hx).mono ?_
 rintro e w5 ⟨A5, n5, c5, rfl, hF⟩
 have HF : Hid (Fresh w w5 A5 n5 c5 (encRow l)) := Lib.hid ⟨hF.out.own, hF.out.len, (stepN (w0 := w) (w := wz)).chg.trans hF.out.chg (fun _ _ h => h), fun ad e => Nat.le_trans (stepN (w0 := w) (w := wz)).chg.size (hF.out.new ad e)⟩
 clear hF
 go_wp2_with fail
 go_ret
 exact ⟨A5, n5, c5, rfl, HF⟩
end Go.Proofs.YtgjnjhhhbkidbaaGreat
end
section
open Go Go.RowKit
namespace Go.Proofs.YtgjnjhhhbkidbaaGreat
def flatH (l : List H32) : List UInt8 := l.flatMap (·.l)
theorem flatH_app (a b : List H32) : flatH (a ++ b) = flatH a ++ flatH b := by simp [flatH]
theorem flatH_take (l : List H32) (k : Nat) (h : k < l.length) : flatH (l.take (k + 1)) = flatH (l.take k) ++ (hget l k).l := by
 have e : l.take (k + 1) = l.take k ++ [hget l k] := by
  rw [List.take_add_one, List.getElem?_eq_getElem h]
  simp [hget, List.getD_eq_getElem?_getD, h]
 rw [e, flatH_app]
 simp [flatH]
def keyB (l : List H32) (need : Int) : List UInt8 := encAll [(l.length : Int)] ++ flatH l ++ encAll [need]
set_option maxRecDepth 100000 in
set_option maxHeartbeats 1600000 in
theorem rKeys_calls {A : Option Addr} {n c : Nat} {l : List H32} (need : Int) {w : World} [hr : HR w A (cellsOf l)] (hl : l.length = n) (hmax : n ≤ 1000) :
    Calls Tryz.prog 148 #[.agg #[.slice A n c, .int .i64 need]] w fun e w' => ∃ A' n' c', e = .returned (.slice A' n' c') ∧ Step nowhere w w' ∧ HO w' 5 1 A' n' c' (bs (keyB l need)) ∧ NewA w A' ∧ n' ≤ 18 + 32 * n := by
 have HLL := Lib.hid hl
 have HE1 : Hid ((encAll [(n : Int)]).length ≤ 9) := Lib.hid (encAll_len [(n : Int)])
 have HE2 : Hid ((encAll [need]).length ≤ 9) := Lib.hid (encAll_len [need])
 have HKB : Hid (keyB l need = encAll [(n : Int)] ++ flatH l ++ encAll [need]) := Lib.hid (by rw [keyB, hl])
 clear hl
 go_enter Tryz.func148, Tryz.ntmps148
 go_wp2_with (first | ((with_reducible apply (wpl_box_agg (dst := some 1))); exact rfl; intro zs wzs _ _ _) | ((with_reducible apply wpl_loadcellN); exact rfl; infer_instance; exact rfl))
 have hs5 : HB wzs zs 91 #[.slice A n c, .int .i64 need] := inferInstance
 refine (refNum_calls n _).mono ?_
 rintro e w6 ⟨A6, n6, c6, rfl, hF⟩
 have st6 : Step nowhere wzs w6 := ⟨hF.out.chg⟩
 have n5 : Nw w wzs := inferInstance
 have hA6 : NewA w A6 := ⟨fun ad e => Nat.le_trans n5.out.size (hF.out.new ad e)⟩
 have ho6 : HO w6 5 1 A6 n6 c6 (bs (encAll [(n : Int)] ++ flatH (l.take 0))) := by
  have h1 := fresh_hoW hF.out
  rw [← encAll_one] at h1
  simpa [flatH] using h1
 have hn6 : n6 ≤ 9 := by
  have h1 := hF.out.len
  rw [← encAll_one] at h1
  have := HE1.out
  omega
 have hs6 : HB w6 zs 91 #[.slice A n c, .int .i64 need] := inferInstance
 have os : OffB (rowOf A6) zs := ⟨fun ⟨ad, e, hk⟩ => by
  have h1 := hF.out.new ad e
  have h2 := hs5.out.lt
  omega⟩
 clear hF
 go_wp2_with fail
 go_loopw [3, 4] (fun bv iv wr => ∃ (k : Nat) (A1 : Option Addr) (n1 c1 : Nat), k ≤ n ∧ iv = .int .i64 (k : Int) ∧ bv = .slice A1 n1 c1 ∧ Step nowhere w wr ∧ HO wr 5 1 A1 n1 c1 (bs (encAll [(n : Int)] ++ flatH (l.take k))) ∧ NewA w A1 ∧ OffB (rowOf A1) zs ∧ n1 ≤ 9 + 32 * k ∧ HB wr zs 91 #[.slice A n c, .int .i64 need]) (fun _ iv _ => n - (intOf iv).toNat)
 case atStart => exact ⟨0, A6, n6, c6, Nat.zero_le _, rfl, rfl, stepN, ho6, hA6, os, by omega, hs6⟩
 case round =>
  clear ho6 hA6 os hn6 hs6 st6 n5 hs5
  obtain ⟨k, A1, n1, c1, hk, rfl, rfl, _, hO, hA1, os, hn1, hs⟩ := hrel
  have st : Step nowhere w wr := inferInstance
  have n1' : Nw w wr := ⟨st.chg⟩
  by_cases hlt : k < n
  · have hltI : (k : Int) < n := by omega
    have hln := HLL.out
    have hkl : k < l.length := by omega
    have hF : Fact' (k < l.length) := ⟨hkl⟩
    have htk := flatH_take l k hkl
    have HTK : Hid (encAll [(n : Int)] ++ flatH (l.take k) ++ (hget l k).l = encAll [(n : Int)] ++ flatH (l.take (k + 1))) := Lib.hid (by rw [htk, List.append_assoc])
    clear htk
    go_wp2_with (first | ((with_reducible apply wpl_loadcellN); exact rfl; infer_instance; exact rfl) | ((with_reducible apply wpl_indexH); exact rfl; exact rfl; infer_instance; infer_instance; (first | (with_reducible assumption) | omega); (first | (with_reducible assumption) | omega); (first | (with_reducible assumption) | omega)) | ((with_reducible apply wpl_sliceH); exact rfl; exact Tryz.underlying23; (kernel_rfl); infer_instance; (first | (with_reducible assumption) | omega)) | ((with_reducible apply wpl_appendB); exact rfl; exact rfl; infer_instance; (first | exact inferInstance | exact ⟨Own.nil _ _ _⟩); infer_instance; (first | (with_reducible assumption) | (with_reducible exact H32.len _) | (focus (simp; done)) | omega); (first | (with_reducible assumption) | omega); intro A' c' wa _ _ _ hcap))
    refine ⟨⟨k + 1, A', n1 + 32, c', by omega, by go_num, rfl, stepN, ?_, inferInstance, inferInstance, by omega, inferInstance⟩, by simp [intOf]; omega⟩
    rw [← HTK.out]
    infer_instance
  · have hltI : ¬ (k : Int) < n := by omega
    have hkn : k = n := by omega
    have hfin : l.take k = l := List.take_of_length_le (by have := HLL.out; omega)
    rw [hfin] at hO
    clear hkn hfin
    go_wp2_with (first | ((with_reducible apply wpl_loadcellN); exact rfl; infer_instance; exact rfl))
    refine (refNum_calls need _).mono ?_
    rintro e w7 ⟨A7, n7, c7, rfl, hF⟩
    have st7 : Step nowhere _ w7 := ⟨hF.out.chg⟩
    have hr7 : HR w7 A7 (bs (encAll [need])) := ⟨by rw [encAll_one]; exact hF.out.own.rd⟩
    have hl7 : (encAll [need]).length = n7 := by rw [encAll_one]; exact hF.out.len.symm
    have hn7 : n7 ≤ 9 := by
     have := HE2.out
     omega
    clear hF
    go_wp2_with (first | ((with_reducible apply wpl_appendB); exact rfl; exact rfl; infer_instance; (first | exact inferInstance | exact ⟨Own.nil _ _ _⟩); infer_instance; (first | (with_reducible assumption) | (with_reducible exact H32.len _) | (focus (simp; done)) | omega); (first | (with_reducible assumption) | omega); intro A' c' wa _ _ _ hcap))
    go_ret
    refine ⟨A', n1 + n7, c', rfl, stepN, ?_, inferInstance, by omega⟩
    rw [HKB.out]
    infer_instance
end Go.Proofs.YtgjnjhhhbkidbaaGreat
end
section
open Go Go.RowKit
namespace Go.Proofs.YtgjnjhhhbkidbaaGreat
/-- so many digests taken -/
def hS (s : RS) : Nat → RS
 | 0 => s
 | k + 1 => ((hS s k).raw 32).2
def hN (s : RS) : Nat → List H32
 | 0 => []
 | k + 1 => hN s k ++ [(hS s k).hsh]
theorem hN_len (s : RS) : ∀ k, (hN s k).length = k
 | 0 => rfl
 | k + 1 => by rw [hN, List.length_append, hN_len s k]; rfl
theorem hS_le (s : RS) : ∀ k, (hS s k).b.length ≤ s.b.length
 | 0 => Nat.le_refl _
 | k + 1 => Nat.le_trans ((hS s k).raw_l 32) (hS_le s k)
theorem flatH_snoc (l : List H32) (h : H32) : flatH (l ++ [h]) = flatH l ++ h.l := by simp [flatH]
theorem hS_back (s : RS) : ∀ k, (hS s k).e = false → s.e = false ∧ s.b = flatH (hN s k) ++ (hS s k).b
 | 0, h => ⟨h, rfl⟩
 | k + 1, h => by
  obtain ⟨h1, h2⟩ := hsh_back (s := hS s k) h
  obtain ⟨h3, h4⟩ := hS_back s k h1
  refine ⟨h3, ?_⟩
  rw [hN, flatH_snoc, List.append_assoc]
  show s.b = flatH (hN s k) ++ ((hS s k).hsh.l ++ ((hS s k).raw 32).2.b)
  rw [← h2]
  exact h4
theorem hS_mono (s : RS) (j : Nat) : ∀ k, (hS s k).e = false → j ≤ k → (hS s j).e = false
 | 0, h, hj => by
  obtain rfl : j = 0 := by omega
  exact h
 | k + 1, h, hj => by
  by_cases e : j = k + 1
  · subst e; exact h
  · exact hS_mono s j k (hsh_back (s := hS s k) h).1 (by omega)
/-- keys taken: the program's way -/
def kL (s : RS) : List H32 := if 4 < s.num.1 then [] else hN s.num.2 s.num.1
def kM (s : RS) : RS := if 4 < s.num.1 then RS.bad else hS s.num.2 s.num.1
def kD (s : RS) : Nat := (kM s).num.1
def kR (s : RS) : RS := (kM s).num.2
theorem kM_le (s : RS) : (kM s).b.length ≤ s.b.length := by
 unfold kM
 split
 · exact Nat.zero_le _
 · exact Nat.le_trans (hS_le _ _) (RS.num_le s)
theorem kR_le (s : RS) : (kR s).b.length ≤ s.b.length := Nat.le_trans (RS.num_le _) (kM_le s)
/-- the reference's way -/
def GotQ (s : RS) (l : List H32) (need : Nat) (s' : RS) : Prop := ∃ j, j ≤ 5 ∧ j ≤ s.num.1 ∧ (j = s.num.1 ∨ j = 5 ∨ (hS s.num.2 j).e = true) ∧ l = hN s.num.2 j ∧ need = (hS s.num.2 j).num.1 ∧ s' = (hS s.num.2 j).num.2
theorem GotQ.same {s s' : RS} {l : List H32} {need : Nat} (h : GotQ s l need s') (he : s'.e = false) (hl : l.length ≤ 4) : l = kL s ∧ need = kD s ∧ s' = kR s := by
 obtain ⟨j, h5, hn, hj, rfl, rfl, rfl⟩ := h
 have h1 := (num_back he).1
 rw [hN_len] at hl
 have e : j = s.num.1 := by
  rcases hj with h | h | h
  · exact h
  · omega
  · rw [h1] at h; cases h
 have h4 : ¬ 4 < s.num.1 := by omega
 rw [kL, kD, kR, kM, if_neg h4, if_neg h4, ← e]
 exact ⟨rfl, rfl, rfl⟩
theorem kM_e {s : RS} (h : (kR s).e = false) : (kM s).e = false := (num_back h).1
theorem kM_n {s : RS} (h : (kM s).e = false) : ¬ 4 < s.num.1 := fun h4 => by
 rw [kM, if_pos h4] at h
 cases h
theorem GotQ.prog {s s' : RS} {l : List H32} {need : Nat} (h : GotQ s l need s') (he : (kR s).e = false) : l = kL s ∧ need = kD s ∧ s' = kR s := by
 obtain ⟨j, h5, hn, hj, rfl, rfl, rfl⟩ := h
 have h1 := kM_e he
 have h4 := kM_n h1
 rw [kM, if_neg h4] at h1
 have e : j = s.num.1 := by
  rcases hj with h | h | h
  · exact h
  · omega
  · rw [hS_mono _ _ _ h1 hn] at h; cases h
 rw [kL, kD, kR, kM, if_neg h4, if_neg h4, ← e]
 exact ⟨rfl, rfl, rfl⟩
theorem key_back {s : RS} (he : (kR s).e = false) : s.e = false ∧ s.b = keyB (kL s) (kD s) ++ (kR s).b := by
 have h1 := kM_e he
 have h4 := kM_n h1
 obtain ⟨a1, a2, a3⟩ := num_back (s := kM s) he
 have e1 : kM s = hS s.num.2 s.num.1 := by rw [kM, if_neg h4]
 rw [e1] at h1
 obtain ⟨b1, b2⟩ := hS_back s.num.2 s.num.1 h1
 obtain ⟨c1, c2, c3⟩ := num_back (s := s) b1
 refine ⟨c1, ?_⟩
 have e2 : kL s = hN s.num.2 s.num.1 := by rw [kL, if_neg h4]
 have e3 : encAll [(kD s : Int)] = enc (kD s) := encN a3
 have e4 : encAll [((kL s).length : Int)] = enc s.num.1 := by rw [e2, hN_len]; exact encN c3
 rw [keyB, e4, e3, c2, List.append_assoc, List.append_assoc]
 congr 1
 rw [b2, ← e2, ← e1]
 congr 1
/-- so many keys taken -/
def kAt (s : RS) : Nat → RS
 | 0 => s
 | k + 1 => kR (kAt s k)
def kK (s : RS) : Nat → List (List H32 × Int)
 | 0 => []
 | k + 1 => kK s k ++ [(kL (kAt s k), (kD (kAt s k) : Int))]
def GotN : Nat → RS → List (List H32 × Int) → RS → Prop
 | 0, s, K, s' => K = [] ∧ s' = s
 | m + 1, s, K, s' => ∃ K' t l need, GotN m s K' t ∧ GotQ t l need s' ∧ K = K' ++ [(l, (need : Int))]
theorem GotN.same {s : RS} : ∀ (m : Nat) {K : List (List H32 × Int)} {s' : RS}, GotN m s K s' → s'.e = false → (∀ k ∈ K, k.1.length ≤ 4) → K = kK s m ∧ s' = kAt s m
 | 0, K, s', h, he, hk => h
 | m + 1, K, s', h, he, hk => by
  obtain ⟨K', t, l, need, h1, h2, rfl⟩ := h
  obtain ⟨rfl, rfl, rfl⟩ := h2.same he (hk (l, (need : Int)) (by simp))
  obtain ⟨rfl, rfl⟩ := GotN.same m h1 (key_back he).1 (fun k hk' => hk k (by simp [hk']))
  exact ⟨rfl, rfl⟩
theorem GotN.prog {s : RS} : ∀ (m : Nat) {K : List (List H32 × Int)} {s' : RS}, GotN m s K s' → (kAt s m).e = false → K = kK s m ∧ s' = kAt s m
 | 0, K, s', h, he => h
 | m + 1, K, s', h, he => by
  obtain ⟨K', t, l, need, h1, h2, rfl⟩ := h
  obtain ⟨rfl, rfl⟩ := GotN.prog m h1 (key_back he).1
  obtain ⟨rfl, rfl, rfl⟩ := h2.prog he
  exact ⟨rfl, rfl⟩
def keysB (K : List (List H32 × Int)) : List UInt8 := K.flatMap fun k => keyB k.1 k.2
def rtV (b : List UInt8) : Nat := (kindS 1 b).num.1
def rtX (b : List UInt8) : Nat := ((kindS 1 b).at 1).num.1
def rtS (b : List UInt8) : RS := (kindS 1 b).at 2
def rootB (v e : Int) (K : List (List H32 × Int)) : Bool := verB v && numB e && K.all fun k => isB k.1 k.2
/-- a root's bytes -/
def rootE (v e : Int) (K : List (List H32 × Int)) : List UInt8 := encAll [1] ++ (encAll [v, e] ++ keysB K)
def rtOk (b : List UInt8) : Bool := wholeB (kAt (rtS b) 4) && rootB (rtV b) (rtX b) (kK (rtS b) 4)
end Go.Proofs.YtgjnjhhhbkidbaaGreat
end
