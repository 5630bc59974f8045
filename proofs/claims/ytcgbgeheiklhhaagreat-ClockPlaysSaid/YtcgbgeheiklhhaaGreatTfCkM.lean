/- Conv, CkM -/
import Derived.Test.YtcgbgeheiklhhaaGreatTfBase
import Derived.Laws.BytesArg
import Derived.Laws.BytesString
import Derived.Test.YtcgbgeheiklhhaaGreatTfCkL
section
open Go Go.RowKit
namespace Go.Proofs.YtcgbgeheiklhhaaGreat
def strL (xs : List UInt8) : ByteArray := ⟨xs.toArray⟩
section
variable {P : Program} {ops : Array Oper} {rest : List Oper} {a : Act} {w : World} {Q : Exit → Act → World → Prop} {dst : Option Tmp} {ty : TypeId} {pos : String} {after : Array Edge}
theorem foldl_push (xs : List UInt8) (b : ByteArray) : (xs.map fun x => (x.toNat : Int)).foldl (fun a n => a.push (UInt8.ofNat n.toNat)) b = ⟨b.data ++ xs.toArray⟩ := by
  induction xs generalizing b with
  | nil => simp
  | cons x xs ih =>
    rw [List.map_cons, List.foldl_cons, ih]
    congr 1
    apply Array.ext'
    simp [ByteArray.push]
theorem run_convS {src td e : TypeId} {A : Option Addr} {n c : Nat} {xs : List UInt8} (hr : Rd w A (bs xs)) (hn : xs.length = n)
    (hs : P.underlying src = some (.slice e)) (he : P.underlying e = some (.int .u8)) (hd : P.underlying td = some .string) : (convert src td (.slice A n c)).run P w = .ok (.string (strL xs)) w := by
  cases A with
  | none =>
    have hx : xs = [] := by
      cases xs with
      | nil => rfl
      | cons x l => obtain ⟨ad, h, _⟩ := hr 0 _ rfl; cases h
    subst hx
    subst hn
    exact run_convert_bytes_nil w src e hs he _ c td hd
  | some ad =>
    have hl : (loadCells ad n).run P w = .ok ((xs.map fun x => (x.toNat : Int)).map (Value.int .u8)).toArray w := by
      have h := run_loadCells_list (P := P) w ad (bs xs) (fun j v hv => by
        obtain ⟨ad', e1, e2⟩ := hr j v hv
        injection e1 with e1
        subst e1
        exact e2)
      rw [bs_length, hn] at h
      rw [h, List.map_map]
      rfl
    rw [run_convert_bytes_string w src td e ad n c hs he hd, run_bytesToString w ad n c _ hl, foldl_push]
    simp [strL]
theorem wpl_conv {src td e : TypeId} {x : Operand} {A : Option Addr} {n c : Nat} {xs : List UInt8} (hx : a.eval x = .slice A n c) (hr : HR w A (bs xs)) (hn : xs.length = n)
    (hs : P.underlying src = some (.slice e)) (he : P.underlying e = some (.int .u8)) (hd : P.underlying td = some .string)
    (h : wpList P ops Q rest (a.put dst (.string (strL xs))) w) : wpList P ops Q (⟨dst, .convert src td x, ty, pos, after, none⟩ :: rest) a w :=
  wpl_of_run rfl (by
    show ((convert src td (a.eval x)) >>= fun v => pure (Next.value v)).run P w = _
    rw [hx, Sem.run_bind, run_convS hr.out hn hs he hd]
    rfl) h
end
end Go.Proofs.YtcgbgeheiklhhaaGreat
end
section
open Go Go.RowKit
namespace Go.Proofs.YtcgbgeheiklhhaaGreat
set_option maxRecDepth 100000 in
set_option maxHeartbeats 1600000 in
theorem sameNone_calls (w : World) :
    Calls Tryz.prog 9 #[.agg #[.slice none 0 0, .slice none 0 0], .agg #[.slice none 0 0, .slice none 0 0]] w fun e w' => e = .returned (.bool true) ∧ Step nowhere w w' := by
  have hse : ((strL []).toList == (strL []).toList) = true := by simp
  go_enter Tryz.func9, Tryz.ntmps9
  go_wp2_with (first | ((with_reducible apply (wpl_conv (xs := []))); (exact rfl); (exact HR.nilB _); (exact rfl); (exact Tryz.underlying36); (exact Tryz.underlying5); (exact Tryz.underlying9)) | ((with_reducible apply (wpl_box_agg (dst := some 2))); (exact rfl); intro z2 wz2 _ _ _) | ((with_reducible apply (wpl_box_agg (dst := some 3))); (exact rfl); intro z3 wz3 _ _ _) | ((with_reducible apply (wpl_guard (op := .load _ _))); (exact rfl)) | ((with_reducible apply (wpl_guard (op := .fieldAddr _ _ _))); (exact rfl)) | ((with_reducible apply wpl_loadcellN); (exact rfl); infer_instance; (exact rfl)))
  go_loopw [5] (fun iv wr => iv = .int .i64 0 ∧ Step nowhere w wr ∧ HB wr z2 39 #[.slice none 0 0, .slice none 0 0]) (fun _ _ => 0)
  case atStart => exact ⟨rfl, stepN, inferInstance⟩
  case round =>
    obtain ⟨rfl, _, _⟩ := hrel
    go_wp2_with (first | ((with_reducible apply wpl_loadcellN); (exact rfl); infer_instance; (exact rfl)))
    go_ret
    exact ⟨rfl, stepN⟩
set_option maxRecDepth 100000 in
set_option maxHeartbeats 1600000 in
theorem sameOne_calls {b : List UInt8} {M M' A A' : Option Addr} {n c m d : Nat} {r q : MarkR} {w : World} [hM : HR w M (bs b)] [hM' : HR w M' (bs b)] [hA : HR w A (cellsOf [r])] [hA' : HR w A' (cellsOf [q])] [h1 : HR w r.A (cellsOf r.l)] [h2 : HR w r.B (cellsOf r.p)] [h3 : HR w q.A (cellsOf q.l)] [h4 : HR w q.B (cellsOf q.p)]
    (hl : b.length = n) (hl' : b.length = m) (hk : r.key = q.key) (hlf : r.leaf = q.leaf) (hL : r.l = q.l) (hP : r.p = q.p) (hs1 : r.l.length ≤ 1000000000) (hs2 : r.p.length ≤ 1000000000) :
    Calls Tryz.prog 9 #[.agg #[.slice M n c, .slice A 1 1], .agg #[.slice M' m d, .slice A' 1 1]] w fun e w' => e = .returned (.bool true) ∧ Step nowhere w w' := by
  have hse : ((strL b).toList == (strL b).toList) = true := by simp
  have hne := neqH
  have hkk : decide (r.key = q.key) = true := decide_eq_true hk
  have HS1 := Lib.hid hs1
  have HS2 := Lib.hid hs2
  have HSS : Hid (sameS r.leaf r.l r.p q.leaf q.l q.p = true) := Lib.hid (by rw [hlf, hL, hP]; exact sameS_self _ _ _)
  have H1 := Lib.hid h1.out
  have H2 := Lib.hid h2.out
  have H3 := Lib.hid h3.out
  have H4 := Lib.hid h4.out
  clear hk hlf hL hP hs1 hs2
  go_enter Tryz.func9, Tryz.ntmps9
  go_wp2_with (first | ((with_reducible apply (wpl_box_agg (dst := some 2))); (exact rfl); intro z2 wz2 _ _ _) | ((with_reducible apply (wpl_box_agg (dst := some 3))); (exact rfl); intro z3 wz3 _ _ _) | ((with_reducible apply (wpl_guard (op := .load _ _))); (exact rfl)) | ((with_reducible apply (wpl_guard (op := .fieldAddr _ _ _))); (exact rfl)) | ((with_reducible apply wpl_loadcellN); (exact rfl); infer_instance; (exact rfl)) | ((with_reducible apply wpl_conv); (exact rfl); infer_instance; (first | (with_reducible assumption) | (focus (simp; done)) | omega); (exact Tryz.underlying36); (exact Tryz.underlying5); (exact Tryz.underlying9)))
  go_loopw [5] (fun iv wr => ∃ k : Nat, k ≤ 1 ∧ iv = .int .i64 (k : Int) ∧ Step nowhere w wr ∧ HB wr z2 39 #[.slice M n c, .slice A 1 1] ∧ HB wr z3 39 #[.slice M' m d, .slice A' 1 1]) (fun iv _ => 1 - (intOf iv).toNat)
  case atStart => exact ⟨0, Nat.zero_le _, rfl, stepN, inferInstance, inferInstance⟩
  case round =>
    obtain ⟨k, hk, rfl, _, _, _⟩ := hrel
    by_cases hlt : k < 1
    · have hltI : (k : Int) < 1 := by omega
      have hkr : k < [r].length := hlt
      have hkq : k < [q].length := hlt
      have hgr : gt [r] k = r := by rw [show k = 0 by omega]; rfl
      have hgq : gt [q] k = q := by rw [show k = 0 by omega]; rfl
      have nr : Nw w wr := inferInstance
      have hv1 : ((RowC.enc (gt [r] k)).drop 0).take 32 = bs r.key.l := by rw [hgr]; exact mark_key r
      have hv2 : ((RowC.enc (gt [q] k)).drop 0).take 32 = bs q.key.l := by rw [hgq]; exact mark_key q
      have hv3 : ((RowC.enc (gt [r] k)).drop 32).take 3 = [.int .i64 r.leaf, .slice r.A r.l.length r.c, .slice r.B r.p.length r.k] := by rw [hgr]; exact mark_sig r
      have hv4 : ((RowC.enc (gt [q] k)).drop 32).take 3 = [.int .i64 q.leaf, .slice q.A q.l.length q.c, .slice q.B q.p.length q.k] := by rw [hgq]; exact mark_sig q
      have HKK : Hid ((!decide (r.key = q.key)) = false) := Lib.hid (by rw [hkk]; rfl)
      clear hgr hgq
      go_wp2_with (first | ((with_reducible apply wpl_loadcellN); (exact rfl); infer_instance; (exact rfl)))
      refine wp_region_N (nowhere) (by kernel_rfl) (fun wd _ _ => ?_)
      refine' takeH (i := 0) (v := _) rfl (by kernel_rfl) (by kernel_rfl) (by kernel_rfl) (fun _ _ _ h => h) (yields_of (by rfl) (fun w' _ => ?_)) inferInstance ?_
      rotate_left
      · (go_simp; try with_reducible rfl)
      try simp only [Act.put, sA]; try simp only [sB, sC]
      refine' takeH (i := 1) (v := _) rfl (by kernel_rfl) (by kernel_rfl) (by kernel_rfl) (fun _ _ _ h => h) (yields_of (by rfl) (fun w' _ => ?_)) inferInstance ?_
      rotate_left
      · ((with_reducible apply ev_loadcellN); (exact rfl); infer_instance; infer_instance; (exact rfl))
      try simp only [Act.put, sA]; try simp only [sB, sC]
      refine' takeH (i := 2) (v := _) rfl (by kernel_rfl) (by kernel_rfl) (by kernel_rfl) (fun _ _ _ h => h) (yields_of (by rfl) (fun w' _ => ?_)) inferInstance ?_
      rotate_left
      · (go_simp; try with_reducible rfl)
      try simp only [Act.put, sA]; try simp only [sB, sC]
      refine' takeH (i := 3) (v := _) rfl (by kernel_rfl) (by kernel_rfl) (by kernel_rfl) (fun _ _ _ h => h) (yields_of (by rfl) (fun w' _ => ?_)) inferInstance ?_
      rotate_left
      · ((with_reducible apply (ev_indexE (α := MarkR) (t := 37))); (exact rfl); (exact rfl); infer_instance; infer_instance; (first | (with_reducible assumption) | omega | (focus (simp; done)) | (focus (simp; omega; done)) | decide); (exact rfl); (decide); (first | (with_reducible assumption) | omega | (focus (simp; done)) | (focus (simp; omega; done)) | decide))
      try simp only [Act.put, sA]; try simp only [sB, sC]
      refine' takeH (i := 4) (v := _) rfl (by kernel_rfl) (by kernel_rfl) (by kernel_rfl) (fun _ _ _ h => h) (yields_of (by rfl) (fun w' _ => ?_)) inferInstance ?_
      rotate_left
      · ((with_reducible apply (ev_fieldE (t := 67))); (exact Tryz.underlying67); (exact rfl); (kernel_rfl); (exact rfl); infer_instance; (exact cells_pos (by decide) (by omega)))
      try simp only [Act.put, sA]; try simp only [sB, sC]
      refine' takeH (i := 5) (v := _) rfl (by kernel_rfl) (by kernel_rfl) (by kernel_rfl) (fun _ _ _ h => h) (yields_of (by rfl) (fun w' _ => ?_)) inferInstance ?_
      rotate_left
      · ((with_reducible apply (ev_loadEPH (α := MarkR) (t := 23) (j := 0) (s := 35))); infer_instance; (exact rfl); infer_instance; (exact rfl); (first | (with_reducible assumption) | omega); (exact hv1))
      try simp only [Act.put, sA]; try simp only [sB, sC]
      refine' takeH (i := 6) (v := _) rfl (by kernel_rfl) (by kernel_rfl) (by kernel_rfl) (fun _ _ _ h => h) (yields_of (by rfl) (fun w' _ => ?_)) inferInstance ?_
      rotate_left
      · (go_simp; try with_reducible rfl)
      try simp only [Act.put, sA]; try simp only [sB, sC]
      refine' takeH (i := 7) (v := _) rfl (by kernel_rfl) (by kernel_rfl) (by kernel_rfl) (fun _ _ _ h => h) (yields_of (by rfl) (fun w' _ => ?_)) inferInstance ?_
      rotate_left
      · ((with_reducible apply ev_loadcellN); (exact rfl); infer_instance; infer_instance; (exact rfl))
      try simp only [Act.put, sA]; try simp only [sB, sC]
      refine' takeH (i := 8) (v := _) rfl (by kernel_rfl) (by kernel_rfl) (by kernel_rfl) (fun _ _ _ h => h) (yields_of (by rfl) (fun w' _ => ?_)) inferInstance ?_
      rotate_left
      · (go_simp; try with_reducible rfl)
      try simp only [Act.put, sA]; try simp only [sB, sC]
      refine' takeH (i := 9) (v := _) rfl (by kernel_rfl) (by kernel_rfl) (by kernel_rfl) (fun _ _ _ h => h) (yields_of (by rfl) (fun w' _ => ?_)) inferInstance ?_
      rotate_left
      · ((with_reducible apply (ev_indexE (α := MarkR) (t := 37))); (exact rfl); (exact rfl); infer_instance; infer_instance; (first | (with_reducible assumption) | omega | (focus (simp; done)) | (focus (simp; omega; done)) | decide); (exact rfl); (decide); (first | (with_reducible assumption) | omega | (focus (simp; done)) | (focus (simp; omega; done)) | decide))
      try simp only [Act.put, sA]; try simp only [sB, sC]
      refine' takeH (i := 10) (v := _) rfl (by kernel_rfl) (by kernel_rfl) (by kernel_rfl) (fun _ _ _ h => h) (yields_of (by rfl) (fun w' _ => ?_)) inferInstance ?_
      rotate_left
      · ((with_reducible apply (ev_fieldE (t := 67))); (exact Tryz.underlying67); (exact rfl); (kernel_rfl); (exact rfl); infer_instance; (exact cells_pos (by decide) (by omega)))
      try simp only [Act.put, sA]; try simp only [sB, sC]
      refine' takeH (i := 11) (v := _) rfl (by kernel_rfl) (by kernel_rfl) (by kernel_rfl) (fun _ _ _ h => h) (yields_of (by rfl) (fun w' _ => ?_)) inferInstance ?_
      rotate_left
      · ((with_reducible apply (ev_loadEPH (α := MarkR) (t := 23) (j := 0) (s := 35))); infer_instance; (exact rfl); infer_instance; (exact rfl); (first | (with_reducible assumption) | omega); (exact hv2))
      try simp only [Act.put, sA]; try simp only [sB, sC]
      refine' takeH (i := 12) (v := _) rfl (by kernel_rfl) (by kernel_rfl) (by kernel_rfl) (fun _ _ _ h => h) (yields_of (by rfl) (fun w' _ => ?_)) inferInstance ?_
      rotate_left
      · (go_simp; try with_reducible rfl)
      try simp only [Act.put, sA]; try simp only [sB, sC]
      try simp only [HKK.out]
      refine' takeH (i := 13) (v := _) rfl (by kernel_rfl) (by kernel_rfl) (by kernel_rfl) (fun _ _ _ h => h) (yields_of (by rfl) (fun w' _ => ?_)) inferInstance ?_
      rotate_left
      · (go_simp; try with_reducible rfl)
      try simp only [Act.put, sA]; try simp only [sB, sC]
      refine' takeH (i := 14) (v := _) rfl (by kernel_rfl) (by kernel_rfl) (by kernel_rfl) (fun _ _ _ h => h) (yields_of (by rfl) (fun w' _ => ?_)) inferInstance ?_
      rotate_left
      · (go_simp; try with_reducible rfl)
      try simp only [Act.put, sA]; try simp only [sB, sC]
      refine' takeH (i := 15) (v := _) rfl (by kernel_rfl) (by kernel_rfl) (by kernel_rfl) (fun _ _ _ h => h) (yields_of (by rfl) (fun w' _ => ?_)) inferInstance ?_
      rotate_left
      · ((with_reducible apply ev_loadcellN); (exact rfl); infer_instance; infer_instance; (exact rfl))
      try simp only [Act.put, sA]; try simp only [sB, sC]
      refine' takeH (i := 16) (v := _) rfl (by kernel_rfl) (by kernel_rfl) (by kernel_rfl) (fun _ _ _ h => h) (yields_of (by rfl) (fun w' _ => ?_)) inferInstance ?_
      rotate_left
      · (go_simp; try with_reducible rfl)
      try simp only [Act.put, sA]; try simp only [sB, sC]
      refine' takeH (i := 17) (v := _) rfl (by kernel_rfl) (by kernel_rfl) (by kernel_rfl) (fun _ _ _ h => h) (yields_of (by rfl) (fun w' _ => ?_)) inferInstance ?_
      rotate_left
      · ((with_reducible apply (ev_indexE (α := MarkR) (t := 37))); (exact rfl); (exact rfl); infer_instance; infer_instance; (first | (with_reducible assumption) | omega | (focus (simp; done)) | (focus (simp; omega; done)) | decide); (exact rfl); (decide); (first | (with_reducible assumption) | omega | (focus (simp; done)) | (focus (simp; omega; done)) | decide))
      try simp only [Act.put, sA]; try simp only [sB, sC]
      refine' takeH (i := 18) (v := _) rfl (by kernel_rfl) (by kernel_rfl) (by kernel_rfl) (fun _ _ _ h => h) (yields_of (by rfl) (fun w' _ => ?_)) inferInstance ?_
      rotate_left
      · ((with_reducible apply (ev_fieldE (t := 67))); (exact Tryz.underlying67); (exact rfl); (kernel_rfl); (exact rfl); infer_instance; (exact cells_pos (by decide) (by omega)))
      try simp only [Act.put, sA]; try simp only [sB, sC]
      refine' takeH (i := 19) (v := _) rfl (by kernel_rfl) (by kernel_rfl) (by kernel_rfl) (fun _ _ _ h => h) (yields_of (by rfl) (fun w' _ => ?_)) inferInstance ?_
      rotate_left
      · ((with_reducible apply (ev_loadEP (α := MarkR) (t := 63) (j := 32) (s := 35))); infer_instance; (exact rfl); infer_instance; (exact rfl); (decide); (first | (with_reducible assumption) | omega); (exact hv3); (exact rfl))
      try simp only [Act.put, sA]; try simp only [sB, sC]
      refine' takeH (i := 20) (v := _) rfl (by kernel_rfl) (by kernel_rfl) (by kernel_rfl) (fun _ _ _ h => h) (yields_of (by rfl) (fun w' _ => ?_)) inferInstance ?_
      rotate_left
      · (go_simp; try with_reducible rfl)
      try simp only [Act.put, sA]; try simp only [sB, sC]
      refine' takeH (i := 21) (v := _) rfl (by kernel_rfl) (by kernel_rfl) (by kernel_rfl) (fun _ _ _ h => h) (yields_of (by rfl) (fun w' _ => ?_)) inferInstance ?_
      rotate_left
      · ((with_reducible apply ev_loadcellN); (exact rfl); infer_instance; infer_instance; (exact rfl))
      try simp only [Act.put, sA]; try simp only [sB, sC]
      refine' takeH (i := 22) (v := _) rfl (by kernel_rfl) (by kernel_rfl) (by kernel_rfl) (fun _ _ _ h => h) (yields_of (by rfl) (fun w' _ => ?_)) inferInstance ?_
      rotate_left
      · (go_simp; try with_reducible rfl)
      try simp only [Act.put, sA]; try simp only [sB, sC]
      refine' takeH (i := 23) (v := _) rfl (by kernel_rfl) (by kernel_rfl) (by kernel_rfl) (fun _ _ _ h => h) (yields_of (by rfl) (fun w' _ => ?_)) inferInstance ?_
      rotate_left
      · ((with_reducible apply (ev_indexE (α := MarkR) (t := 37))); (exact rfl); (exact rfl); infer_instance; infer_instance; (first | (with_reducible assumption) | omega | (focus (simp; done)) | (focus (simp; omega; done)) | decide); (exact rfl); (decide); (first | (with_reducible assumption) | omega | (focus (simp; done)) | (focus (simp; omega; done)) | decide))
      try simp only [Act.put, sA]; try simp only [sB, sC]
      refine' takeH (i := 24) (v := _) rfl (by kernel_rfl) (by kernel_rfl) (by kernel_rfl) (fun _ _ _ h => h) (yields_of (by rfl) (fun w' _ => ?_)) inferInstance ?_
      rotate_left
      · ((with_reducible apply (ev_fieldE (t := 67))); (exact Tryz.underlying67); (exact rfl); (kernel_rfl); (exact rfl); infer_instance; (exact cells_pos (by decide) (by omega)))
      try simp only [Act.put, sA]; try simp only [sB, sC]
      refine' takeH (i := 25) (v := _) rfl (by kernel_rfl) (by kernel_rfl) (by kernel_rfl) (fun _ _ _ h => h) (yields_of (by rfl) (fun w' _ => ?_)) inferInstance ?_
      rotate_left
      · ((with_reducible apply (ev_loadEP (α := MarkR) (t := 63) (j := 32) (s := 35))); infer_instance; (exact rfl); infer_instance; (exact rfl); (decide); (first | (with_reducible assumption) | omega); (exact hv4); (exact rfl))
      try simp only [Act.put, sA]; try simp only [sB, sC]
      refine goH (i := 26) (by kernel_rfl) rfl (fun K_ hK_ => ?_)
      go_simp
      refine (rsame_calls (l1 := r.l) (l2 := r.p) (m1 := q.l) (m2 := q.p) rfl rfl rfl rfl HS1.out HS2.out).mono ?_
      rw [HSS.out]
      rintro e w5 ⟨rfl, _⟩
      refine hK_.out _ _ inferInstance (fun _ => ?_)
      clear hK_ K_
      try simp only [Act.put, sA]; try simp only [sB, sC]
      refine' takeH (i := 27) (v := _) rfl (by kernel_rfl) (by kernel_rfl) (by kernel_rfl) (fun _ _ _ h => h) (yields_of (by rfl) (fun w' _ => ?_)) inferInstance ?_
      rotate_left
      · (go_simp; try with_reducible rfl)
      try simp only [Act.put, sA]; try simp only [sB, sC]
      refine' takeH (i := 28) (v := _) rfl (by kernel_rfl) (by kernel_rfl) (by kernel_rfl) (fun _ _ _ h => h) (yields_of (by rfl) (fun w' _ => ?_)) inferInstance ?_
      rotate_left
      · (go_simp; try with_reducible rfl)
      try simp only [Act.put, sA]; try simp only [sB, sC]
      refine wpAnyH_done (by kernel_rfl) ?_ _
      go_wp2_with fail
      exact ⟨⟨k + 1, by omega, by go_num, stepN, inferInstance, inferInstance⟩, by simp [intOf]; omega⟩
    · have hltI : ¬ (k : Int) < 1 := by omega
      obtain rfl : k = 1 := by omega
      go_wp2_with (first | ((with_reducible apply wpl_loadcellN); (exact rfl); infer_instance; (exact rfl)))
      go_ret
      exact ⟨rfl, stepN⟩
end Go.Proofs.YtcgbgeheiklhhaaGreat
end
