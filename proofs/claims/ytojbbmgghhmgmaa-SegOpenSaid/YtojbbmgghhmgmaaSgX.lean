/- SegOpen. -/
import Derived.Test.YtojbbmgghhmgmaaSgU
open Go Go.RowKit Go.Maps Go.MapKept Go.ChangeMaps Go.WideShapes Go.WideMaps
namespace Go.Proofs.Ytojbbmgghhmgmaa
instance mapB : MapT Try.prog 56 3 4 (.bool false) := ⟨Try.underlying3, Try.underlying56, fun _ => by kernel_rfl⟩
theorem MapIV.pos {P : Program} {kt : TypeId} {z : Value} {w : World} {g m : Nat} {f : Int → Option Value} (h : MapIV P kt z w g m f) (hk : P.underlying kt = some (.int .i64)) {k : Int} (hs : (f k).isSome = true) : 1 ≤ m := by
  obtain ⟨D, h1, h3, h2⟩ := h
  have := Maps.size_del (k := .int .i64 k) (h1.tidy (int_keyed hk))
  rw [(h2 k).1, hs, h3] at this
  simp at this
  omega
def openD : List UInt8 := [16, 20, 1, 2, 3, 4, 5, 6]
def openM : Msg := ⟨[1, 2, 3, 4, 5, 6], 20, 1, 1⟩
set_option maxRecDepth 100000 in
theorem open_take {s : St} {k : Int} (h : ∀ v, s.G k = some v → v.last = 1) : takeS s k openD 1 = ((s.drop k).put k openM, none) := by
  have hl : lateS s k 1 = s := by
    cases hg : s.G k with
    | none => exact late_none 1 hg
    | some v => exact late_some hg (by rw [h v hg]; decide)
  unfold takeS
  rw [hl]
  rfl
theorem open_m (s : St) (k : Int) : ((s.drop k).put k openM).m = if (s.G k).isSome then s.m - 1 + 1 else s.m + 1 := by
  have h0 : ((s.drop k).put k openM).m = (s.drop k).m + 1 := by
    show (if ((s.drop k).G k).isSome then (s.drop k).m else (s.drop k).m + 1) = _
    rw [drop_at]
    rfl
  rw [h0]
  cases h : s.G k with
  | none => rw [drop_none h]; rfl
  | some v =>
    rw [drop_some h]
    show (if (s.G k).isSome then s.m - 1 else s.m) + 1 = _
    rw [h]
    rfl
theorem open_N (s : St) (k : Int) : ((s.drop k).put k openM).N = if (s.G k).isSome then s.N + 1 else s.N := by
  show (s.drop k).N = _
  cases h : s.G k with
  | none => rw [drop_none h]; rfl
  | some v => rw [drop_some h]; rfl
theorem open_G (s : St) (k x : Int) : ((s.drop k).put k openM).G x = if x = k then some openM else s.G x := by
  show (if x = k then some openM else (s.drop k).G x) = _
  split
  · rfl
  · rename_i h
    rw [drop_G, if_neg h]
section
variable {P : Program} {kt et : TypeId} {z : Value} {ops : Array Oper} {rest : List Oper} {a : Act} {w : World} {Q : Exit → Act → World → Prop} {dst : Option Tmp} {ty : TypeId} {pos : String} {after : Array Edge}
theorem wpl_lookMI1E {mt : TypeId} {x k : Operand} {g m : Nat} {f : Int → Option Value} {i : Int} {v : Value} (hm : a.eval x = .map (some g)) (hx : a.eval k = .int .i64 i) (T : MapT P mt kt et z) (hs : HMI P kt z w g m f) (hk : (Lit.int .i64 i).wf = true) (hv : (f i).getD z = v)
    (h : wpList P ops Q rest (a.put dst v) w) : wpList P ops Q (⟨dst, .lookup mt x k false, ty, pos, after, none⟩ :: rest) a w := by
  subst hv
  exact wpl_lookMI1 hm hx T hs hk h
theorem wpl_putMIE {mt : TypeId} {x k y : Operand} {g m : Nat} {f : Int → Option Value} {i : Int} {v : Value} (m' : Nat) (hm : a.eval x = .map (some g)) (hx : a.eval k = .int .i64 i) (hy : a.eval y = v) (T : MapT P mt kt et z) (hs : HMI P kt z w g m f) (hn : m < maxLen) (hk : (Lit.int .i64 i).wf = true) (hm' : (if (f i).isSome then m else m + 1) = m')
    (h : ∀ w', Step (only g) w w' → HMI P kt z w' g m' (fun x => if x = i then some v else f x) → wpList P ops Q rest (a.put dst undef) w') : wpList P ops Q (⟨dst, .mapUpdate mt x k y, ty, pos, after, none⟩ :: rest) a w := by
  subst hm'
  exact wpl_putMI hm hx hy T hs hn hk h
theorem wpl_and7 {x y : Operand} {t t' : TypeId} {k : IntKind} {p q r : Int} (hx : a.eval x = .int k p) (hy : a.eval y = .int k q) (hr : ∀ w, (binOp .and t (.int k p) (.int k q)).run P w = .ok (.int k r) w)
    (h : wpList P ops Q rest (a.put dst (.int k r)) w) : wpList P ops Q (⟨dst, .binOp .and t x y t', ty, pos, after, none⟩ :: rest) a w :=
  wpl_of_run rfl (by
    show ((binOp .and t (a.eval x) (a.eval y)) >>= fun v => pure (Next.value v)).run P w = _
    rw [hx, hy, Sem.run_bind, hr]
    rfl) h
end
theorem and7 (x : Int) : ∃ g : Nat, (∀ w, (binOp .and 3 (.int .i64 x) (.int .i64 7)).run Try.prog w = .ok (.int .i64 (g : Int)) w) ∧ g ≤ 7 := by
  refine ⟨(BitVec.ofInt 64 x &&& BitVec.ofInt 64 (7 : Int)).toNat, fun w => ?_, ?_⟩
  · have hle : (BitVec.ofInt 64 x &&& BitVec.ofInt 64 (7 : Int)).toNat ≤ 7 := by
      rw [BitVec.toNat_and]
      exact Nat.le_trans Nat.and_le_right (by decide)
    have e : bits .and .i64 x 7 = (((BitVec.ofInt 64 x &&& BitVec.ofInt 64 (7 : Int)).toNat : Nat) : Int) := by
      show IntKind.i64.wrap ((BitVec.ofInt 64 x &&& BitVec.ofInt 64 (7 : Int)).toNat : Int) = _
      rw [IntKind.wrap_i64]
      omega
    rw [← e]
    rfl
  · rw [BitVec.toNat_and]
    exact Nat.le_trans Nat.and_le_right (by decide)
instance bornMB (w : World) (y g m : Nat) (f : Int → Option Value) [b : Born w y] [h : HMI Try.prog 3 (.bool false) w g m f] : OffB (only y) g := OffB.bornMI w y g m f h.out
instance : ElemT Try.prog 55 3 1 8 (.int .i64 0) := ⟨⟨Try.underlying55, by kernel_rfl, rfl, by decide⟩⟩
set_option maxRecDepth 100000 in
set_option maxHeartbeats 3200000 in
theorem segOpen_calls {A : Option Addr} {n c : Nat} (ids : List Int) {w : World} [h : HR w A (ids.map (Value.int .i64))] (hn : ids.length = n) (hmax : n ≤ 9223372036854775807) :
    Calls Try.prog 10 #[.slice A n c] w fun e w' => e = .returned (.bool true) ∧ Chg nowhere w w' := by
  by_cases c1 : 60 < n
  · have i1 : (60 : Int) < n := by omega
    go_enter Try.func10, Try.ntmps10
    go_wp2_with fail
    go_ret
    exact ⟨rfl, Chg.refl _ _⟩
  have i1 : ¬ (60 : Int) < n := by omega
  have kb8 : ∀ w, (Instr.buildSlice 22 8 #[(0, .int .u8 16), (1, .int .u8 20), (2, .int .u8 1), (3, .int .u8 2), (4, .int .u8 3), (5, .int .u8 4), (6, .int .u8 5), (7, .int .u8 6)]).run Try.prog w = .ok (.slice (some ⟨w.heap.size, 0, none⟩) 8 8) (w.alloc (.cells (u8s openD) 5)) := fun _ => by kernel_rfl
  go_enter Try.func10, Try.ntmps10
  go_wp2_with fail
  refine (newJ_calls _).mono ?_
  rintro e w1 ⟨z, rfl, hs1, hJ1, hz⟩
  go_wp2_with (first | go_skip | ((with_reducible apply wpl_makeMI); (exact mapB); intro gs wg hBo sG hMI) | ((with_reducible apply wpl_loadrow); (exact rfl); (exact inferInstance); (exact inferInstance); (first | (with_reducible assumption) | (with_reducible exact H32.size _) | kernel_rfl)) | ((with_reducible apply wpl_loadcellN); (exact rfl); (exact inferInstance); (exact rfl)))
  have hgs : w.heap.size ≤ gs := by rw [hBo.eq]; exact (stepN (w0 := w) (w := w1)).chg.size
  have hzg : ¬ only z gs := fun hk => by
    have h1 := hJ1.lt
    have h2 := hBo.eq
    have hk' : gs = z := hk
    omega
  go_loopw [5, 6] (fun ev iv wr => ∃ (i E m : Nat) (S : Nat → Prop) (s : St) (f : Int → Option Value), i ≤ n ∧ E ≤ i ∧ m ≤ i ∧ ev = .int .i64 (E : Int) ∧ iv = .int .i64 (i : Int) ∧ JS wr z S s ∧ (∀ x, S x → w.heap.size ≤ x) ∧ ¬ S gs ∧ Step nowhere w wr ∧ HMI Try.prog 3 (.bool false) wr gs m f ∧ Hid (∀ x, f x = (s.G x).map fun _ => Value.bool true) ∧ Hid (∀ x v, s.G x = some v → v.last = 1) ∧ Hid (s.N = E) ∧ Hid (s.m = m)) (fun _ iv _ => n - (intOf iv).toNat)
  case atStart => exact ⟨0, 0, 0, _, _, _, Nat.zero_le _, Nat.le_refl _, Nat.le_refl _, rfl, rfl, hJ1.calm sG.chg (fun _ _ hk => hk), fun x hx => by rw [show x = z from hx]; exact hz, hzg, stepN, hMI, Lib.hid (fun x => rfl), Lib.hid (fun x v hv => by cases hv), Lib.hid rfl, Lib.hid rfl⟩
  case round =>
    obtain ⟨i, E, m, S, s, f, hi, hE, hm, rfl, rfl, hJ, hS, hSg, _, hI, HF, HLA, HN, HMM⟩ := hrel
    by_cases hlt : i < n
    · have hltI : (i : Int) < n := by omega
      have hvl : 0 < (ids.map (Value.int .i64)).length := by simp; omega
      obtain ⟨x, hx⟩ : ∃ x, ids[i]? = some x := ⟨_, List.getElem?_eq_getElem (by omega)⟩
      have HV := Lib.hid (show (ids.map (Value.int .i64))[i]? = some (Value.int .i64 x) by rw [List.getElem?_map, hx]; rfl)
      obtain ⟨g, hg7, hg⟩ := and7 x
      have HG7 := Lib.hid hg7
      clear hx hg7
      have hkwf : (Lit.int .i64 (g : Int)).wf = true := wfI (by omega) (by omega)
      have HLT := Lib.hid (show m < maxLen by unfold maxLen; omega)
      have hmpos : (s.G (g : Int)).isSome = true → 1 ≤ m := fun hk => hI.out.pos Try.underlying3 (k := (g : Int)) (by rw [HF.out]; cases hq : s.G (g : Int) <;> simp_all)
      cases hs : s.G (g : Int) with
      | none =>
        have HL := Lib.hid (show (f (g : Int)).getD (.bool false) = .bool false by rw [HF.out, hs]; rfl)
        have HM' := Lib.hid (show (if (f (g : Int)).isSome = true then m else m + 1) = m + 1 by rw [HF.out, hs]; rfl)
        have hm2 := open_m s g
        have hN2 := open_N s g
        rw [hs] at hm2 hN2
        rw [HMM.out] at hm2
        rw [HN.out] at hN2
        have hN3 : ((((s.drop (g : Int)).put (g : Int) openM).N : Nat) : Int) = (E : Int) := by rw [hN2] <;> simp
        have hM3 : ((((s.drop (g : Int)).put (g : Int) openM).m : Nat) : Int) = (m : Int) + 1 := by rw [hm2] <;> simp
        have HN3 := Lib.hid hN3
        have HM3 := Lib.hid hM3
        have HN2 := Lib.hid hN2
        have HM2 := Lib.hid hm2
        clear hN2 hm2 hN3 hM3 hs
        have hsz : w.heap.size ≤ wr.heap.size := (stepN (w0 := w) (w := wr)).chg.size
        have bb : Born wr wr.heap.size := inferInstance
        go_wp2_with (first | go_skip | ((with_reducible apply wpl_index1); (exact rfl); (exact rfl); (exact inferInstance); (exact inferInstance); (exact hvl); (exact hlt)) | ((with_reducible apply (wpl_load1 (t := 3))); (exact rfl); (exact inferInstance); (exact HV.out)) | ((with_reducible apply wpl_and7); (exact rfl); (exact rfl); (exact HG7.out)) | ((with_reducible apply wpl_lookMI1E); (exact rfl); (exact rfl); (exact mapB); (exact inferInstance); (exact hkwf); (exact HL.out)) | ((with_reducible apply (wpl_putMIE (m + 1))); (exact rfl); (exact rfl); (exact rfl); (exact mapB); (exact inferInstance); (exact HLT.out); (exact hkwf); (exact HM'.out); intro wp sP hI2) | ((with_reducible apply (stop_dst (dst := some 38))); (try simp only [Act.put, List.setIfInBounds_toArray, List.set_cons_succ, List.set_cons_zero]); ((with_reducible apply (wpl_bslice (dst := some 38))); (exact kb8 _); intro z8 wb _ _ _)) | ((with_reducible apply (stop_dst (dst := some 39))); (try simp only [Act.put, List.setIfInBounds_toArray, List.set_cons_succ, List.set_cons_zero]); ((with_reducible apply (wpl_build (dst := some 39))); (exact run_build_frame _ _ _ _))) | ((with_reducible apply wpl_loadrow); (exact rfl); (exact inferInstance); (exact inferInstance); (first | (with_reducible assumption) | (with_reducible exact H32.size _) | kernel_rfl)) | ((with_reducible apply wpl_loadcellN); (exact rfl); (exact inferInstance); (exact rfl)))
        have hJp : JS wp z S s := hJ.calm sP.chg (fun x hx hk => hSg (by rw [← show x = gs from hk]; exact hx))
        have sB : Step nowhere wp wb := inferInstance
        have hB8 : Born wp z8 := inferInstance
        have hJb : JS wb z S s := hJp.calm sB.chg (fun _ _ hk => hk)
        have hR8 : HR wb (some ⟨z8, 0, none⟩) (bs openD) := inferInstance
        refine (take_calls (n := 8) (c := 8) (g : Int) 1 hJb (by have := HN.out; omega) (by have := HMM.out; omega) hkwf hR8.out (fun _ ad e hx => by
          injection e with e
          subst e
          have h1 := hJp.low _ hx
          have h2 := hB8.eq
          simp only at h1
          omega) rfl (by decide) (by decide) (by decide) (by decide)).mono ?_
        rw [open_take (fun v hv => HLA.out _ v hv)]
        rintro e w2 ⟨S2, B2, c2, hJ2, rfl, hC2, hS2, _⟩
        have ab : Above w S := ⟨hS⟩
        have st2 : Step S wb w2 := ⟨hC2⟩
        have og : OffB S gs := ⟨hSg⟩
        have abg : Above w (only gs) := ⟨fun x hx => by rw [show x = gs from hx]; exact hgs⟩
        have hI3 : HMI Try.prog 3 (.bool false) w2 gs (m + 1) (fun x => if x = (g : Int) then some (.bool true) else f x) := inferInstance
        have hw2 : Step nowhere w w2 := stepN
        go_wp2_with fail
        refine (open_calls hJ2).mono ?_
        rintro e w3 ⟨rfl, hs3⟩
        rw [HM3.out]
        have hI4 : HMI Try.prog 3 (.bool false) w3 gs (m + 1) (fun x => if x = (g : Int) then some (.bool true) else f x) := inferInstance
        go_wp2_with (first | go_skip | ((with_reducible apply (wpl_guard (op := .call _))); (exact rfl)) | ((with_reducible apply wpl_lenMI); (exact rfl); (exact mapB); (exact hI4)) | ((with_reducible apply wpl_loadrow); (exact rfl); (exact inferInstance); (exact inferInstance); (first | (with_reducible assumption) | (with_reducible exact H32.size _) | kernel_rfl)) | ((with_reducible apply wpl_loadcellN); (exact rfl); (exact inferInstance); (exact rfl)))
        refine (errors_calls (hJ2.calm hs3.chg (fun _ _ hk => hk))).mono ?_
        rintro e w4 ⟨rfl, hs4⟩
        rw [HN3.out]
        go_wp2_with fail
        have hI5 : HMI Try.prog 3 (.bool false) w4 gs (m + 1) (fun x => if x = (g : Int) then some (.bool true) else f x) := inferInstance
        have hw4 : Step nowhere w w4 := stepN
        refine ⟨⟨i + 1, E, m + 1, S2, _, _, by omega, by omega, by omega, by simp, by simp, (hJ2.calm hs3.chg (fun _ _ hk => hk)).calm hs4.chg (fun _ _ hk => hk), fun x hx => ?_, fun hx => ?_, hw4, hI5, Lib.hid (fun x => ?_), Lib.hid (fun x v hv => ?_), HN2, HM2⟩, by simp [intOf]; omega⟩
        · rcases hS2 x hx with h9 | h9
          · exact hS x h9
          · have h8 : w.heap.size ≤ wb.heap.size := (stepN (w0 := w) (w := wb)).chg.size
            omega
        · rcases hS2 gs hx with h9 | h9
          · exact hSg h9
          · have h8 : gs < wb.heap.size := (inferInstance : HMI Try.prog 3 (.bool false) wb gs (m + 1) (fun x => if x = (g : Int) then some (.bool true) else f x)).out.lt
            omega
        · rw [open_G]
          split
          · rfl
          · exact HF.out x
        · rw [open_G] at hv
          split at hv
          · cases hv; rfl
          · exact HLA.out x v hv
      | some v0 =>
        have HL := Lib.hid (show (f (g : Int)).getD (.bool false) = .bool true by rw [HF.out, hs]; rfl)
        have HM' := Lib.hid (show (if (f (g : Int)).isSome = true then m else m + 1) = m by rw [HF.out, hs]; rfl)
        have hm1 : 1 ≤ m := hmpos (by rw [hs]; rfl)
        have hm2 := open_m s g
        have hN2 := open_N s g
        rw [hs] at hm2 hN2
        rw [HMM.out] at hm2
        rw [HN.out] at hN2
        have hm2' : ((s.drop (g : Int)).put (g : Int) openM).m = m := by rw [hm2]; show m - 1 + 1 = m; omega
        clear hm2
        have hm2 := hm2'
        clear hm2'
        have hN3 : ((((s.drop (g : Int)).put (g : Int) openM).N : Nat) : Int) = (E : Int) + 1 := by rw [hN2] <;> simp
        have hM3 : ((((s.drop (g : Int)).put (g : Int) openM).m : Nat) : Int) = (m : Int) := by rw [hm2] <;> simp
        have HN3 := Lib.hid hN3
        have HM3 := Lib.hid hM3
        have HN2 := Lib.hid hN2
        have HM2 := Lib.hid hm2
        clear hN2 hm2 hN3 hM3 hs
        have hsz : w.heap.size ≤ wr.heap.size := (stepN (w0 := w) (w := wr)).chg.size
        have bb : Born wr wr.heap.size := inferInstance
        go_wp2_with (first | go_skip | ((with_reducible apply wpl_index1); (exact rfl); (exact rfl); (exact inferInstance); (exact inferInstance); (exact hvl); (exact hlt)) | ((with_reducible apply (wpl_load1 (t := 3))); (exact rfl); (exact inferInstance); (exact HV.out)) | ((with_reducible apply wpl_and7); (exact rfl); (exact rfl); (exact HG7.out)) | ((with_reducible apply wpl_lookMI1E); (exact rfl); (exact rfl); (exact mapB); (exact inferInstance); (exact hkwf); (exact HL.out)) | ((with_reducible apply (wpl_putMIE (m))); (exact rfl); (exact rfl); (exact rfl); (exact mapB); (exact inferInstance); (exact HLT.out); (exact hkwf); (exact HM'.out); intro wp sP hI2) | ((with_reducible apply (stop_dst (dst := some 38))); (try simp only [Act.put, List.setIfInBounds_toArray, List.set_cons_succ, List.set_cons_zero]); ((with_reducible apply (wpl_bslice (dst := some 38))); (exact kb8 _); intro z8 wb _ _ _)) | ((with_reducible apply (stop_dst (dst := some 39))); (try simp only [Act.put, List.setIfInBounds_toArray, List.set_cons_succ, List.set_cons_zero]); ((with_reducible apply (wpl_build (dst := some 39))); (exact run_build_frame _ _ _ _))) | ((with_reducible apply wpl_loadrow); (exact rfl); (exact inferInstance); (exact inferInstance); (first | (with_reducible assumption) | (with_reducible exact H32.size _) | kernel_rfl)) | ((with_reducible apply wpl_loadcellN); (exact rfl); (exact inferInstance); (exact rfl)))
        have hJp : JS wp z S s := hJ.calm sP.chg (fun x hx hk => hSg (by rw [← show x = gs from hk]; exact hx))
        have sB : Step nowhere wp wb := inferInstance
        have hB8 : Born wp z8 := inferInstance
        have hJb : JS wb z S s := hJp.calm sB.chg (fun _ _ hk => hk)
        have hR8 : HR wb (some ⟨z8, 0, none⟩) (bs openD) := inferInstance
        refine (take_calls (n := 8) (c := 8) (g : Int) 1 hJb (by have := HN.out; omega) (by have := HMM.out; omega) hkwf hR8.out (fun _ ad e hx => by
          injection e with e
          subst e
          have h1 := hJp.low _ hx
          have h2 := hB8.eq
          simp only at h1
          omega) rfl (by decide) (by decide) (by decide) (by decide)).mono ?_
        rw [open_take (fun v hv => HLA.out _ v hv)]
        rintro e w2 ⟨S2, B2, c2, hJ2, rfl, hC2, hS2, _⟩
        have ab : Above w S := ⟨hS⟩
        have st2 : Step S wb w2 := ⟨hC2⟩
        have og : OffB S gs := ⟨hSg⟩
        have abg : Above w (only gs) := ⟨fun x hx => by rw [show x = gs from hx]; exact hgs⟩
        have hI3 : HMI Try.prog 3 (.bool false) w2 gs (m) (fun x => if x = (g : Int) then some (.bool true) else f x) := inferInstance
        have hw2 : Step nowhere w w2 := stepN
        go_wp2_with fail
        refine (open_calls hJ2).mono ?_
        rintro e w3 ⟨rfl, hs3⟩
        rw [HM3.out]
        have hI4 : HMI Try.prog 3 (.bool false) w3 gs (m) (fun x => if x = (g : Int) then some (.bool true) else f x) := inferInstance
        go_wp2_with (first | go_skip | ((with_reducible apply (wpl_guard (op := .call _))); (exact rfl)) | ((with_reducible apply wpl_lenMI); (exact rfl); (exact mapB); (exact hI4)) | ((with_reducible apply wpl_loadrow); (exact rfl); (exact inferInstance); (exact inferInstance); (first | (with_reducible assumption) | (with_reducible exact H32.size _) | kernel_rfl)) | ((with_reducible apply wpl_loadcellN); (exact rfl); (exact inferInstance); (exact rfl)))
        refine (errors_calls (hJ2.calm hs3.chg (fun _ _ hk => hk))).mono ?_
        rintro e w4 ⟨rfl, hs4⟩
        rw [HN3.out]
        go_wp2_with fail
        have hI5 : HMI Try.prog 3 (.bool false) w4 gs (m) (fun x => if x = (g : Int) then some (.bool true) else f x) := inferInstance
        have hw4 : Step nowhere w w4 := stepN
        refine ⟨⟨i + 1, E + 1, m, S2, _, _, by omega, by omega, by omega, by simp, by simp, (hJ2.calm hs3.chg (fun _ _ hk => hk)).calm hs4.chg (fun _ _ hk => hk), fun x hx => ?_, fun hx => ?_, hw4, hI5, Lib.hid (fun x => ?_), Lib.hid (fun x v hv => ?_), HN2, HM2⟩, by simp [intOf]; omega⟩
        · rcases hS2 x hx with h9 | h9
          · exact hS x h9
          · have h8 : w.heap.size ≤ wb.heap.size := (stepN (w0 := w) (w := wb)).chg.size
            omega
        · rcases hS2 gs hx with h9 | h9
          · exact hSg h9
          · have h8 : gs < wb.heap.size := (inferInstance : HMI Try.prog 3 (.bool false) wb gs (m) (fun x => if x = (g : Int) then some (.bool true) else f x)).out.lt
            omega
        · rw [open_G]
          split
          · rfl
          · exact HF.out x
        · rw [open_G] at hv
          split at hv
          · cases hv; rfl
          · exact HLA.out x v hv
    · have hltI : ¬ (i : Int) < n := by omega
      go_wp2_with fail
      refine (sKnown_calls _).mono ?_
      rintro e w4 ⟨rfl, _⟩
      go_wp2_with fail
      go_ret
      exact ⟨rfl, (stepN (w0 := w)).chg⟩
end Go.Proofs.Ytojbbmgghhmgmaa
