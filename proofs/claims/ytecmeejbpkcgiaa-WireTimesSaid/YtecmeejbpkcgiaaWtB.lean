/- A time taken by a Reader, and decoded. -/
import Derived.Test.YtecmeejbpkcgiaaWtA
import Derived.Test.YtecmeejbpkcgiaaRdN
open Go Go.RowKit
namespace Go.Proofs.Ytecmeejbpkcgiaa
instance : ZeroT Try.prog 45 (timL 0 0 0 zeroH).toArray := ⟨.agg (timL 0 0 0 zeroH).toArray, fun _ => by kernel_rfl, rfl⟩
theorem run_ptr3 (a b c : Option Addr) (w : World) : (Instr.buildSlice 224 3 #[(0, .pointer a), (1, .pointer b), (2, .pointer c)]).run Try.prog w = .ok (.slice (some ⟨w.heap.size, 0, none⟩) 3 3) (w.alloc (.cells #[.pointer a, .pointer b, .pointer c] 175)) := by kernel_rfl
section
variable {P : Program} {ops : Array Oper} {rest : List Oper} {a : Act} {w : World} {Q : Exit → Act → World → Prop} {dst : Option Tmp} {ty : TypeId} {pos : String} {after : Array Edge}
/-- a part of a block written, whole -/
theorem wpl_storepart {t : TypeId} {x y : Operand} {g k n : Nat} {vs : Array Value} (hx : a.eval x = .pointer (some ⟨g, k, none⟩)) (hy : a.eval y = .agg vs) {tb : TypeId} {cs : Array Value} (hb : HB w g tb cs) (ht : RowT P t n) (hn : vs.size = n) (hn0 : 0 < n) (hk : k + n ≤ cs.size) (hone : vs.all (·.oneCell') = true) {cs' : Array Value} (hcs : cs.toList.take k ++ vs.toList ++ cs.toList.drop (k + n) = cs'.toList)
    (h : ∀ w', Step (only g) w w' → HB w' g tb cs' → wpList P ops Q rest (a.put dst undef) w') : wpList P ops Q (⟨dst, .store t x y, ty, pos, after, none⟩ :: rest) a w := by
  have ho : Own w tb cs.size (some ⟨g, 0, none⟩) 1 1 cs.toList :=
    Own.of_blk hb.out (Nat.le_refl _) (by decide) (by simp) (by rw [Nat.one_mul, List.take_of_length_le (by simp)])
  obtain ⟨g', hA, h1, h2, h3⟩ := own_setCells ho (k := k) (cs := vs.toList) (m := n) (by simpa using hn) (by simpa using hk) hn0
  obtain rfl : g' = g := by injection hA with hA; injection hA with hA; exact hA.symm
  rw [hcs] at h2
  refine wpl_of_unit rfl (w' := w.setCells g' k vs.toList) ?_ (h _ ⟨⟨h3.os, h3.tape, h3.output, h3.size, fun x hx hn => h3.block x hx (fun ⟨ad, e, e2⟩ => hn (by injection e with e; subst e; exact e2.symm))⟩⟩ ⟨?_⟩)
  · show ((Instr.storeAt t (a.eval x) (a.eval y)) >>= fun _ => pure Next.skip).run P w = _
    rw [hx, hy, Sem.run_bind, run_storeAt_mid (P := P) w g' k t vs (by rw [hn]; exact h1) (by rw [hn]; exact ht.size) hone]
    rfl
  · have hl2 : cs'.size = cs.size := by
      have := congrArg List.length hcs
      simp at this
      omega
    rcases h2.form with ⟨hn, _⟩ | ⟨g3, cur, e, hb2, _, _, hsz, htk⟩
    · cases hn
    · injection e with e
      injection e with e
      subst e
      have : cur = cs' := by
        apply Array.ext'
        rw [List.take_of_length_le (by rw [Array.length_toList, hsz]; exact Nat.le_refl _)] at htk
        exact htk
      rw [← this]
      exact hb2
end
theorem timL_one (v e s : Int) (h : H32) : (timL v e s h).toArray.all (·.oneCell') = true := by
  rw [Array.all_eq_true_iff_forall_mem]
  intro u hu
  have hu' : u ∈ timL v e s h := by simpa using hu
  rcases List.mem_cons.1 hu' with rfl | hu'
  · rfl
  rcases List.mem_cons.1 hu' with rfl | hu'
  · rfl
  rcases List.mem_cons.1 hu' with rfl | hu'
  · rfl
  exact bs_one h.l u hu'
/-- the numbers of a time, and its digest, as they are taken -/
def tV (s : RS) : Nat := s.num.1
def tE (s : RS) : Nat := (s.at 1).num.1
def tS (s : RS) : Nat := (s.at 2).num.1
def tH (s : RS) : H32 := (s.at 3).hsh
def tR (s : RS) : RS := ((s.at 3).raw 32).2
theorem put3 (z : Nat) (s : RS) : putN z [some ⟨z, 0, none⟩, some ⟨z, 1, none⟩, some ⟨z, 2, none⟩] s 3 (timL 0 0 0 zeroH).toArray = (timL (tV s) (tE s) (tS s) zeroH).toArray := by
  simp only [putN, List.getElem?_cons_zero, List.getElem?_cons_succ, if_pos]
  rfl
set_option maxRecDepth 100000 in
set_option maxHeartbeats 1600000 in
theorem takeTime_calls {g d : Nat} {s : RS} {w : World} (hw : RdrAt w g d s) (hl : s.b.length ≤ 1000000000) :
    Calls Try.prog 64 #[.pointer (some ⟨g, 0, none⟩)] w fun e w' => e = .returned (.agg (timL (tV s) (tE s) (tS s) (tH s)).toArray) ∧ Step (only g) w w' ∧ RdrAt w' g d (tR s) := by
  have HW0 := Lib.hid hw
  have HL := Lib.hid hl
  have hgl := hw.lt
  have hdl := hw.dlt
  clear hw hl
  go_enter Try.func64, Try.ntmps64
  go_wp2_with (first | ((with_reducible apply (stop_dst (dst := some 8))); (try simp only [Act.put, List.setIfInBounds_toArray, List.set_cons_succ, List.set_cons_zero]); ((with_reducible apply (wpl_bslice (dst := some 8))); (exact run_ptr3 _ _ _ _); intro zb wb _ _ _)) | ((with_reducible apply (wpl_alloc (dst := some 2))); intro zo wzo _ _ _) | ((with_reducible apply (wpl_alloc (dst := some 3))); intro zt wzt _ _ _) | ((with_reducible apply wpl_alloc); intro z wz _ _ _) | ((with_reducible apply wpl_loadrow); (exact rfl); (exact inferInstance); (exact inferInstance); (first | (with_reducible assumption) | (with_reducible exact H32.size _) | kernel_rfl)) | ((with_reducible apply wpl_loadcellN); (exact rfl); (exact inferInstance); (exact rfl)) | ((with_reducible apply wpl_storerow); (exact rfl); (exact rfl); (exact inferInstance); (exact inferInstance); (first | (with_reducible assumption) | (with_reducible exact H32.size _) | kernel_rfl); (first | (with_reducible assumption) | (with_reducible exact H32.size _) | kernel_rfl); (first | (with_reducible exact u8s_one _) | (with_reducible assumption) | kernel_rfl); intro ws _ _) | ((with_reducible apply wpl_storecell); (exact rfl); (exact rfl); (exact inferInstance); (exact rfl); (first | (with_reducible assumption) | omega | (focus (simp; done)) | (focus (simp; omega; done)) | decide); intro ws _ _))
  have hzo : w.heap.size ≤ zo := Nat.le_of_eq (inferInstance : Born w zo).eq.symm
  have hzt : w.heap.size ≤ zt := by
    have e1 := (inferInstance : Born wzo zt).eq
    have e2 := (inferInstance : SzLe w wzo).out
    omega
  have hzb : w.heap.size ≤ zb := by
    have e1 := (inferInstance : Born wzt zb).eq
    have e2 := (inferInstance : SzLe w wzt).out
    omega
  have hzbt : zb ≠ zt := by
    have e1 := (inferInstance : Born wzt zb).eq
    have e2 := (inferInstance : HB wzt zt 45 (timL 0 0 0 zeroH).toArray).out.lt
    omega
  have hbb : HB wb zb 175 #[.pointer (some ⟨zt, 0, none⟩), .pointer (some ⟨zt, 1, none⟩), .pointer (some ⟨zt, 2, none⟩)] := inferInstance
  have hbt : HB wb zt 45 (timL 0 0 0 zeroH).toArray := inferInstance
  have hnn : Nw w wb := inferInstance
  have hdt : s.b ≠ [] → zt ≠ d := fun h e => by
    have := hdl h
    omega
  have hrd := hbb.rdL
  refine (rNums_calls g d s (some ⟨zb, 0, none⟩) 3 3 [some ⟨zt, 0, none⟩, some ⟨zt, 1, none⟩, some ⟨zt, 2, none⟩] _ (HW0.out.chg hnn.out (fun h => h) (fun h => h)) (by have := HL.out; omega) hrd rfl (by decide) ?_ ?_).mono ?_
  · rintro _ ad e hk
    injection e with e
    subst e
    rcases hk with hk | ⟨ad, hm, hk⟩
    · have hk' : zb = g := hk
      omega
    · simp only [List.mem_cons, List.not_mem_nil, or_false, Option.some.injEq] at hm
      rcases hm with rfl | rfl | rfl
      · exact hzbt hk.symm
      · exact hzbt hk.symm
      · exact hzbt hk.symm
  · intro ad hm
    have hsz : (timL 0 0 0 zeroH).toArray.size = 35 := timL_len 0 0 0 zeroH
    simp only [List.mem_cons, List.not_mem_nil, or_false, Option.some.injEq] at hm
    rcases hm with rfl | rfl | rfl
    · exact ⟨zt, 0, _, _, rfl, hbt.out, by rw [hsz]; decide, by omega, hdt⟩
    · exact ⟨zt, 1, _, _, rfl, hbt.out, by rw [hsz]; decide, by omega, hdt⟩
    · exact ⟨zt, 2, _, _, rfl, hbt.out, by rw [hsz]; decide, by omega, hdt⟩
  rintro e w5 ⟨rfl, h5, c5, p5⟩
  have st5 : Step (gz2 g zt) wb w5 := ⟨c5.out.mono (fun x _ hx => by
    rcases hx with hx | ⟨ad, hm, hk⟩
    · exact .inl hx
    · simp only [List.mem_cons, List.not_mem_nil, or_false, Option.some.injEq] at hm
      rcases hm with rfl | rfl | rfl
      · exact .inr hk.symm
      · exact .inr hk.symm
      · exact .inr hk.symm)⟩
  have ht5 : HB w5 zt 45 (timL (tV s) (tE s) (tS s) zeroH).toArray := ⟨by
    rw [← put3 zt s]
    exact p5.out zt _ _ (by omega) hbt.out⟩
  have o1 : OffB (only g) zt := ⟨fun e => by have e' : zt = g := e; omega⟩
  have o2 : OffB (gz2 g zt) zo := ⟨fun e => by
    have e1 := (inferInstance : Born wzo zt).eq
    have e2 := (inferInstance : HB wzo zo 45 (timL 0 0 0 zeroH).toArray).out.lt
    rcases e with e | e <;> omega⟩
  have o3 : OffB (only g) zo := ⟨fun e => by have e' : zo = g := e; omega⟩
  have hle5 : (s.at 3).b.length ≤ 1000000000 := Nat.le_trans (s.at_le 3) HL.out
  have HR5 := h5
  clear c5 p5 h5 hbt hbb hrd
  go_wp2_with (first | ((with_reducible apply wpl_alloc); intro z wz _ _ _) | ((with_reducible apply wpl_loadrow); (exact rfl); (exact inferInstance); (exact inferInstance); (first | (with_reducible assumption) | (with_reducible exact H32.size _) | kernel_rfl)) | ((with_reducible apply wpl_loadcellN); (exact rfl); (exact inferInstance); (exact rfl)) | ((with_reducible apply wpl_storerow); (exact rfl); (exact rfl); (exact inferInstance); (exact inferInstance); (first | (with_reducible assumption) | (with_reducible exact H32.size _) | kernel_rfl); (first | (with_reducible assumption) | (with_reducible exact H32.size _) | kernel_rfl); (first | (with_reducible exact u8s_one _) | (with_reducible assumption) | kernel_rfl); intro ws _ _) | ((with_reducible apply wpl_storecell); (exact rfl); (exact rfl); (exact inferInstance); (exact rfl); (first | (with_reducible assumption) | omega | (focus (simp; done)) | (focus (simp; omega; done)) | decide); intro ws _ _))
  refine (takeHash_calls HR5.out hle5).mono ?_
  rintro e w6 ⟨rfl, st6, h6⟩
  have HR6 := Lib.hid h6
  have ht6 : HB w6 zt 45 (timL (tV s) (tE s) (tS s) zeroH).toArray := inferInstance
  have hsz6 : (timL (tV s) (tE s) (tS s) zeroH).toArray.size = 35 := timL_len _ _ _ _
  have hput : (timL (tV s) (tE s) (tS s) zeroH).toArray.toList.take 3 ++ (u8s (s.at 3).hsh.l).toList ++ (timL (tV s) (tE s) (tS s) zeroH).toArray.toList.drop (3 + 32) = (timL (tV s) (tE s) (tS s) (tH s)).toArray.toList := by
    show [Value.int .i64 (tV s), .int .i64 (tE s), .int .i64 (tS s)] ++ (u8s (tH s).l).toList ++ (bs zeroH.l).drop 32 = Value.int .i64 (tV s) :: .int .i64 (tE s) :: .int .i64 (tS s) :: bs (tH s).l
    rw [show (bs zeroH.l).drop 32 = [] from rfl, List.append_nil]
    simp [u8s]
  have HPUT := Lib.hid hput
  clear hput
  have hsz7 : (timL (tV s) (tE s) (tS s) (tH s)).toArray.size = 35 := timL_len _ _ _ _
  have hnb : ((s.at 3).raw 32).2.b ≠ [] → s.b ≠ [] := fun h h0 => h (List.eq_nil_of_length_eq_zero (by
    have h1 := (s.at 3).raw_l 32
    have h2 := s.at_le 3
    have h3 : (s.at 3).b.length = 0 := by simpa [h0] using h2
    omega))
  clear h6
  go_wp2_with (first | ((with_reducible apply wpl_storepart); (exact rfl); (exact rfl); (exact ht6); (exact inferInstance); (exact H32.size _); (decide); (rw [hsz6]; decide); (exact u8s_one _); (exact HPUT.out); intro ws _ ht7) | ((with_reducible apply wpl_loadrow); (exact rfl); (exact ht7); (exact inferInstance); (exact timL_len _ _ _ _)) | ((with_reducible apply wpl_storerow); (exact rfl); (exact rfl); (exact inferInstance); (exact inferInstance); (exact timL_len _ _ _ _); (exact timL_len _ _ _ _); (exact timL_one _ _ _ _); intro ws _ _) | ((with_reducible apply wpl_alloc); intro z wz _ _ _) | ((with_reducible apply wpl_loadrow); (exact rfl); (exact inferInstance); (exact inferInstance); (first | (with_reducible assumption) | (with_reducible exact H32.size _) | kernel_rfl)) | ((with_reducible apply wpl_loadcellN); (exact rfl); (exact inferInstance); (exact rfl)) | ((with_reducible apply wpl_storerow); (exact rfl); (exact rfl); (exact inferInstance); (exact inferInstance); (first | (with_reducible assumption) | (with_reducible exact H32.size _) | kernel_rfl); (first | (with_reducible assumption) | (with_reducible exact H32.size _) | kernel_rfl); (first | (with_reducible exact u8s_one _) | (with_reducible assumption) | kernel_rfl); intro ws _ _) | ((with_reducible apply wpl_storecell); (exact rfl); (exact rfl); (exact inferInstance); (exact rfl); (first | (with_reducible assumption) | omega | (focus (simp; done)) | (focus (simp; omega; done)) | decide); intro ws _ _))
  have iz : Into w (gz2 g zt) (only g) := ⟨fun x hx h => h.elim id (fun h => by omega)⟩
  have i2 : Into w (only zt) (only g) := ⟨fun x hx h => by have h' : x = zt := h; omega⟩
  have i3 : Into w (only zo) (only g) := ⟨fun x hx h => by have h' : x = zo := h; omega⟩
  refine ret_row rfl rfl (n := 35) (timL_len _ _ _ _) rfl ⟨rfl, stepC, ?_⟩
  exact HR6.out.chg2 (inferInstance : Ch (gz2 zt zo) w6 _).out (fun e => by rcases e with e | e <;> omega) (fun hne e => by
    have := hdl (hnb hne)
    rcases e with e | e <;> omega)
end Go.Proofs.Ytecmeejbpkcgiaa
