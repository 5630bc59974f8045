/- SlB -/
import Derived.Test.YtegdihpnefoolaaTjSlA
import Derived.Test.YtegdihpnefoolaaTjPlain
open Go Go.RowKit
namespace Go.Proofs.Ytegdihpnefoolaa
/-- a Writer that is new turns nothing of old -/
theorem nw_wf {w a b : World} {g : Nat} {A : Option Addr} (h : Chg nowhere w a) (hg : w.heap.size ≤ g) (hA : ∀ ad, A = some ad → w.heap.size ≤ ad.block) (c : Chg (Wf g A) a b) : Chg nowhere w b :=
  h.trans c (fun x hx h => by
    rcases h with h | ⟨ad, e, h⟩
    · omega
    · have := hA ad e
      omega)
theorem moved_new {w a : World} {A A' : Option Addr} (m : Moved a A A') (hs : w.heap.size ≤ a.heap.size) (hA : ∀ ad, A = some ad → w.heap.size ≤ ad.block) : ∀ ad, A' = some ad → w.heap.size ≤ ad.block := fun ad e => by
  rcases m with h | ⟨ad', e', h⟩
  · rw [h] at e
    exact hA ad e
  · rw [e'] at e
    injection e with e
    subst e
    omega
theorem apart_new {w : World} {g : Nat} {A B : Option Addr} {vs : List Value} (hr : Rd w B vs) (hg : w.heap.size ≤ g) (hA : ∀ ad, A = some ad → w.heap.size ≤ ad.block) : Apart (Wf g A) B vs := fun hne ad e hk => by
  have h1 := rd_lt hr hne e
  rcases hk with hk | ⟨ad', e', hk⟩
  · omega
  · have := hA ad' e'
    omega
theorem own_cap {w : World} {e : TypeId} {size : Nat} {A : Option Addr} {n c : Nat} {xs : List Value} (h : Own w e size A n c xs) : n ≤ c := by
  rcases h.form with ⟨_, rfl, rfl, _⟩ | ⟨_, _, _, _, h, _⟩
  · exact Nat.le_refl _
  · exact h
theorem HB.rdL {w : World} {z : Nat} {t : TypeId} {cs : Array Value} (h : HB w z t cs) : Rd w (some ⟨z, 0, none⟩) cs.toList := fun k u hk => by
  refine ⟨_, rfl, ?_⟩
  rw [add_row, h.out.cell k]
  simpa using hk
section
variable {P : Program} {ops : Array Oper} {rest : List Oper} {a : Act} {w : World} {Q : Exit → Act → World → Prop} {dst : Option Tmp} {ty : TypeId} {pos : String} {after : Array Edge}
theorem wpl_sliceAr {t e : TypeId} {x : Operand} {g k m s : Nat} (hx : a.eval x = .pointer (some ⟨g, k, none⟩)) (hu : P.underlying t = some (.array m e)) (hs : (P.info? e).map (·.size) = some s)
    (h : wpList P ops Q rest (a.put dst (.slice (some ⟨g, k, none⟩) m m)) w) : wpList P ops Q (⟨dst, .slice t x none none none, ty, pos, after, none⟩ :: rest) a w :=
  wpl_of_run rfl (by
    show ((Instr.sliceAt t (a.eval x) none none none) >>= fun v => pure (Next.value v)).run P w = _
    rw [hx]
    cases hq : P.info? e with
    | none => rw [hq] at hs; simp at hs
    | some j =>
      rw [hq] at hs
      simp at hs
      simp [Instr.sliceAt, run_underlying hu, Instr.sureAddr, Instr.sliceBounds, sizeOf, typeInfo, hq, add_zero_spot]) h
end
instance slZeroW : ZeroT Try.prog 116 #[.slice none 0 0] := ⟨.agg #[.slice none 0 0], fun _ => by kernel_rfl, rfl⟩
instance slRowH : RowT Try.prog 52 32 := ⟨by kernel_rfl, _, Try.underlying52, rfl⟩
instance slZeroH : ZeroT Try.prog 52 (u8s zeroH.l) := ⟨.agg (u8s zeroH.l), fun _ => by kernel_rfl, rfl⟩
theorem run_int1 (a : Int) (w : World) : (Instr.buildSlice 139 1 #[(0, .int .i64 a)]).run Try.prog w = .ok (.slice (some ⟨w.heap.size, 0, none⟩) 1 1) (w.alloc (.cells #[.int .i64 a] 3)) := by kernel_rfl
theorem run_row1 (A : Option Addr) (n c : Nat) (w : World) : (Instr.buildSlice 61 1 #[(0, .slice A n c)]).run Try.prog w = .ok (.slice (some ⟨w.heap.size, 0, none⟩) 1 1) (w.alloc (.cells #[.slice A n c] 22)) := by kernel_rfl
set_option maxRecDepth 100000 in
set_option maxHeartbeats 1600000 in
theorem pack_calls {A : Option Addr} {n c : Nat} {b : List UInt8} (v : Int) {w : World} [hr : HR w A (bs b)] (hl : b.length = n) (hn : n ≤ 900000000) :
    Calls Try.prog 46 #[.int .i64 v, .slice A n c] w fun e w' => ∃ A' n' c', e = .returned (.slice A' n' c') ∧ (packS v b).length = n' ∧ n' ≤ c' ∧ HO w' 5 1 A' n' c' (bs (packS v b)) ∧ NewA w A' ∧ Step nowhere w w' := by
  have kbr := run_row1 A n c
  have HLL := Lib.hid hl
  have HRR := Lib.hid hr.out
  obtain ⟨px, hpx⟩ : ∃ px, px = packN v b := ⟨_, rfl⟩
  obtain ⟨sx, hsx⟩ : ∃ sx, sx = sha px := ⟨_, rfl⟩
  obtain ⟨S, hS⟩ : ∃ S : H32, S.l = sx := ⟨⟨sx, by rw [hsx]; exact sha_len _⟩, rfl⟩
  have HPX := Lib.hid hpx
  have HSX := Lib.hid hsx
  have HS := Lib.hid hS
  have hpl : px.length ≤ 900000018 := by rw [hpx]; have := packN_len v b (by omega); omega
  have hfin : packS v b = px ++ S.l := by rw [packS, ← hpx, hS, hsx]
  have HFIN := Lib.hid hfin
  clear hl hpx hsx hS hfin
  go_enter Try.func46, Try.ntmps46
  go_wp2_with (first | ((with_reducible apply (stop_dst (dst := some 8))); (try simp only [Act.put, sA, sB, sC]); ((with_reducible apply (wpl_bslice (dst := some 8))); (exact run_int1 _ _); intro zi wb _ _ _)) | ((with_reducible apply (wpl_alloc (dst := some 5))); intro zw wzw _ _ _) | ((with_reducible apply wpl_alloc); intro z wz _ _ _) | ((with_reducible apply wpl_storerow); (exact rfl); (exact rfl); infer_instance; infer_instance; (first | (with_reducible assumption) | (with_reducible exact H32.size _) | kernel_rfl); (first | (with_reducible assumption) | (with_reducible exact H32.size _) | kernel_rfl); (first | (with_reducible exact u8s_one _) | (with_reducible assumption) | kernel_rfl); intro ws _ _) | ((with_reducible apply wpl_storecell); (exact rfl); (exact rfl); infer_instance; (exact rfl); (first | (with_reducible assumption) | omega | (focus (simp; done)) | (focus (simp; omega; done)) | decide); intro ws _ _))
  have hw0 : WrAt wb zw none [] := ⟨⟨0, 0, rfl, (inferInstance : HB wb zw 116 #[.slice none 0 0]).out, Own.nil _ _ _⟩, fun ad h => by cases h⟩
  have hzi : HB wb zi 3 #[.int .i64 v] := inferInstance
  have hne : zi ≠ zw := fun e => (inferInstance : OffB (only zi) zw).out e.symm
  have hzw : w.heap.size ≤ zw := (NewA.monoS (w0 := w) (NewA.of_born (z := zw) 0)).out ⟨zw, 0, none⟩ rfl
  have nb0 : Nw w wb := inferInstance
  refine (Nums_calls zw none [] (some ⟨zi, 0, none⟩) 1 1 [v] wb hw0 hzi.rdL rfl (fun _ ad e hk => by
    injection e with e
    subst e
    rcases hk with hk | ⟨ad, e, _⟩
    · exact hne hk
    · cases e) (by simp)).mono ?_
  rintro e w6 ⟨rfl, A6, h6, c6, m6⟩
  have n6 : Nw w w6 := ⟨nw_wf nb0.out hzw (fun ad e => by cases e) c6⟩
  have a6 : ∀ ad, A6 = some ad → w.heap.size ≤ ad.block := moved_new m6 nb0.out.size (fun ad e => by cases e)
  have HW6 := Lib.hid h6
  have HA6 := Lib.hid a6
  clear h6 c6 m6 a6 hw0
  go_wp2_with (first | ((with_reducible apply (stop_dst (dst := some 11))); (try simp only [Act.put, sA, sB, sC]); ((with_reducible apply (wpl_bslice (dst := some 11))); (exact kbr _); intro zr wb _ _ _)) | ((with_reducible apply wpl_alloc); intro z wz _ _ _) | ((with_reducible apply wpl_storerow); (exact rfl); (exact rfl); infer_instance; infer_instance; (first | (with_reducible assumption) | (with_reducible exact H32.size _) | kernel_rfl); (first | (with_reducible assumption) | (with_reducible exact H32.size _) | kernel_rfl); (first | (with_reducible exact u8s_one _) | (with_reducible assumption) | kernel_rfl); intro ws _ _) | ((with_reducible apply wpl_storecell); (exact rfl); (exact rfl); infer_instance; (exact rfl); (first | (with_reducible assumption) | omega | (focus (simp; done)) | (focus (simp; omega; done)) | decide); intro ws _ _))
  have hzr : HB wb zr 22 #[.slice A n c] := inferInstance
  have hzrn : w6.heap.size ≤ zr := Nat.le_of_eq (inferInstance : Born w6 zr).eq.symm
  have sb : Step nowhere w6 wb := inferInstance
  have nb1 : Nw w wb := inferInstance
  have hwl := HW6.out.lt
  have hwb : WrAt wb zw A6 ([] ++ encAll [v]) := HW6.out.chg sb.chg (fun _ _ h => h)
  refine (wBytes_calls zw A6 ([] ++ encAll [v]) (some ⟨zr, 0, none⟩) 1 1 [⟨A, c, b⟩] wb hwb (by
      have h := hzr.rdL
      rwa [show rowsV [⟨A, c, b⟩] = [.slice A n c] by rw [← HLL.out]; rfl]) rfl (fun _ ad e hk => by
      injection e with e
      subst e
      have hk' : Wf zw A6 zr := hk
      have := hwb.old _ hk'
      rcases hk' with h | ⟨ad, e, h⟩
      · omega
      · have := HW6.out.old zr (.inr ⟨ad, e, h⟩)
        omega) (fun r hr => by
      obtain rfl := List.mem_singleton.1 hr
      exact ⟨HRR.out.later nb1.out, apart_new HRR.out hzw HA6.out⟩) (by
      have h1 := encAll_len [v]
      have h2 := HLL.out
      have h3 := enc_len n (by omega)
      simp only [rowsSize, List.length_append, List.length_cons, List.length_nil] at *
      omega)).mono ?_
  rintro e w7 ⟨rfl, A7, h7, c7, m7⟩
  have n7 : Nw w w7 := ⟨nw_wf nb1.out hzw HA6.out c7.out⟩
  have a7 : ∀ ad, A7 = some ad → w.heap.size ≤ ad.block := moved_new m7.out nb1.out.size HA6.out
  have hx7 : [] ++ encAll [v] ++ encRows [⟨A, c, b⟩] = px := by
    rw [HPX.out, packN]
    simp [encRows]
  rw [hx7] at h7
  have HA7 := Lib.hid a7
  clear c7 m7 a7 hx7 hwb
  go_wp2_with (first | ((with_reducible apply wpl_alloc); intro z wz _ _ _) | ((with_reducible apply wpl_storerow); (exact rfl); (exact rfl); infer_instance; infer_instance; (first | (with_reducible assumption) | (with_reducible exact H32.size _) | kernel_rfl); (first | (with_reducible assumption) | (with_reducible exact H32.size _) | kernel_rfl); (first | (with_reducible exact u8s_one _) | (with_reducible assumption) | kernel_rfl); intro ws _ _) | ((with_reducible apply wpl_storecell); (exact rfl); (exact rfl); infer_instance; (exact rfl); (first | (with_reducible assumption) | omega | (focus (simp; done)) | (focus (simp; omega; done)) | decide); intro ws _ _))
  refine (Out_calls zw A7 px w7 h7.out (by omega)).mono ?_
  rintro e w8 ⟨M, m, d, rfl, hln, hown, hc8, hnew⟩
  have s8 : Step nowhere w7 w8 := ⟨hc8.out⟩
  have hlm : px.length = m := hln.out.symm
  have hwr8 : Hid (WrAt w8 zw A7 px) := Lib.hid (h7.out.chg hc8.out (fun _ _ h => h))
  have HLM := Lib.hid hlm
  clear hlm hln hnew hc8 h7
  go_wp2_with (first | ((with_reducible apply wpl_alloc); intro z wz _ _ _) | ((with_reducible apply wpl_storerow); (exact rfl); (exact rfl); infer_instance; infer_instance; (first | (with_reducible assumption) | (with_reducible exact H32.size _) | kernel_rfl); (first | (with_reducible assumption) | (with_reducible exact H32.size _) | kernel_rfl); (first | (with_reducible exact u8s_one _) | (with_reducible assumption) | kernel_rfl); intro ws _ _) | ((with_reducible apply wpl_storecell); (exact rfl); (exact rfl); infer_instance; (exact rfl); (first | (with_reducible assumption) | omega | (focus (simp; done)) | (focus (simp; omega; done)) | decide); intro ws _ _))
  refine (dSum_calls M m d px w8 hown.out.rd HLM.out (own_cap hown.out) (by have := HLM.out; omega)).mono ?_
  rw [← HSX.out, ← HS.out]
  rintro e w9 ⟨rfl, hc9⟩
  have s9 : Step nowhere w8 w9 := ⟨hc9.out⟩
  have hwr9 : Hid (WrAt w9 zw A7 px) := Lib.hid (hwr8.out.chg hc9.out (fun _ _ h => h))
  clear hc9 hwr8 hown
  go_wp2_with (first | ((with_reducible apply (wpl_sliceAr (t := 52) (s := 1))); (exact rfl); (exact Try.underlying52); (kernel_rfl)) | ((with_reducible apply (wpl_alloc (dst := some 6))); intro zs wzs _ _ _) | ((with_reducible apply wpl_alloc); intro z wz _ _ _) | ((with_reducible apply wpl_storerow); (exact rfl); (exact rfl); infer_instance; infer_instance; (first | (with_reducible assumption) | (with_reducible exact H32.size _) | kernel_rfl); (first | (with_reducible assumption) | (with_reducible exact H32.size _) | kernel_rfl); (first | (with_reducible exact u8s_one _) | (with_reducible assumption) | kernel_rfl); intro ws _ _) | ((with_reducible apply wpl_storecell); (exact rfl); (exact rfl); infer_instance; (exact rfl); (first | (with_reducible assumption) | omega | (focus (simp; done)) | (focus (simp; omega; done)) | decide); intro ws _ _))
  have hzs : HR ws (some ⟨zs, 0, none⟩) (bs S.l) := inferInstance
  have ss : Step nowhere w9 ws := stepN
  have n10 : Nw w ws := inferInstance
  refine (wRaw_calls zw A7 px (some ⟨zs, 0, none⟩) 32 32 S.l ws (hwr9.out.chg ss.chg (fun _ _ h => h)) hzs.out S.len (by have := S.len; omega)).mono ?_
  rintro e w10 ⟨rfl, A10, h10, c10, m10⟩
  have n10 : Nw w w10 := ⟨nw_wf n10.out hzw HA7.out c10.out⟩
  have hln10 : (px ++ S.l).length ≤ 900000050 := by rw [List.length_append, S.len]; omega
  clear c10 m10
  go_wp2_with (first | ((with_reducible apply wpl_alloc); intro z wz _ _ _) | ((with_reducible apply wpl_storerow); (exact rfl); (exact rfl); infer_instance; infer_instance; (first | (with_reducible assumption) | (with_reducible exact H32.size _) | kernel_rfl); (first | (with_reducible assumption) | (with_reducible exact H32.size _) | kernel_rfl); (first | (with_reducible exact u8s_one _) | (with_reducible assumption) | kernel_rfl); intro ws _ _) | ((with_reducible apply wpl_storecell); (exact rfl); (exact rfl); infer_instance; (exact rfl); (first | (with_reducible assumption) | omega | (focus (simp; done)) | (focus (simp; omega; done)) | decide); intro ws _ _))
  refine (Out_calls zw A10 (px ++ S.l) w10 h10.out (by omega)).mono ?_
  rintro e w11 ⟨M2, m2, d2, rfl, hln, hown, hc8, hnew⟩
  have n11 : Nw w w11 := ⟨n10.out.trans hc8.out (fun _ _ h => h)⟩
  go_wp2_with (first | ((with_reducible apply wpl_alloc); intro z wz _ _ _) | ((with_reducible apply wpl_storerow); (exact rfl); (exact rfl); infer_instance; infer_instance; (first | (with_reducible assumption) | (with_reducible exact H32.size _) | kernel_rfl); (first | (with_reducible assumption) | (with_reducible exact H32.size _) | kernel_rfl); (first | (with_reducible exact u8s_one _) | (with_reducible assumption) | kernel_rfl); intro ws _ _) | ((with_reducible apply wpl_storecell); (exact rfl); (exact rfl); infer_instance; (exact rfl); (first | (with_reducible assumption) | omega | (focus (simp; done)) | (focus (simp; omega; done)) | decide); intro ws _ _))
  go_ret
  rw [HFIN.out]
  exact ⟨M2, m2, d2, rfl, hln.out.symm, own_cap hown.out, ⟨hown.out⟩, ⟨fun ad e => Nat.le_trans n10.out.size (hnew.out ad e)⟩, ⟨n11.out⟩⟩
end Go.Proofs.Ytegdihpnefoolaa
