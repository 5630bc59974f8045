/- Next. -/
import Derived.Test.YthoipeamdolfgaaBsF
open Go Go.RowKit
namespace Go.Proofs.Ythoipeamdolfgaa
open Hp
theorem BS.popDone {w w' : World} {z : Nat} {S : Nat → Prop} {cm : Nat} {fr fr' : List Fr} (h : BS w z S cm fr) {q : List BM} {A : Option Addr} {c m : Nat} (hA : ∀ ad, A = some ad → S ad.block ∧ ad.block ≠ z) (hm : ∀ m ∈ q, MOk w z A S m) (hql : q.length = m + 1)
    (hC : Chg (zr z A) w w') (hB : HB w' z 86 #[.slice A m c, .int .i64 (cm : Int)]) (hO : HO w' 91 3 A m c (cellsOf ((popL bm0 ahB q m).take m))) (hfr : fr'.length = m) (hq' : Wt ((popL bm0 ahB q m).take m) cm fr') : BTo z S w cm fr' w' := by
  have hSS : ∀ y, zr z A y → S y := fun y hy => hy.elim (fun e => by rw [show y = z from e]; exact h.inz) (fun ⟨ad, e, hk⟩ => by rw [← hk]; exact (hA ad e).1)
  refine ⟨S, ⟨h.inz, fun y hy => Nat.lt_of_lt_of_le (h.low y hy) hC.size, (popL bm0 ahB q m).take m, A, c, by rw [hfr]; exact hB.out, by rw [hfr]; exact hO.out, hA, fun x hx => ?_, hq'⟩, hC.mono (fun y _ hy => hSS y hy), fun y hy => .inl hy⟩
  obtain ⟨h1, h2, h3⟩ := hm x ((popL_perm bm0 ahB q m hql).mem_iff.1 (List.mem_cons_of_mem _ hx))
  have hne : bs x.d ≠ [] → x.d ≠ [] := fun hne h0 => hne (by rw [h0]; rfl)
  refine ⟨h1.chg hC (fun hn ad e hk => ?_), h2, h3⟩
  have h4 := h3 (hne hn) ad e
  rcases hk with hk | ⟨bd, e2, hk⟩
  · exact h4.2.1 hk
  · exact h4.2.2 bd e2 hk.symm
set_option maxRecDepth 100000 in
theorem nextNone_calls {w : World} {z : Nat} {S : Nat → Prop} {cm : Nat} (h : BS w z S cm []) :
    Calls Try.prog 21 #[.pointer (some ⟨z, 0, none⟩)] w fun e w' => e = .returned (.tuple #[.agg #[.int .i64 0, .slice none 0 0], .bool false]) ∧ Step nowhere w w' ∧ BS w' z S cm [] := by
  go_enter Try.func21, Try.ntmps21
  go_wp2_with (first | ((with_reducible apply (wpl_alloc (dst := some 2))); intro zo wzo _ _ _) | ((with_reducible apply wpl_alloc); intro z wz _ _ _) | ((with_reducible apply wpl_storerow); (exact rfl); (exact rfl); (exact inferInstance); (exact inferInstance); (first | (with_reducible assumption) | (with_reducible exact H32.size _) | (with_reducible exact enc_sz _ rfl) | kernel_rfl); (first | (with_reducible assumption) | (with_reducible exact H32.size _) | (with_reducible exact enc_sz _ rfl) | kernel_rfl); (first | (with_reducible exact u8s_one _) | (with_reducible assumption) | (with_reducible exact enc_one _) | kernel_rfl); intro ws _ _) | ((with_reducible apply wpl_storecell); (exact rfl); (exact rfl); (exact inferInstance); (exact rfl); (first | (with_reducible assumption) | omega | (focus (simp; done)) | (focus (simp; omega; done)) | decide); intro ws _ _))
  refine (lenB_calls (h.calm (stepN (w0 := w) (w := wzo)).chg (fun _ _ hk => hk))).mono ?_
  rintro e w5 ⟨rfl, rfl⟩
  go_wp2_with (first | ((with_reducible apply wpl_build); (exact run_frame0 _)) | ((with_reducible apply wpl_alloc); intro z wz _ _ _) | ((with_reducible apply wpl_storerow); (exact rfl); (exact rfl); (exact inferInstance); (exact inferInstance); (first | (with_reducible assumption) | (with_reducible exact H32.size _) | (with_reducible exact enc_sz _ rfl) | kernel_rfl); (first | (with_reducible assumption) | (with_reducible exact H32.size _) | (with_reducible exact enc_sz _ rfl) | kernel_rfl); (first | (with_reducible exact u8s_one _) | (with_reducible assumption) | (with_reducible exact enc_one _) | kernel_rfl); intro ws _ _) | ((with_reducible apply wpl_storecell); (exact rfl); (exact rfl); (exact inferInstance); (exact rfl); (first | (with_reducible assumption) | omega | (focus (simp; done)) | (focus (simp; omega; done)) | decide); intro ws _ _))
  refine ret_row2 (g := zo) (b := false) rfl rfl (n := 2) rfl rfl ⟨rfl, stepN, h.calm (stepN (w0 := w)).chg (fun _ _ hk => hk)⟩
set_option maxRecDepth 100000 in
theorem next_calls {w : World} {z : Nat} {S : Nat → Prop} {cm : Nat} {x : Fr} {fr : List Fr} (h : BS w z S cm (x :: fr)) (hlen : fr.length ≤ 1000) :
    Calls Try.prog 21 #[.pointer (some ⟨z, 0, none⟩)] w fun e w' => ∃ A c, e = .returned (.tuple #[.agg #[.int .i64 x.1, .slice A x.2.length c], .bool true]) ∧ BTo z S w cm fr w' ∧ Rd w' A (bs x.2) ∧ (∀ ad, A = some ad → x.2 ≠ [] → S ad.block) := by
  obtain ⟨q, QA, qc, hb, ho, hA, hm, hq⟩ := h.mem
  obtain ⟨L, hL⟩ : ∃ L, fr.length = L := ⟨_, rfl⟩
  have hql : q.length = L + 1 := by rw [hq.len, List.length_cons, hL]
  have hLc : (x :: fr).length = L + 1 := by rw [List.length_cons, hL]
  rw [hLc] at hb ho
  rw [hL] at hlen
  have hB5 : HB w z 86 #[.slice QA (L + 1) qc, .int .i64 (cm : Int)] := ⟨hb⟩
  have hO5 : HO w 91 3 QA (L + 1) qc (cellsOf q) := ⟨ho⟩
  have oz5 : OffB (rowOf QA) z := ⟨fun ⟨ad, e, hk⟩ => (hA ad e).2 hk⟩
  have oa5 : OffA (only z) QA := ⟨fun ad e hk => (hA ad e).2 hk⟩
  obtain ⟨fr', hfr, hq'⟩ := hq.pop hql
  injection hfr with hx hfr
  subst hfr
  have h00 : gt q 0 ∈ q := gt_mem q 0 (by omega)
  obtain ⟨m1, m2, m3⟩ := hm _ h00
  have hx1 : x = ((gt q 0).id, (gt q 0).d) := hx
  clear hx
  have HL := Lib.hid hL
  have HX := Lib.hid hx1
  have q4 : (((L + 1 : Nat) : Int) == 0) = false := by simp; omega
  have q5 : ((L : Int) + 1 == 0) = false := by simp; omega
  clear hL hx1
  go_enter Try.func21, Try.ntmps21
  go_wp2_with (first | ((with_reducible apply (wpl_alloc (dst := some 2))); intro zo wzo _ _ _) | ((with_reducible apply wpl_alloc); intro z wz _ _ _) | ((with_reducible apply wpl_storerow); (exact rfl); (exact rfl); (exact inferInstance); (exact inferInstance); (first | (with_reducible assumption) | (with_reducible exact H32.size _) | (with_reducible exact enc_sz _ rfl) | kernel_rfl); (first | (with_reducible assumption) | (with_reducible exact H32.size _) | (with_reducible exact enc_sz _ rfl) | kernel_rfl); (first | (with_reducible exact u8s_one _) | (with_reducible assumption) | (with_reducible exact enc_one _) | kernel_rfl); intro ws _ _) | ((with_reducible apply wpl_storecell); (exact rfl); (exact rfl); (exact inferInstance); (exact rfl); (first | (with_reducible assumption) | omega | (focus (simp; done)) | (focus (simp; omega; done)) | decide); intro ws _ _))
  refine (lenB_calls (h.calm (stepN (w0 := w) (w := wzo)).chg (fun _ _ hk => hk))).mono ?_
  rintro e w5 ⟨rfl, rfl⟩
  rw [hLc]
  go_wp2_with (first | ((with_reducible apply wpl_alloc); intro z wz _ _ _) | ((with_reducible apply wpl_storerow); (exact rfl); (exact rfl); (exact inferInstance); (exact inferInstance); (first | (with_reducible assumption) | (with_reducible exact H32.size _) | (with_reducible exact enc_sz _ rfl) | kernel_rfl); (first | (with_reducible assumption) | (with_reducible exact H32.size _) | (with_reducible exact enc_sz _ rfl) | kernel_rfl); (first | (with_reducible exact u8s_one _) | (with_reducible assumption) | (with_reducible exact enc_one _) | kernel_rfl); intro ws _ _) | ((with_reducible apply wpl_storecell); (exact rfl); (exact rfl); (exact inferInstance); (exact rfl); (first | (with_reducible assumption) | omega | (focus (simp; done)) | (focus (simp; omega; done)) | decide); intro ws _ _))
  refine (qnext_calls (A := QA) (c := qc) q rfl (by simp) hql hlen).mono ?_
  rintro e w7 ⟨rfl, hs7, hb7, ho7⟩
  go_wp2_with (first | ((with_reducible apply wpl_alloc); intro z wz _ _ _) | ((with_reducible apply wpl_storerow); (exact rfl); (exact rfl); (exact inferInstance); (exact inferInstance); (first | (with_reducible assumption) | (with_reducible exact H32.size _) | (with_reducible exact enc_sz _ rfl) | kernel_rfl); (first | (with_reducible assumption) | (with_reducible exact H32.size _) | (with_reducible exact enc_sz _ rfl) | kernel_rfl); (first | (with_reducible exact u8s_one _) | (with_reducible assumption) | (with_reducible exact enc_one _) | kernel_rfl); intro ws _ _) | ((with_reducible apply wpl_storecell); (exact rfl); (exact rfl); (exact inferInstance); (exact rfl); (first | (with_reducible assumption) | omega | (focus (simp; done)) | (focus (simp; omega; done)) | decide); intro ws _ _))
  refine ret_row2 (g := zo) (b := true) rfl rfl (n := 2) rfl rfl ?_
  have hC : Chg (zr z QA) w ws := (stepC (w0 := w)).chg
  have hB2 : HB ws z 86 (#[.slice QA (L + 1) qc, .int .i64 (cm : Int)].setIfInBounds 0 (.slice QA L qc)) := inferInstance
  have hO2 : HO ws 91 3 QA L qc (cellsOf ((popL bm0 ahB q L).take L)) := inferInstance
  have hX := HX.out
  subst hX
  refine ⟨(gt q 0).A, (gt q 0).c, by show _ = Ending.returned (.tuple #[.agg #[.int .i64 (gt q 0).id, .slice (gt q 0).A (gt q 0).d.length (gt q 0).c], .bool true]); rw [m2], BS.popDone h hA hm hql hC hB2 hO2 HL.out hq', ?_, fun ad e hne => (m3 hne ad e).1⟩
  refine m1.chg hC (fun hne ad e hk => ?_)
  have h4 := m3 (fun h0 => hne (by show bs (gt q 0).d = []; rw [h0]; rfl)) ad e
  rcases hk with hk | ⟨bd, e2, hk⟩
  · exact h4.2.1 hk
  · exact h4.2.2 bd e2 hk.symm
end Go.Proofs.Ythoipeamdolfgaa
