import Derived.Test.YtegdihpnefoolaaTjBpC
import Derived.Test.YtegdihpnefoolaaTjBkH
import Derived.Test.YtegdihpnefoolaaTjBpD
import Derived.Test.YtegdihpnefoolaaTjSlN
/- BpE -/
open Go Go.RowKit
namespace Go.Proofs.Ytegdihpnefoolaa
set_option maxRecDepth 100000 in
set_option maxHeartbeats 3200000 in
theorem rbKeep_calls {x N : Nat} {T : Nat → Prop} {s : FS} {r0 : RFS} {w : World} (hX : RF w x T r0) (hR : Rel s r0 N) (ok : s.ok N) (hT : ∀ k, T k → k < w.heap.size) {M : Option Addr} {m d : Nat} {mind : List UInt8} [hM : HR w M (bs mind)] (hm : mind.length = m) (hm9 : m ≤ 9223372036854775807) :
    Calls Try.prog 33 #[.pointer (some ⟨x, 0, none⟩), .slice M m d] w fun e w' => e = .returned (.int .i64 ((keepS N s mind).1 : Int)) ∧ Hid (∃ r', RF w' x T r' ∧ Rel (keepS N s mind).2 r' N) ∧ Step T w w' := by
  have HRL := Lib.hid hR
  have HOK := Lib.hid ok
  have HT := Lib.hid hT
  have HF := Lib.hid hX
  obtain ⟨r, hr⟩ : ∃ r, r = keepS N s mind := ⟨_, rfl⟩
  have hr2 := hr
  unfold keepS at hr2
  rw [hm] at hr2
  rw [← hr]
  obtain ⟨Bq, hBq⟩ : ∃ Bq, Bq = bootS N s := ⟨_, rfl⟩
  have hbl := boot_lens N s
  rw [← hBq] at hr2 hbl
  have HBQ := Lib.hid hBq
  have HR2 := Lib.hid hr2
  have HM := Lib.hid hm
  have HMR := Lib.hid hM.out
  have HBL := Lib.hid hbl
  clear hX hR ok hT hr hr2 hBq hm hbl
  go_enter Try.func33, Try.ntmps33
  go_wp2_with (first | ((with_reducible apply wpl_alloc); intro z wz _ _ _) | ((with_reducible apply wpl_loadrow); (exact rfl); infer_instance; infer_instance; (first | (with_reducible assumption) | (with_reducible exact H32.size _) | kernel_rfl)) | ((with_reducible apply wpl_loadcellN); (exact rfl); infer_instance; (exact rfl)) | ((with_reducible apply wpl_storerow); (exact rfl); (exact rfl); infer_instance; infer_instance; (first | (with_reducible assumption) | (with_reducible exact H32.size _) | kernel_rfl); (first | (with_reducible assumption) | (with_reducible exact H32.size _) | kernel_rfl); (first | (with_reducible exact u8s_one _) | (with_reducible assumption) | kernel_rfl); intro ws _ _) | ((with_reducible apply wpl_storecell); (exact rfl); (exact rfl); infer_instance; (exact rfl); (first | (with_reducible assumption) | omega | (focus (simp; done)) | (focus (simp; omega; done)) | decide); intro ws _ _))
  refine (rbBoot_calls HF.out HRL.out HOK.out).mono ?_
  rw [← HBQ.out]
  unfold BootQ
  obtain ⟨D, hD⟩ : ∃ D, D = Bq.1 := ⟨_, rfl⟩
  obtain ⟨E, hE⟩ : ∃ E, E = Bq.2.2 := ⟨_, rfl⟩
  rw [← hD, ← hE]
  have HR3 : Hid (r = if E ≠ 0 then (E, s) else if 2000 < m then (10, s) else saveN N s (BSt.enc { D with mind := mind })) := Lib.hid (by rw [HR2.out, hE, hD])
  have HBL2 : Hid (D.name.length ≤ 2500) := Lib.hid (by rw [hD]; exact HBL.out.1)
  clear HR2 HBL hD hE
  rintro e w2 ⟨Mq, mq, dq, Iq, nq, cq, rfl, _, _, _, _, _, _, _, _, _⟩
  have HF2 : Hid (RF w2 x T r0) := Lib.hid (HF.out.calm (stepN (w0 := w) (w := w2)).chg)
  have hq := bkL_len D.bank D.size D.sum D.cnt (strL D.name) Mq mq dq
  have ho := bkL_one D.bank D.size D.sum D.cnt (strL D.name) Mq mq dq
  have hs0 := bkL_len 0 0 zeroH 0 ⟨#[]⟩ none 0 0
  have n2 : Nw w w2 := inferInstance
  obtain ⟨EI, hEI⟩ : ∃ EI : Int, EI = (E : Int) := ⟨_, rfl⟩
  rw [← hEI]
  by_cases e0 : E = 0
  · have eD : (EI != 0) = false := by simp; omega
    have HR4 := Lib.hid (HR3.out.trans (if_neg (fun h => h e0)))
    clear HR3 hEI e0
    by_cases c1 : 2000 < m
    · have c1I : 2000 < (m : Int) := by omega
      have HX := Lib.hid (HR4.out.trans (if_pos c1))
      clear HR4
      go_wp2_with (first | ((with_reducible apply wpl_storerow); (exact rfl); (exact rfl); infer_instance; infer_instance; (exact hq); (exact hs0); (exact ho); intro wq _ hbq) | ((with_reducible apply (wpl_alloc (dst := some 5))); intro zq wzq _ _ _) | ((with_reducible apply wpl_alloc); intro z wz _ _ _) | ((with_reducible apply wpl_loadrow); (exact rfl); infer_instance; infer_instance; (first | (with_reducible assumption) | (with_reducible exact H32.size _) | kernel_rfl)) | ((with_reducible apply wpl_loadcellN); (exact rfl); infer_instance; (exact rfl)) | ((with_reducible apply wpl_storerow); (exact rfl); (exact rfl); infer_instance; infer_instance; (first | (with_reducible assumption) | (with_reducible exact H32.size _) | kernel_rfl); (first | (with_reducible assumption) | (with_reducible exact H32.size _) | kernel_rfl); (first | (with_reducible exact u8s_one _) | (with_reducible assumption) | kernel_rfl); intro ws _ _) | ((with_reducible apply wpl_storecell); (exact rfl); (exact rfl); infer_instance; (exact rfl); (first | (with_reducible assumption) | omega | (focus (simp; done)) | (focus (simp; omega; done)) | decide); intro ws _ _))
      go_ret
      rw [HX.out]
      exact ⟨rfl, Lib.hid ⟨r0, HF2.out.calm (stepN (w0 := w2)).chg, HRL.out⟩, ⟨(stepN (w0 := w)).chg.mono (fun _ _ h => h.elim)⟩⟩
    · have c1I : ¬ 2000 < (m : Int) := by omega
      have HX := Lib.hid (HR4.out.trans (if_neg c1))
      have hk0 : 36 < (bkL D.bank D.size D.sum D.cnt (strL D.name) Mq mq dq).toArray.size := by rw [hq]; decide
      obtain ⟨ec, hec⟩ : ∃ ec, ec = BSt.enc { D with mind := mind } := ⟨_, rfl⟩
      have hecl : ec.length ≤ 3000000 := by
        rw [hec]
        have h1 := HBL2.out
        have h2 := HM.out
        have h3 := enc_size (s := { D with mind := mind }) (by show D.name.length ≤ 1000000; omega) (by show mind.length ≤ 1000000; omega)
        have h4 : ({ D with mind := mind } : BSt).name.length = D.name.length := rfl
        have h5 : ({ D with mind := mind } : BSt).mind.length = mind.length := rfl
        omega
      rw [← hec] at HX
      have HEC := Lib.hid hec
      clear HR4 hec
      go_wp2_with (first | ((with_reducible apply wpl_storerow); (exact rfl); (exact rfl); infer_instance; infer_instance; (exact hq); (exact hs0); (exact ho); intro wq _ hbq) | ((with_reducible apply (wpl_storecell (k := 36) (v := .slice M m d))); (exact rfl); (exact rfl); (exact hbq); (exact rfl); (exact hk0); intro wz _ hbz; have hbz2 : HB wz zq 57 (bkL D.bank D.size D.sum D.cnt (strL D.name) M m d).toArray := ⟨(bk_set36 _ _ _ _ _ _ _ _ _ _ _) ▸ hbz.out⟩) | ((with_reducible apply wpl_loadrow); (exact rfl); (exact hbz2); infer_instance; (exact bkL_len _ _ _ _ _ _ _ _)) | ((with_reducible apply (wpl_alloc (dst := some 5))); intro zq wzq _ _ _) | ((with_reducible apply wpl_alloc); intro z wz _ _ _) | ((with_reducible apply wpl_loadrow); (exact rfl); infer_instance; infer_instance; (first | (with_reducible assumption) | (with_reducible exact H32.size _) | kernel_rfl)) | ((with_reducible apply wpl_loadcellN); (exact rfl); infer_instance; (exact rfl)) | ((with_reducible apply wpl_storerow); (exact rfl); (exact rfl); infer_instance; infer_instance; (first | (with_reducible assumption) | (with_reducible exact H32.size _) | kernel_rfl); (first | (with_reducible assumption) | (with_reducible exact H32.size _) | kernel_rfl); (first | (with_reducible exact u8s_one _) | (with_reducible assumption) | kernel_rfl); intro ws _ _) | ((with_reducible apply wpl_storecell); (exact rfl); (exact rfl); infer_instance; (exact rfl); (first | (with_reducible assumption) | omega | (focus (simp; done)) | (focus (simp; omega; done)) | decide); intro ws _ _))
      have nz : Nw w wz := inferInstance
      have HFz : Hid (RF wz x T r0) := Lib.hid (HF2.out.calm (stepN (w0 := w2) (w := wz)).chg)
      have hMz : HR wz M (bs mind) := ⟨HMR.out.later nz.out⟩
      refine (rbRecord_calls { D with mind := mind } HM.out (by omega) (by have := HBL2.out; show D.name.length ≤ 1000000; omega)).mono ?_
      rw [← HEC.out]
      rintro e w6 ⟨A6, n6, c6, rfl, hl6, hA6, hnA6, s6⟩
      have HF6 : Hid (RF w6 x T r0) := Lib.hid (HFz.out.calm s6.chg)
      have hr6 : HR w6 A6 (bs ec) := inferInstance
      have HL6 := Lib.hid hl6
      have n6 : Nw w w6 := inferInstance
      clear hl6
      go_wp2_with (first | ((with_reducible apply wpl_alloc); intro z wz _ _ _) | ((with_reducible apply wpl_loadrow); (exact rfl); infer_instance; infer_instance; (first | (with_reducible assumption) | (with_reducible exact H32.size _) | kernel_rfl)) | ((with_reducible apply wpl_loadcellN); (exact rfl); infer_instance; (exact rfl)) | ((with_reducible apply wpl_storerow); (exact rfl); (exact rfl); infer_instance; infer_instance; (first | (with_reducible assumption) | (with_reducible exact H32.size _) | kernel_rfl); (first | (with_reducible assumption) | (with_reducible exact H32.size _) | kernel_rfl); (first | (with_reducible exact u8s_one _) | (with_reducible assumption) | kernel_rfl); intro ws _ _) | ((with_reducible apply wpl_storecell); (exact rfl); (exact rfl); infer_instance; (exact rfl); (first | (with_reducible assumption) | omega | (focus (simp; done)) | (focus (simp; omega; done)) | decide); intro ws _ _))
      refine (rSave_calls (b := ec) HF6.out HRL.out HOK.out (fun k hk => Nat.lt_of_lt_of_le (HT.out k hk) n6.out.size) HL6.out (by have := HL6.out; omega)).mono ?_
      rintro e w7 ⟨rfl, h7, s7⟩
      go_wp2_with (first | ((with_reducible apply wpl_alloc); intro z wz _ _ _) | ((with_reducible apply wpl_loadrow); (exact rfl); infer_instance; infer_instance; (first | (with_reducible assumption) | (with_reducible exact H32.size _) | kernel_rfl)) | ((with_reducible apply wpl_loadcellN); (exact rfl); infer_instance; (exact rfl)) | ((with_reducible apply wpl_storerow); (exact rfl); (exact rfl); infer_instance; infer_instance; (first | (with_reducible assumption) | (with_reducible exact H32.size _) | kernel_rfl); (first | (with_reducible assumption) | (with_reducible exact H32.size _) | kernel_rfl); (first | (with_reducible exact u8s_one _) | (with_reducible assumption) | kernel_rfl); intro ws _ _) | ((with_reducible apply wpl_storecell); (exact rfl); (exact rfl); infer_instance; (exact rfl); (first | (with_reducible assumption) | omega | (focus (simp; done)) | (focus (simp; omega; done)) | decide); intro ws _ _))
      go_ret
      rw [HX.out]
      exact ⟨rfl, h7, ⟨(n6.out.mono (fun _ _ h => h.elim)).trans s7.chg (fun _ _ h => h)⟩⟩
  · have eA : ¬ EI = 0 := by omega
    have eD : (EI != 0) = true := by simp [eA]
    have HX := Lib.hid (HR3.out.trans (if_pos e0))
    have HEI := Lib.hid hEI
    clear HR3 eA hEI e0
    go_wp2_with (first | ((with_reducible apply wpl_storerow); (exact rfl); (exact rfl); infer_instance; infer_instance; (exact hq); (exact hs0); (exact ho); intro wq _ hbq) | ((with_reducible apply (wpl_alloc (dst := some 5))); intro zq wzq _ _ _) | ((with_reducible apply wpl_alloc); intro z wz _ _ _) | ((with_reducible apply wpl_loadrow); (exact rfl); infer_instance; infer_instance; (first | (with_reducible assumption) | (with_reducible exact H32.size _) | kernel_rfl)) | ((with_reducible apply wpl_loadcellN); (exact rfl); infer_instance; (exact rfl)) | ((with_reducible apply wpl_storerow); (exact rfl); (exact rfl); infer_instance; infer_instance; (first | (with_reducible assumption) | (with_reducible exact H32.size _) | kernel_rfl); (first | (with_reducible assumption) | (with_reducible exact H32.size _) | kernel_rfl); (first | (with_reducible exact u8s_one _) | (with_reducible assumption) | kernel_rfl); intro ws _ _) | ((with_reducible apply wpl_storecell); (exact rfl); (exact rfl); infer_instance; (exact rfl); (first | (with_reducible assumption) | omega | (focus (simp; done)) | (focus (simp; omega; done)) | decide); intro ws _ _))
    go_ret
    rw [HX.out, HEI.out]
    exact ⟨rfl, Lib.hid ⟨r0, HF2.out.calm (stepN (w0 := w2)).chg, HRL.out⟩, ⟨(stepN (w0 := w)).chg.mono (fun _ _ h => h.elim)⟩⟩
end Go.Proofs.Ytegdihpnefoolaa
/- BpF -/
open Go Go.RowKit
namespace Go.Proofs.Ytegdihpnefoolaa
/-- an act of the law's -/
structure BAct where
  kind : Int
  nm : List UInt8
  I : Option Addr
  ic : Nat
  img : List UInt8
  n : Int
  M : Option Addr
  mc : Nat
  mind : List UInt8
  tear : Int
def BAct.cells (a : BAct) : List Value := [.int .i64 a.kind, .string (strL a.nm), .slice a.I a.img.length a.ic, .int .i64 a.n, .slice a.M a.mind.length a.mc, .int .i64 a.tear]
instance : RowC BAct := ⟨6, BAct.cells, fun _ => rfl, fun a u hu => by
  simp only [BAct.cells, List.mem_cons, List.not_mem_nil, or_false] at hu
  rcases hu with rfl | rfl | rfl | rfl | rfl | rfl <;> rfl, ⟨0, [], none, 0, [], 0, none, 0, [], 0⟩⟩
instance : RowT Try.prog 48 6 := ⟨by kernel_rfl, _, Try.underlying48, rfl⟩
instance : ElemT Try.prog 44 48 6 88 (.agg #[.int .i64 0, .string ⟨#[]⟩, .slice none 0 0, .int .i64 0, .slice none 0 0, .int .i64 0]) := ⟨⟨Try.underlying44, by kernel_rfl, rfl, by decide⟩⟩
/-- an act of the script, as it stands in this world -/
def BActIn (w : World) (a : BAct) : Prop := Rd w a.I (bs a.img) ∧ Rd w a.M (bs a.mind) ∧ a.img.length ≤ a.ic ∧ a.img.length ≤ 9223372036854775807 ∧ a.mind.length ≤ 9223372036854775807 ∧ a.nm.length ≤ 9223372036854775807 ∧ a.n ≤ 9223372036854775807
section
variable {P : Program} {ops : Array Oper} {rest : List Oper} {a : Act} {w : World} {Q : Exit → Act → World → Prop} {dst : Option Tmp} {ty : TypeId} {pos : String} {after : Array Edge}
theorem wpl_loadpartB {t : TypeId} {x : Operand} {g k : Nat} (hx : a.eval x = .pointer (some ⟨g, k, none⟩)) {tb : TypeId} {cs : Array Value} (hb : HB w g tb cs) (ht : RowT P t 32) {hh : H32} (hv : (cs.toList.drop k).take 32 = bs hh.l)
    (h : wpList P ops Q rest (a.put dst (.agg (u8s hh.l))) w) : wpList P ops Q (⟨dst, .load t x, ty, pos, after, none⟩ :: rest) a w := wpl_of_run rfl (ev_loadpartB hx hb ht hv) h
end
set_option maxRecDepth 100000 in
set_option maxHeartbeats 1600000 in
theorem bkSame_calls (D : BSt) {M M' : Option Addr} {m d m' d' : Nat} {w : World} [h1 : HR w M (bs D.mind)] [h2 : HR w M' (bs D.mind)] (hm : D.mind.length = m) (hm' : D.mind.length = m') :
    Calls Try.prog 36 #[.agg (bkL D.bank D.size D.sum D.cnt (strL D.name) M m d).toArray, .agg (bkL D.bank D.size D.sum D.cnt (strL D.name) M' m' d').toArray] w fun e w' => e = .returned (.bool true) ∧ Step nowhere w w' := by
  obtain ⟨sb, sz, S, sc, nm, md⟩ := D
  have h1 : HR w M (bs md) := h1
  have h2 : HR w M' (bs md) := h2
  have hm : md.length = m := hm
  have hm' : md.length = m' := hm'
  have heq : ∀ w, (binOp .eql 52 (.agg (u8s S.l)) (.agg (u8s S.l))).run Try.prog w = .ok (.bool true) w := fun w => by rw [eqlHB, decide_eq_true rfl]
  have he1 : ((strL nm).toList == (strL nm).toList) = true := by simp
  have he2 : ((strL md).toList == (strL md).toList) = true := by simp
  show Calls _ _ #[.agg (bkL sb sz S sc (strL nm) M m d).toArray, .agg (bkL sb sz S sc (strL nm) M' m' d').toArray] _ _
  go_enter Try.func36, Try.ntmps36
  go_wp2_with (first | go_skip | ((with_reducible apply (wpl_loadcell (k := 0))); (exact rfl); infer_instance; (exact bk_get0 _ _ _ _ _ _ _ _)) | ((with_reducible apply (wpl_loadcell (k := 1))); (exact rfl); infer_instance; (exact bk_get1 _ _ _ _ _ _ _ _)) | ((with_reducible apply (wpl_loadcell (k := 34))); (exact rfl); infer_instance; (exact bk_get34 _ _ _ _ _ _ _ _)) | ((with_reducible apply (wpl_loadcell (k := 35))); (exact rfl); infer_instance; (exact bk_get35 _ _ _ _ _ _ _ _)) | ((with_reducible apply (wpl_loadcell (k := 36))); (exact rfl); infer_instance; (exact bk_get36 _ _ _ _ _ _ _ _)) | ((with_reducible apply (wpl_loadpartB (k := 2))); (exact rfl); infer_instance; infer_instance; (exact bk_sum _ _ _ _ _ _ _ _)) | ((with_reducible apply (wpl_box_agg (dst := some 2))); (exact rfl); intro za wza _ _ _) | ((with_reducible apply (wpl_box_int (dst := some 2))); (exact rfl); intro za wza _ _ _) | ((with_reducible apply (wpl_box_slice (dst := some 2))); (exact rfl); intro za wza _ _ _) | ((with_reducible apply (wpl_box_str (dst := some 2))); (exact rfl); intro za wza _ _ _) | ((with_reducible apply (wpl_box_bool (dst := some 2))); (exact rfl); intro za wza _ _ _) | ((with_reducible apply (wpl_box_ptr (dst := some 2))); (exact rfl); intro za wza _ _ _) | ((with_reducible apply (wpl_box_agg (dst := some 3))); (exact rfl); intro zb wzb _ _ _) | ((with_reducible apply (wpl_box_int (dst := some 3))); (exact rfl); intro zb wzb _ _ _) | ((with_reducible apply (wpl_box_slice (dst := some 3))); (exact rfl); intro zb wzb _ _ _) | ((with_reducible apply (wpl_box_str (dst := some 3))); (exact rfl); intro zb wzb _ _ _) | ((with_reducible apply (wpl_box_bool (dst := some 3))); (exact rfl); intro zb wzb _ _ _) | ((with_reducible apply (wpl_box_ptr (dst := some 3))); (exact rfl); intro zb wzb _ _ _) | ((with_reducible apply wpl_box_agg); (exact rfl); intro z wz _ _ _) | ((with_reducible apply wpl_box_int); (exact rfl); intro z wz _ _ _) | ((with_reducible apply wpl_box_slice); (exact rfl); intro z wz _ _ _) | ((with_reducible apply wpl_box_str); (exact rfl); intro z wz _ _ _) | ((with_reducible apply wpl_box_bool); (exact rfl); intro z wz _ _ _) | ((with_reducible apply wpl_box_ptr); (exact rfl); intro z wz _ _ _) | ((with_reducible apply (wpl_guard (op := .load _ _))); (exact rfl)) | ((with_reducible apply (wpl_guard (op := .fieldAddr _ _ _))); (exact rfl)) | ((with_reducible apply (wpl_guard (op := .convert _ _ _))); (exact rfl)) | ((with_reducible apply wpl_loadrow); (exact rfl); infer_instance; infer_instance; (first | (with_reducible assumption) | (with_reducible exact H32.size _) | (with_reducible exact enc_sz _ rfl) | kernel_rfl)) | ((with_reducible apply wpl_loadcellN); (exact rfl); infer_instance; (exact rfl)) | ((with_reducible apply (wpl_loadhash (t := 52))); (exact rfl); infer_instance; infer_instance; (first | (with_reducible assumption) | omega)) | ((with_reducible apply (wpl_loadE (α := BAct) (t := 48))); infer_instance; (exact rfl); infer_instance; (exact rfl); (decide); (first | (with_reducible assumption) | omega | (focus (simp; done)) | (focus (simp; omega; done)) | decide)) | ((with_reducible apply (wpl_fieldE (t := 48))); (exact Try.underlying48); (exact rfl); (kernel_rfl); (exact rfl); infer_instance; (exact cells_pos (by decide) (by omega))) | ((with_reducible apply (wpl_loadF (α := BAct))); infer_instance; (exact rfl); infer_instance; (exact rfl); (first | (with_reducible assumption) | omega | (focus (simp; done)) | (focus (simp; omega; done)) | decide); (exact rfl)) | ((with_reducible apply wpl_conv); (exact rfl); infer_instance; (first | (with_reducible assumption) | (focus (simp; done)) | omega); (exact Try.underlying22); (exact Try.underlying5); (exact Try.underlying9)) | ((with_reducible apply (wpl_loadint (t := 3))); (exact rfl); infer_instance; infer_instance; (first | (with_reducible assumption) | omega)) | ((with_reducible apply (wpl_loadbyte (t := 5))); (exact rfl); infer_instance; infer_instance; (first | (with_reducible assumption) | omega)))
  go_ret
  exact ⟨rfl, stepN⟩
set_option maxRecDepth 100000 in
set_option maxHeartbeats 1600000 in
theorem bkLong {A : Option Addr} {n c : Nat} {l : List BAct} {w : World} [hL : HR w A (cellsOf l)] (hn : l.length = n) (hI : ∀ a ∈ l, BActIn w a) :
    Calls Try.prog 27 #[.slice A n c] w fun e w' => (e = .returned (.bool false) ∨ e = .returned (.bool true)) ∧ Step nowhere w w' := by
  have HAI := Lib.hid hI
  have HN := Lib.hid hn
  clear hI hn
  go_enter Try.func27, Try.ntmps27
  go_wp2_with (first | go_skip | ((with_reducible apply wpl_loadrow); (exact rfl); infer_instance; infer_instance; (first | (with_reducible assumption) | (with_reducible exact H32.size _) | (with_reducible exact enc_sz _ rfl) | kernel_rfl)) | ((with_reducible apply wpl_loadcellN); (exact rfl); infer_instance; (exact rfl)))
  go_loopw [3, 4] (fun tn ti wr => ∃ (k : Nat) (z : Int), k ≤ n ∧ k ≤ 16 ∧ ti = .int .i64 (k : Int) ∧ tn = .int .i64 z ∧ Step nowhere w wr) (fun _ ti _ => 16 - (intOf ti).toNat)
  case atStart => exact ⟨0, 0, Nat.zero_le _, Nat.zero_le _, rfl, rfl, stepN⟩
  case round =>
    obtain ⟨k, z, hk, hk16, rfl, rfl, _⟩ := hrel
    have n1 : Nw w wr := inferInstance
    have hLr : HR wr A (cellsOf l) := ⟨hL.out.later n1.out⟩
    by_cases hlt : k < n
    · have hknI : (k : Int) < (n : Int) := by omega
      by_cases h16 : k < 16
      · have hk8I : (k : Int) < 16 := by omega
        have hkl : k < l.length := by rw [HN.out]; exact hlt
        have hll : l.length = n := HN.out
        obtain ⟨_, _, _, b1, b2, b3, _⟩ := HAI.out (gt l k) (gt_mem l k hkl)
        have b4 : (strL (gt l k).nm).size = (gt l k).nm.length := by show (gt l k).nm.toArray.size = _; rw [List.size_toArray]
        go_wp2_with (first | go_skip | ((with_reducible apply wpl_loadrow); (exact rfl); infer_instance; infer_instance; (first | (with_reducible assumption) | (with_reducible exact H32.size _) | (with_reducible exact enc_sz _ rfl) | kernel_rfl)) | ((with_reducible apply wpl_loadcellN); (exact rfl); infer_instance; (exact rfl)))
        refine wp_region_N (nowhere) (by kernel_rfl) (fun wd _ _ => ?_)
        refine' takeH (i := 0) (v := _) rfl (by kernel_rfl) (by kernel_rfl) (by kernel_rfl) (fun _ _ _ h => h) (yields_of (by rfl) (fun w' _ => ?_)) inferInstance ?_
        rotate_left
        · (go_simp; try with_reducible rfl)
        try simp only [Act.put, sA]; try simp only [sB, sC]
        refine' takeH (i := 1) (v := _) rfl (by kernel_rfl) (by kernel_rfl) (by kernel_rfl) (fun _ _ _ h => h) (yields_of (by rfl) (fun w' _ => ?_)) inferInstance ?_
        rotate_left
        · (go_simp; try with_reducible rfl)
        try simp only [Act.put, sA]; try simp only [sB, sC]
        refine' takeH (i := 2) (v := _) rfl (by kernel_rfl) (by kernel_rfl) (by kernel_rfl) (fun _ _ _ h => h) (yields_of (by rfl) (fun w' _ => ?_)) inferInstance ?_
        rotate_left
        · (go_simp; try with_reducible rfl)
        try simp only [Act.put, sA]; try simp only [sB, sC]
        refine' takeH (i := 3) (v := _) rfl (by kernel_rfl) (by kernel_rfl) (by kernel_rfl) (fun _ _ _ h => h) (yields_of (by rfl) (fun w' _ => ?_)) inferInstance ?_
        rotate_left
        · (go_simp; try with_reducible rfl)
        try simp only [Act.put, sA]; try simp only [sB, sC]
        refine' takeH (i := 4) (v := _) rfl (by kernel_rfl) (by kernel_rfl) (by kernel_rfl) (fun _ _ _ h => h) (yields_of (by rfl) (fun w' _ => ?_)) inferInstance ?_
        rotate_left
        · (first | ((with_reducible apply ev_indexH'); (exact rfl); (exact rfl); infer_instance; infer_instance; (first | (with_reducible assumption) | omega); (first | (with_reducible assumption) | omega); (first | (with_reducible assumption) | omega)) | ((with_reducible apply ev_indexH); (exact rfl); (exact rfl); infer_instance; infer_instance; (first | (with_reducible assumption) | omega); (first | (with_reducible assumption) | omega)) | ((with_reducible apply (ev_indexE (α := BAct) (t := 44))); (exact rfl); (exact rfl); infer_instance; infer_instance; (first | (with_reducible assumption) | omega | (focus (simp; done)) | (focus (simp; omega; done)) | decide); (exact rfl); (decide); (first | (with_reducible assumption) | omega | (focus (simp; done)) | (focus (simp; omega; done)) | decide)) | ((with_reducible apply (ev_indexE0 (α := BAct) (t := 44))); (exact rfl); infer_instance; infer_instance; (first | (with_reducible assumption) | omega | (focus (simp; done)) | (focus (simp; omega; done)) | decide); (exact rfl); (decide); (first | (with_reducible assumption) | omega | (focus (simp; done)) | (focus (simp; omega; done)) | decide)) | (go_simp; try with_reducible rfl))
        try simp only [Act.put, sA]; try simp only [sB, sC]
        refine' takeH (i := 5) (v := _) rfl (by kernel_rfl) (by kernel_rfl) (by kernel_rfl) (fun _ _ _ h => h) (yields_of (by rfl) (fun w' _ => ?_)) inferInstance ?_
        rotate_left
        · (first | ((with_reducible apply (ev_fieldE (t := 48))); (exact Try.underlying48); (exact rfl); (kernel_rfl); (exact rfl); infer_instance; (exact cells_pos (by decide) (by omega))) | (go_simp; try with_reducible rfl))
        try simp only [Act.put, sA]; try simp only [sB, sC]
        refine' takeH (i := 6) (v := _) rfl (by kernel_rfl) (by kernel_rfl) (by kernel_rfl) (fun _ _ _ h => h) (yields_of (by rfl) (fun w' _ => ?_)) inferInstance ?_
        rotate_left
        · (first | ((with_reducible apply ev_loadrow); (exact rfl); infer_instance; infer_instance; (first | (with_reducible assumption) | (with_reducible exact H32.size _) | (with_reducible exact enc_sz _ rfl) | kernel_rfl)) | ((with_reducible apply (ev_loadhash (t := 52))); (exact rfl); infer_instance; infer_instance; (first | (with_reducible assumption) | omega)) | ((with_reducible apply ev_loadcellN); (exact rfl); infer_instance; infer_instance; (exact rfl)) | ((with_reducible apply (ev_loadE (α := BAct) (t := 48))); infer_instance; (exact rfl); infer_instance; (exact rfl); (decide); (first | (with_reducible assumption) | omega | (focus (simp; done)) | (focus (simp; omega; done)) | decide)) | ((with_reducible apply (ev_loadF (α := BAct))); infer_instance; (exact rfl); infer_instance; (exact rfl); (first | (with_reducible assumption) | omega | (focus (simp; done)) | (focus (simp; omega; done)) | decide); (exact rfl)) | ((with_reducible apply (ev_loadint (t := 3))); (exact rfl); infer_instance; infer_instance; (first | (with_reducible assumption) | omega)) | ((with_reducible apply (ev_loadbyte (t := 5))); (exact rfl); infer_instance; infer_instance; (first | (with_reducible assumption) | omega)) | (go_simp; try with_reducible rfl))
        try simp only [Act.put, sA]; try simp only [sB, sC]
        refine' takeH (i := 7) (v := _) rfl (by kernel_rfl) (by kernel_rfl) (by kernel_rfl) (fun _ _ _ h => h) (yields_of (by rfl) (fun w' _ => ?_)) inferInstance ?_
        rotate_left
        · (go_simp; try with_reducible rfl)
        try simp only [Act.put, sA]; try simp only [sB, sC]
        refine' takeH (i := 8) (v := _) rfl (by kernel_rfl) (by kernel_rfl) (by kernel_rfl) (fun _ _ _ h => h) (yields_of (by rfl) (fun w' _ => ?_)) inferInstance ?_
        rotate_left
        · (go_simp; try with_reducible rfl)
        try simp only [Act.put, sA]; try simp only [sB, sC]
        refine' takeH (i := 9) (v := _) rfl (by kernel_rfl) (by kernel_rfl) (by kernel_rfl) (fun _ _ _ h => h) (yields_of (by rfl) (fun w' _ => ?_)) inferInstance ?_
        rotate_left
        · (go_simp; try with_reducible rfl)
        try simp only [Act.put, sA]; try simp only [sB, sC]
        refine' takeH (i := 10) (v := _) rfl (by kernel_rfl) (by kernel_rfl) (by kernel_rfl) (fun _ _ _ h => h) (yields_of (by rfl) (fun w' _ => ?_)) inferInstance ?_
        rotate_left
        · (go_simp; try with_reducible rfl)
        try simp only [Act.put, sA]; try simp only [sB, sC]
        refine' takeH (i := 11) (v := _) rfl (by kernel_rfl) (by kernel_rfl) (by kernel_rfl) (fun _ _ _ h => h) (yields_of (by rfl) (fun w' _ => ?_)) inferInstance ?_
        rotate_left
        · (first | ((with_reducible apply ev_indexH'); (exact rfl); (exact rfl); infer_instance; infer_instance; (first | (with_reducible assumption) | omega); (first | (with_reducible assumption) | omega); (first | (with_reducible assumption) | omega)) | ((with_reducible apply ev_indexH); (exact rfl); (exact rfl); infer_instance; infer_instance; (first | (with_reducible assumption) | omega); (first | (with_reducible assumption) | omega)) | ((with_reducible apply (ev_indexE (α := BAct) (t := 44))); (exact rfl); (exact rfl); infer_instance; infer_instance; (first | (with_reducible assumption) | omega | (focus (simp; done)) | (focus (simp; omega; done)) | decide); (exact rfl); (decide); (first | (with_reducible assumption) | omega | (focus (simp; done)) | (focus (simp; omega; done)) | decide)) | ((with_reducible apply (ev_indexE0 (α := BAct) (t := 44))); (exact rfl); infer_instance; infer_instance; (first | (with_reducible assumption) | omega | (focus (simp; done)) | (focus (simp; omega; done)) | decide); (exact rfl); (decide); (first | (with_reducible assumption) | omega | (focus (simp; done)) | (focus (simp; omega; done)) | decide)) | (go_simp; try with_reducible rfl))
        try simp only [Act.put, sA]; try simp only [sB, sC]
        refine' takeH (i := 12) (v := _) rfl (by kernel_rfl) (by kernel_rfl) (by kernel_rfl) (fun _ _ _ h => h) (yields_of (by rfl) (fun w' _ => ?_)) inferInstance ?_
        rotate_left
        · (first | ((with_reducible apply (ev_fieldE (t := 48))); (exact Try.underlying48); (exact rfl); (kernel_rfl); (exact rfl); infer_instance; (exact cells_pos (by decide) (by omega))) | (go_simp; try with_reducible rfl))
        try simp only [Act.put, sA]; try simp only [sB, sC]
        refine' takeH (i := 13) (v := _) rfl (by kernel_rfl) (by kernel_rfl) (by kernel_rfl) (fun _ _ _ h => h) (yields_of (by rfl) (fun w' _ => ?_)) inferInstance ?_
        rotate_left
        · (first | ((with_reducible apply ev_loadrow); (exact rfl); infer_instance; infer_instance; (first | (with_reducible assumption) | (with_reducible exact H32.size _) | (with_reducible exact enc_sz _ rfl) | kernel_rfl)) | ((with_reducible apply (ev_loadhash (t := 52))); (exact rfl); infer_instance; infer_instance; (first | (with_reducible assumption) | omega)) | ((with_reducible apply ev_loadcellN); (exact rfl); infer_instance; infer_instance; (exact rfl)) | ((with_reducible apply (ev_loadE (α := BAct) (t := 48))); infer_instance; (exact rfl); infer_instance; (exact rfl); (decide); (first | (with_reducible assumption) | omega | (focus (simp; done)) | (focus (simp; omega; done)) | decide)) | ((with_reducible apply (ev_loadF (α := BAct))); infer_instance; (exact rfl); infer_instance; (exact rfl); (first | (with_reducible assumption) | omega | (focus (simp; done)) | (focus (simp; omega; done)) | decide); (exact rfl)) | ((with_reducible apply (ev_loadint (t := 3))); (exact rfl); infer_instance; infer_instance; (first | (with_reducible assumption) | omega)) | ((with_reducible apply (ev_loadbyte (t := 5))); (exact rfl); infer_instance; infer_instance; (first | (with_reducible assumption) | omega)) | (go_simp; try with_reducible rfl))
        try simp only [Act.put, sA]; try simp only [sB, sC]
        refine' takeH (i := 14) (v := _) rfl (by kernel_rfl) (by kernel_rfl) (by kernel_rfl) (fun _ _ _ h => h) (yields_of (by rfl) (fun w' _ => ?_)) inferInstance ?_
        rotate_left
        · (go_simp; try with_reducible rfl)
        try simp only [Act.put, sA]; try simp only [sB, sC]
        refine' takeH (i := 15) (v := _) rfl (by kernel_rfl) (by kernel_rfl) (by kernel_rfl) (fun _ _ _ h => h) (yields_of (by rfl) (fun w' _ => ?_)) inferInstance ?_
        rotate_left
        · (go_simp; try with_reducible rfl)
        try simp only [Act.put, sA]; try simp only [sB, sC]
        refine' takeH (i := 16) (v := _) rfl (by kernel_rfl) (by kernel_rfl) (by kernel_rfl) (fun _ _ _ h => h) (yields_of (by rfl) (fun w' _ => ?_)) inferInstance ?_
        rotate_left
        · (go_simp; try with_reducible rfl)
        try simp only [Act.put, sA]; try simp only [sB, sC]
        refine' takeH (i := 17) (v := _) rfl (by kernel_rfl) (by kernel_rfl) (by kernel_rfl) (fun _ _ _ h => h) (yields_of (by rfl) (fun w' _ => ?_)) inferInstance ?_
        rotate_left
        · (go_simp; try with_reducible rfl)
        try simp only [Act.put, sA]; try simp only [sB, sC]
        refine' takeH (i := 18) (v := _) rfl (by kernel_rfl) (by kernel_rfl) (by kernel_rfl) (fun _ _ _ h => h) (yields_of (by rfl) (fun w' _ => ?_)) inferInstance ?_
        rotate_left
        · (first | ((with_reducible apply ev_indexH'); (exact rfl); (exact rfl); infer_instance; infer_instance; (first | (with_reducible assumption) | omega); (first | (with_reducible assumption) | omega); (first | (with_reducible assumption) | omega)) | ((with_reducible apply ev_indexH); (exact rfl); (exact rfl); infer_instance; infer_instance; (first | (with_reducible assumption) | omega); (first | (with_reducible assumption) | omega)) | ((with_reducible apply (ev_indexE (α := BAct) (t := 44))); (exact rfl); (exact rfl); infer_instance; infer_instance; (first | (with_reducible assumption) | omega | (focus (simp; done)) | (focus (simp; omega; done)) | decide); (exact rfl); (decide); (first | (with_reducible assumption) | omega | (focus (simp; done)) | (focus (simp; omega; done)) | decide)) | ((with_reducible apply (ev_indexE0 (α := BAct) (t := 44))); (exact rfl); infer_instance; infer_instance; (first | (with_reducible assumption) | omega | (focus (simp; done)) | (focus (simp; omega; done)) | decide); (exact rfl); (decide); (first | (with_reducible assumption) | omega | (focus (simp; done)) | (focus (simp; omega; done)) | decide)) | (go_simp; try with_reducible rfl))
        try simp only [Act.put, sA]; try simp only [sB, sC]
        refine' takeH (i := 19) (v := _) rfl (by kernel_rfl) (by kernel_rfl) (by kernel_rfl) (fun _ _ _ h => h) (yields_of (by rfl) (fun w' _ => ?_)) inferInstance ?_
        rotate_left
        · (first | ((with_reducible apply (ev_fieldE (t := 48))); (exact Try.underlying48); (exact rfl); (kernel_rfl); (exact rfl); infer_instance; (exact cells_pos (by decide) (by omega))) | (go_simp; try with_reducible rfl))
        try simp only [Act.put, sA]; try simp only [sB, sC]
        refine' takeH (i := 20) (v := _) rfl (by kernel_rfl) (by kernel_rfl) (by kernel_rfl) (fun _ _ _ h => h) (yields_of (by rfl) (fun w' _ => ?_)) inferInstance ?_
        rotate_left
        · (first | ((with_reducible apply ev_loadrow); (exact rfl); infer_instance; infer_instance; (first | (with_reducible assumption) | (with_reducible exact H32.size _) | (with_reducible exact enc_sz _ rfl) | kernel_rfl)) | ((with_reducible apply (ev_loadhash (t := 52))); (exact rfl); infer_instance; infer_instance; (first | (with_reducible assumption) | omega)) | ((with_reducible apply ev_loadcellN); (exact rfl); infer_instance; infer_instance; (exact rfl)) | ((with_reducible apply (ev_loadE (α := BAct) (t := 48))); infer_instance; (exact rfl); infer_instance; (exact rfl); (decide); (first | (with_reducible assumption) | omega | (focus (simp; done)) | (focus (simp; omega; done)) | decide)) | ((with_reducible apply (ev_loadF (α := BAct))); infer_instance; (exact rfl); infer_instance; (exact rfl); (first | (with_reducible assumption) | omega | (focus (simp; done)) | (focus (simp; omega; done)) | decide); (exact rfl)) | ((with_reducible apply (ev_loadint (t := 3))); (exact rfl); infer_instance; infer_instance; (first | (with_reducible assumption) | omega)) | ((with_reducible apply (ev_loadbyte (t := 5))); (exact rfl); infer_instance; infer_instance; (first | (with_reducible assumption) | omega)) | (go_simp; try with_reducible rfl))
        try simp only [Act.put, sA]; try simp only [sB, sC]
        refine' takeH (i := 21) (v := _) rfl (by kernel_rfl) (by kernel_rfl) (by kernel_rfl) (fun _ _ _ h => h) (yields_of (by rfl) (fun w' _ => ?_)) inferInstance ?_
        rotate_left
        · (go_simp; try with_reducible rfl)
        try simp only [Act.put, sA]; try simp only [sB, sC]
        refine' takeH (i := 22) (v := _) rfl (by kernel_rfl) (by kernel_rfl) (by kernel_rfl) (fun _ _ _ h => h) (yields_of (by rfl) (fun w' _ => ?_)) inferInstance ?_
        rotate_left
        · (go_simp; try with_reducible rfl)
        try simp only [Act.put, sA]; try simp only [sB, sC]
        refine' takeH (i := 23) (v := _) rfl (by kernel_rfl) (by kernel_rfl) (by kernel_rfl) (fun _ _ _ h => h) (yields_of (by rfl) (fun w' _ => ?_)) inferInstance ?_
        rotate_left
        · (go_simp; try with_reducible rfl)
        try simp only [Act.put, sA]; try simp only [sB, sC]
        refine wpAnyH_done (by kernel_rfl) ?_ _
        obtain ⟨y, hy⟩ : ∃ y, y = IntKind.i64.wrap (IntKind.i64.wrap (IntKind.i64.wrap (IntKind.i64.wrap (z + 1) + (gt l k).nm.length) + (gt l k).img.length) + (gt l k).mind.length) := ⟨_, rfl⟩
        rw [← hy]
        clear hy
        by_cases hb : 12000 < y
        · go_wp2_with (first | go_skip | ((with_reducible apply wpl_loadrow); (exact rfl); infer_instance; infer_instance; (first | (with_reducible assumption) | (with_reducible exact H32.size _) | (with_reducible exact enc_sz _ rfl) | kernel_rfl)) | ((with_reducible apply wpl_loadcellN); (exact rfl); infer_instance; (exact rfl)))
          go_ret
          exact ⟨.inr rfl, stepN⟩
        · go_wp2_with (first | go_skip | ((with_reducible apply wpl_loadrow); (exact rfl); infer_instance; infer_instance; (first | (with_reducible assumption) | (with_reducible exact H32.size _) | (with_reducible exact enc_sz _ rfl) | kernel_rfl)) | ((with_reducible apply wpl_loadcellN); (exact rfl); infer_instance; (exact rfl)))
          exact ⟨⟨k + 1, y, by omega, by omega, by go_num, rfl, stepN⟩, by simp [intOf]; omega⟩
      · have hk8I : ¬ (k : Int) < 16 := by omega
        go_wp2_with (first | go_skip | ((with_reducible apply wpl_loadrow); (exact rfl); infer_instance; infer_instance; (first | (with_reducible assumption) | (with_reducible exact H32.size _) | (with_reducible exact enc_sz _ rfl) | kernel_rfl)) | ((with_reducible apply wpl_loadcellN); (exact rfl); infer_instance; (exact rfl)))
        go_ret
        exact ⟨.inl rfl, stepN⟩
    · have hknI : ¬ (k : Int) < (n : Int) := by omega
      go_wp2_with (first | go_skip | ((with_reducible apply wpl_loadrow); (exact rfl); infer_instance; infer_instance; (first | (with_reducible assumption) | (with_reducible exact H32.size _) | (with_reducible exact enc_sz _ rfl) | kernel_rfl)) | ((with_reducible apply wpl_loadcellN); (exact rfl); infer_instance; (exact rfl)))
      go_ret
      exact ⟨.inl rfl, stepN⟩
end Go.Proofs.Ytegdihpnefoolaa
