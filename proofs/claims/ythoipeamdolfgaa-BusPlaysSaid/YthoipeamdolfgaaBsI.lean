/- List: all that wait, copied. -/
import Derived.Test.YthoipeamdolfgaaBsH
open Go Go.RowKit
namespace Go.Proofs.Ythoipeamdolfgaa
open Hp
instance : ZeroT Try.prog 84 #[.slice none 0 0] := ⟨.slice none 0 0, fun _ => by kernel_rfl, rfl⟩
def FR.fr (f : FR) : Fr := (f.id, f.d)
/-- each frame's bytes lie in a row of the call's own, made since w0 -/
def FNew (w0 w : World) (l : List FR) : Prop := ∀ f ∈ l, Own w 5 1 f.A f.n f.c (bs f.d) ∧ ∀ ad, f.A = some ad → w0.heap.size ≤ ad.block
theorem FNew.chg {S : Nat → Prop} {w0 w w' : World} {l : List FR} (h : FNew w0 w l) (hc : Chg S w w') (hS : ∀ f ∈ l, ∀ ad, f.A = some ad → ¬ S ad.block) : FNew w0 w' l := fun f hf => ⟨(h f hf).1.chg hc (hS f hf), (h f hf).2⟩
theorem own_len8 {w : World} {A : Option Addr} {n c : Nat} {d : List UInt8} (h : Own w 5 1 A n c (bs d)) : d.length = n := by
  have := h.len
  rw [bs_length] at this
  omega
theorem FNew.ok {w0 w : World} {l : List FR} (h : FNew w0 w l) : FOk w l := fun f hf => ⟨(h f hf).1.rd, own_len8 (h f hf).1, own_cap (h f hf).1⟩
structure LsInv (w w' : World) (cm : Nat) (fr : List Fr) (zq : Nat) (q : List BM) (A : Option Addr) (c m : Nat) (LA : Option Addr) (lc k : Nat) (l : List FR) : Prop where
  ql : q.length = m
  ll : l.length = k
  hb : Blk w' zq 84 #[.slice A m c]
  ho : Own w' 91 3 A m c (cellsOf q)
  hL : Own w' 45 2 LA k lc (cellsOf l)
  fn : FNew w w' l
  nz : w.heap.size ≤ zq
  nA : ∀ ad, A = some ad → w.heap.size ≤ ad.block ∧ ad.block ≠ zq
  nL : ∀ ad, LA = some ad → w.heap.size ≤ ad.block ∧ ad.block ≠ zq ∧ ∀ bd, A = some bd → ad.block ≠ bd.block
  nF : ∀ f ∈ l, ∀ ad, f.A = some ad → ad.block ≠ zq ∧ (∀ bd, A = some bd → ad.block ≠ bd.block) ∧ ∀ bd, LA = some bd → ad.block ≠ bd.block
  mq : ∀ x ∈ q, Rd w x.A (bs x.d) ∧ x.d.length = x.n ∧ x.n ≤ 1000
  fr_ : ∃ fr2, Wt q cm fr2 ∧ fr = l.map FR.fr ++ fr2
set_option maxRecDepth 100000 in
set_option maxHeartbeats 1600000 in
theorem list_calls {w : World} {z : Nat} {S : Nat → Prop} {cm : Nat} {fr : List Fr} (h : BS w z S cm fr) (hlen : fr.length ≤ 1000) (hd : ∀ x ∈ fr, x.2.length ≤ 1000) :
    Calls Try.prog 25 #[.pointer (some ⟨z, 0, none⟩)] w fun e w' => ∃ LA lc, ∃ l : List FR, e = .returned (.slice LA l.length lc) ∧ Step nowhere w w' ∧ Own w' 45 2 LA l.length lc (cellsOf l) ∧ FNew w w' l ∧ l.map FR.fr = fr := by
  obtain ⟨q, QA, qc, hb, ho, hA, hm, hq⟩ := h.mem
  obtain ⟨L, hL⟩ : ∃ L, fr.length = L := ⟨_, rfl⟩
  have hql : q.length = L := hq.len.trans hL
  rw [hL] at hb ho hlen
  have hB : HB w z 86 #[.slice QA L qc, .int .i64 (cm : Int)] := ⟨hb⟩
  have hO : HO w 91 3 QA L qc (cellsOf q) := ⟨ho⟩
  have hmq : ∀ x ∈ q, Rd w x.A (bs x.d) ∧ x.d.length = x.n ∧ x.n ≤ 1000 := fun x hx => by
    obtain ⟨h1, h2, _⟩ := hm x hx
    refine ⟨h1, h2, ?_⟩
    obtain ⟨s, hp, _, hs⟩ := hq.srt
    rw [← h2]
    exact hd x.fr (by rw [← hs]; exact List.mem_map_of_mem (hp.mem_iff.1 hx))
  have HMQ := Lib.hid hmq
  have HQ := Lib.hid hq
  have HL := Lib.hid hL
  clear hmq hq hL hm
  go_enter Try.func25, Try.ntmps25
  go_wp2_with (first | ((with_reducible apply wpl_alloc); intro z wz _ _ _) | ((with_reducible apply wpl_loadrow); (exact rfl); (exact inferInstance); (exact inferInstance); (first | (with_reducible assumption) | (with_reducible exact H32.size _) | (with_reducible exact enc_sz _ rfl) | kernel_rfl)) | ((with_reducible apply wpl_loadcellN); (exact rfl); (exact inferInstance); (first | (exact rfl) | (exact tg_hw _) | (exact tg_ctr _) | (exact tg_ecu _) | (exact srch_who) | (exact srch_fd))) | ((with_reducible apply wpl_storerow); (exact rfl); (exact rfl); (exact inferInstance); (exact inferInstance); (first | (with_reducible assumption) | (with_reducible exact H32.size _) | (with_reducible exact enc_sz _ rfl) | kernel_rfl); (first | (with_reducible assumption) | (with_reducible exact H32.size _) | (with_reducible exact enc_sz _ rfl) | kernel_rfl); (first | (with_reducible exact u8s_one _) | (with_reducible assumption) | (with_reducible exact enc_one _) | kernel_rfl); intro ws _ _) | ((with_reducible apply wpl_storecell); (exact rfl); (exact rfl); (exact inferInstance); (exact rfl); (first | (with_reducible assumption) | omega | (focus (simp; done)) | (focus (simp; omega; done)) | decide); intro ws _ _))
  refine (qclone_calls (A := QA) (c := qc) q hql (by omega)).mono ?_
  rintro e w1 ⟨A1, c1, rfl, _, _, hN1⟩
  have hN1w : NewA w A1 := hN1
  go_wp2_with (first | ((with_reducible apply (wpl_alloc (dst := some 4))); intro zq wzq _ _ _) | ((with_reducible apply wpl_alloc); intro z wz _ _ _) | ((with_reducible apply wpl_loadrow); (exact rfl); (exact inferInstance); (exact inferInstance); (first | (with_reducible assumption) | (with_reducible exact H32.size _) | (with_reducible exact enc_sz _ rfl) | kernel_rfl)) | ((with_reducible apply wpl_loadcellN); (exact rfl); (exact inferInstance); (first | (exact rfl) | (exact tg_hw _) | (exact tg_ctr _) | (exact tg_ecu _) | (exact srch_who) | (exact srch_fd))) | ((with_reducible apply wpl_storerow); (exact rfl); (exact rfl); (exact inferInstance); (exact inferInstance); (first | (with_reducible assumption) | (with_reducible exact H32.size _) | (with_reducible exact enc_sz _ rfl) | kernel_rfl); (first | (with_reducible assumption) | (with_reducible exact H32.size _) | (with_reducible exact enc_sz _ rfl) | kernel_rfl); (first | (with_reducible exact u8s_one _) | (with_reducible assumption) | (with_reducible exact enc_one _) | kernel_rfl); intro ws _ _) | ((with_reducible apply wpl_storecell); (exact rfl); (exact rfl); (exact inferInstance); (exact rfl); (first | (with_reducible assumption) | omega | (focus (simp; done)) | (focus (simp; omega; done)) | decide); intro ws _ _))
  have hzq : w1.heap.size = zq := (inferInstance : Born w1 zq).eq.symm
  have hb1 : HB ws zq 84 #[.slice A1 L c1] := inferInstance
  have ho1 : HO ws 91 3 A1 L c1 (cellsOf q) := inferInstance
  have hs1 : Chg nowhere w ws := (stepN (w0 := w)).chg
  have hI : LsInv w ws cm fr zq q A1 c1 L none 0 0 [] := ⟨hql, rfl, hb1.out, ho1.out, Own.nil _ _ _, (fun f hf => by cases hf), (by
    have : w.heap.size ≤ w1.heap.size := (inferInstance : SzLe w w1).out
    omega), (fun ad e => ⟨hN1w.out ad e, by
    have : HO w1 91 3 A1 L c1 (cellsOf q) := inferInstance
    have := this.out.lt e
    omega⟩), (fun ad e => by cases e), (fun f hf => by cases hf), HMQ.out, fr, HQ.out, rfl⟩
  have HI := Lib.hid hI
  clear hI hzq
  simp only [Act.put, List.setIfInBounds_toArray, List.set_cons_succ, List.set_cons_zero]
  go_loopw [3, 4] (fun lv qv wr => ∃ (zq : Nat) (q : List BM) (A : Option Addr) (c m : Nat) (LA : Option Addr) (lc k : Nat) (l : List FR), lv = .slice LA k lc ∧ qv = .pointer (some ⟨zq, 0, none⟩) ∧ Step nowhere w wr ∧ Hid (LsInv w wr cm fr zq q A c m LA lc k l)) (fun lv _ _ => 2000 - lenV lv)
  case atStart => exact ⟨zq, q, A1, c1, L, none, 0, 0, [], rfl, rfl, ⟨hs1⟩, HI⟩
  case round =>
    obtain ⟨zq, q, A, c, m, LA, lc, k, l, rfl, rfl, _, HI⟩ := hrel
    obtain ⟨fr2, hW, hfr⟩ := HI.out.fr_
    have hmf : m = fr2.length := by rw [← HI.out.ql]; exact hW.len
    have hkm : k + m = L := by
      have h1 := congrArg List.length hfr
      rw [HL.out, List.length_append, List.length_map, HI.out.ll, ← hmf] at h1
      omega
    have HW := Lib.hid hW
    have HFR := Lib.hid hfr
    have hbq : HB wr zq 84 #[.slice A m c] := ⟨HI.out.hb⟩
    have hoq : HO wr 91 3 A m c (cellsOf q) := ⟨HI.out.ho⟩
    have hoL : HO wr 45 2 LA k lc (cellsOf l) := ⟨HI.out.hL⟩
    have HMF := Lib.hid hmf
    clear hW hfr hmf
    rcases Nat.lt_or_ge 0 m with m0 | m0
    case inr =>
      have i0 : ¬ (0 : Int) < m := by omega
      go_wp2_with (first | ((with_reducible apply wpl_alloc); intro z wz _ _ _) | ((with_reducible apply wpl_loadrow); (exact rfl); (exact inferInstance); (exact inferInstance); (first | (with_reducible assumption) | (with_reducible exact H32.size _) | (with_reducible exact enc_sz _ rfl) | kernel_rfl)) | ((with_reducible apply wpl_loadcellN); (exact rfl); (exact inferInstance); (first | (exact rfl) | (exact tg_hw _) | (exact tg_ctr _) | (exact tg_ecu _) | (exact srch_who) | (exact srch_fd))) | ((with_reducible apply wpl_storerow); (exact rfl); (exact rfl); (exact inferInstance); (exact inferInstance); (first | (with_reducible assumption) | (with_reducible exact H32.size _) | (with_reducible exact enc_sz _ rfl) | kernel_rfl); (first | (with_reducible assumption) | (with_reducible exact H32.size _) | (with_reducible exact enc_sz _ rfl) | kernel_rfl); (first | (with_reducible exact u8s_one _) | (with_reducible assumption) | (with_reducible exact enc_one _) | kernel_rfl); intro ws _ _) | ((with_reducible apply wpl_storecell); (exact rfl); (exact rfl); (exact inferInstance); (exact rfl); (first | (with_reducible assumption) | omega | (focus (simp; done)) | (focus (simp; omega; done)) | decide); intro ws _ _))
      refine (len_calls A m c wr).mono ?_
      rintro e w5 ⟨rfl, rfl⟩
      go_wp2_with fail
      go_ret
      have hll := HI.out.ll
      have hf2 : fr2 = [] := List.eq_nil_of_length_eq_zero (by have := HMF.out; omega)
      subst hll
      exact ⟨LA, lc, l, rfl, stepN, hoL.out, HI.out.fn, by rw [HFR.out, hf2, List.append_nil]⟩
    case inl =>
      obtain ⟨m', rfl⟩ : ∃ m', m = m' + 1 := ⟨m - 1, by omega⟩
      have i0 : (0 : Int) < ((m' + 1 : Nat) : Int) := by omega
      have i1 : (0 : Int) < (m' : Int) + 1 := by omega
      have oz : OffB (rowOf A) zq := ⟨fun ⟨ad, e, hk⟩ => (HI.out.nA ad e).2 hk⟩
      have oa : OffA (only zq) A := ⟨fun ad e hk => (HI.out.nA ad e).2 hk⟩
      have oL1 : OffA (only zq) LA := ⟨fun ad e hk => (HI.out.nL ad e).2.1 hk⟩
      have oL2 : OffA (rowOf A) LA := ⟨fun ad e ⟨bd, e2, hk⟩ => (HI.out.nL ad e).2.2 bd e2 hk.symm⟩
      have oB : OffB (rowOf LA) zq := ⟨fun ⟨ad, e, hk⟩ => (HI.out.nL ad e).2.1 hk⟩
      have oA2 : OffA (rowOf LA) A := ⟨fun ad e ⟨bd, e2, hk⟩ => (HI.out.nL bd e2).2.2 ad e hk⟩
      have h0m : gt q 0 ∈ q := gt_mem q 0 (by have := HI.out.ql; omega)
      have HG := Lib.hid (HI.out.mq _ h0m)
      have HQL := Lib.hid HI.out.ql
      clear h0m
      go_wp2_with (first | ((with_reducible apply wpl_alloc); intro z wz _ _ _) | ((with_reducible apply wpl_loadrow); (exact rfl); (exact inferInstance); (exact inferInstance); (first | (with_reducible assumption) | (with_reducible exact H32.size _) | (with_reducible exact enc_sz _ rfl) | kernel_rfl)) | ((with_reducible apply wpl_loadcellN); (exact rfl); (exact inferInstance); (first | (exact rfl) | (exact tg_hw _) | (exact tg_ctr _) | (exact tg_ecu _) | (exact srch_who) | (exact srch_fd))) | ((with_reducible apply wpl_storerow); (exact rfl); (exact rfl); (exact inferInstance); (exact inferInstance); (first | (with_reducible assumption) | (with_reducible exact H32.size _) | (with_reducible exact enc_sz _ rfl) | kernel_rfl); (first | (with_reducible assumption) | (with_reducible exact H32.size _) | (with_reducible exact enc_sz _ rfl) | kernel_rfl); (first | (with_reducible exact u8s_one _) | (with_reducible assumption) | (with_reducible exact enc_one _) | kernel_rfl); intro ws _ _) | ((with_reducible apply wpl_storecell); (exact rfl); (exact rfl); (exact inferInstance); (exact rfl); (first | (with_reducible assumption) | omega | (focus (simp; done)) | (focus (simp; omega; done)) | decide); intro ws _ _))
      refine (len_calls A (m' + 1) c wr).mono ?_
      rintro e w4 ⟨rfl, rfl⟩
      go_wp2_with fail
      refine (qnext_calls (A := A) (c := c) q rfl (by simp) HQL.out (by omega)).mono ?_
      rintro e w5 ⟨rfl, hs5, hb5, ho5⟩
      have n5 : Chg nowhere w w5 := Chg.step (inferInstance : Step nowhere w wr).chg hs5.chg (fun x hx => hx.elim (fun e => by rw [show x = zq from e]; exact HI.out.nz) (fun ⟨ad, e, hk⟩ => by rw [← hk]; exact (HI.out.nA ad e).1))
      have hoL5 : HO w5 45 2 LA k lc (cellsOf l) := inferInstance
      have hr5 : HR w5 (gt q 0).A (bs (gt q 0).d) := ⟨HG.out.1.later n5⟩
      obtain ⟨gid, hgid⟩ : ∃ x, (gt q 0).id = x := ⟨_, rfl⟩
      obtain ⟨gA, hgA⟩ : ∃ x, (gt q 0).A = x := ⟨_, rfl⟩
      obtain ⟨gn, hgn⟩ : ∃ x, (gt q 0).n = x := ⟨_, rfl⟩
      obtain ⟨gc, hgc⟩ : ∃ x, (gt q 0).c = x := ⟨_, rfl⟩
      obtain ⟨gd', hgd⟩ : ∃ x, (gt q 0).d = x := ⟨_, rfl⟩
      rw [hgid, hgA, hgn, hgc]
      rw [hgA, hgd] at hr5
      have hgl : gd'.length = gn := by rw [← hgd, ← hgn]; exact HG.out.2.1
      have hg1 : gn ≤ 1000 := by rw [← hgn]; exact HG.out.2.2
      have HGF := Lib.hid (show (gt q 0).fr = (gid, gd') by rw [← hgid, ← hgd]; rfl)
      clear hgid hgA hgn hgc hgd
      go_wp2_with fail
      refine (copied_calls gid (A := gA) (c := gc) hgl (by omega)).mono ?_
      rintro e w6 ⟨A', c', rfl, _, hoA, hNA⟩
      have hN6 : NewA w5 A' := hNA
      have hoL6 : HO w6 45 2 LA k lc (cellsOf l) := inferInstance
      have st6 : Step nowhere w w6 := ⟨n5.trans (inferInstance : Step nowhere w5 w6).chg (fun _ _ hk => hk)⟩
      go_wp2_with (first | ((with_reducible apply (stop_dst (dst := some 18))); (try simp only [Act.put, List.setIfInBounds_toArray, List.set_cons_succ, List.set_cons_zero]); ((with_reducible apply (wpl_bslice (dst := some 18))); (exact run_frames1 _ _ _ _ _); intro zb wb _ _ _)) | ((with_reducible apply (wpl_appendF ⟨gid, A', gn, c', gd'⟩)); (exact rfl); (exact rfl); (exact inferInstance); (exact inferInstance); (exact inferInstance); omega; (decide); intro LB lb wa _ hoB gB hcB) | ((with_reducible apply (wpl_alloc (dst := some 4))); intro zp wzp _ _ _) | ((with_reducible apply wpl_alloc); intro z wz _ _ _) | ((with_reducible apply wpl_loadrow); (exact rfl); (exact inferInstance); (exact inferInstance); (first | (with_reducible assumption) | (with_reducible exact H32.size _) | (with_reducible exact enc_sz _ rfl) | kernel_rfl)) | ((with_reducible apply wpl_loadcellN); (exact rfl); (exact inferInstance); (first | (exact rfl) | (exact tg_hw _) | (exact tg_ctr _) | (exact tg_ecu _) | (exact srch_who) | (exact srch_fd))) | ((with_reducible apply wpl_storerow); (exact rfl); (exact rfl); (exact inferInstance); (exact inferInstance); (first | (with_reducible assumption) | (with_reducible exact H32.size _) | (with_reducible exact enc_sz _ rfl) | kernel_rfl); (first | (with_reducible assumption) | (with_reducible exact H32.size _) | (with_reducible exact enc_sz _ rfl) | kernel_rfl); (first | (with_reducible exact u8s_one _) | (with_reducible assumption) | (with_reducible exact enc_one _) | kernel_rfl); intro ws _ _) | ((with_reducible apply wpl_storecell); (exact rfl); (exact rfl); (exact inferInstance); (exact rfl); (first | (with_reducible assumption) | omega | (focus (simp; done)) | (focus (simp; omega; done)) | decide); intro ws _ _))
      have hC5 : Chg (rowOf LA) w5 ws := (stepC (w0 := w5)).chg
      have hsz6 : w5.heap.size ≤ w6.heap.size := (inferInstance : SzLe w5 w6).out
      have hszp : w6.heap.size ≤ zp := by
        have h1 := (inferInstance : Born wa zp).eq
        have h2 := (inferInstance : SzLe w6 wa).out
        omega
      have hgB := gB.le_ (w0 := w6)
      have hbp : HB ws zp 84 (#[.slice none 0 0].setIfInBounds 0 (.slice A m' c)) := inferInstance
      have hop : HO ws 91 3 A m' c (cellsOf ((popL bm0 ahB q m').take m')) := inferInstance
      have hLp : HO ws 45 2 LB (k + 1) lb (cellsOf (l ++ [⟨gid, A', gn, c', gd'⟩])) := inferInstance
      have hAp : HO ws 5 1 A' gn c' (bs gd') := inferInstance
      have hLa : HO wa 45 2 LB (k + 1) lb (cellsOf (l ++ [⟨gid, A', gn, c', gd'⟩])) := hoB
      have hzp : wa.heap.size = zp := (inferInstance : Born wa zp).eq.symm
      have n5s := n5.size
      have I := HI.out
      have stw : Step nowhere w ws := ⟨n5.step hC5 (fun x ⟨ad, e, hk⟩ => by rw [← hk]; exact (I.nL ad e).1)⟩
      obtain ⟨fr3, hfr3, hW3⟩ := HW.out.pop I.ql
      have hI2 : LsInv w ws cm fr zp ((popL bm0 ahB q m').take m') A c m' LB lb (k + 1) (l ++ [⟨gid, A', gn, c', gd'⟩]) := by
        refine ⟨by rw [List.length_take, popL_len, I.ql]; omega, by rw [List.length_append, I.ll]; rfl, hbp.out, hop.out, hLp.out, fun f hf => ?_, by omega, fun ad e => ⟨(I.nA ad e).1, by have := ho5.out.lt e; omega⟩, fun ad e => ?_, fun f hf ad e => ?_, fun x hx => I.mq x ((popL_perm bm0 ahB q m' I.ql).mem_iff.1 (List.mem_cons_of_mem _ hx)), fr3, hW3, ?_⟩
        · rcases List.mem_append.1 hf with hf | hf
          · refine ⟨((I.fn f hf).1.chg hs5.chg (fun ad e hk => ?_)).chg hC5 (fun ad e ⟨bd, e2, hk⟩ => (I.nF f hf ad e).2.2 bd e2 hk.symm), (I.fn f hf).2⟩
            rcases hk with hk | ⟨bd, e2, hk⟩
            · exact (I.nF f hf ad e).1 hk
            · exact (I.nF f hf ad e).2.1 bd e2 hk.symm
          · obtain rfl := List.mem_singleton.1 hf
            exact ⟨hAp.out, fun ad e => by have := hN6.out ad e; omega⟩
        · have hlt := hLa.out.lt e
          rcases hgB ad e with h | h
          · have := I.nL ad (h ▸ e)
            exact ⟨this.1, by omega, this.2.2⟩
          · refine ⟨by omega, by omega, fun bd e2 => ?_⟩
            have := ho5.out.lt e2
            omega
        · rcases List.mem_append.1 hf with hf | hf
          · have hlt : ad.block < w5.heap.size := Nat.lt_of_lt_of_le ((I.fn f hf).1.lt e) hs5.chg.size
            refine ⟨by omega, (I.nF f hf ad e).2.1, fun bd e2 => ?_⟩
            rcases hgB bd e2 with h | h
            · exact (I.nF f hf ad e).2.2 bd (h ▸ e2)
            · omega
          · obtain rfl := List.mem_singleton.1 hf
            have hge := hN6.out ad e
            have hlt := hoA.out.lt e
            refine ⟨by omega, fun bd e2 => by have := ho5.out.lt e2; omega, fun bd e2 => ?_⟩
            rcases hgB bd e2 with h | h
            · have := hoL5.out.lt (h ▸ e2)
              omega
            · omega
        · rw [HFR.out, hfr3, List.map_append, List.append_assoc]
          have h9 : (gd bm0 q 0).fr = (gid, gd') := HGF.out
          rw [h9]
          rfl
      have HI2 := Lib.hid hI2
      clear hI2 I hfr3 hW3 hzp
      simp only [Act.put, List.setIfInBounds_toArray, List.set_cons_succ, List.set_cons_zero]
      go_wp2_with fail
      refine ⟨⟨zp, _, A, c, m', LB, lb, k + 1, _, rfl, rfl, stw, HI2⟩, by simp [lenV]; omega⟩
end Go.Proofs.Ythoipeamdolfgaa
