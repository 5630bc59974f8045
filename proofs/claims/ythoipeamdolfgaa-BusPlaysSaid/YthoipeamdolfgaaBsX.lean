/- BusPlays. -/
import Derived.Test.YthoipeamdolfgaaBsW
open Go Go.RowKit
namespace Go.Proofs.Ythoipeamdolfgaa
open Hp
def since (w : World) : Nat → Prop := fun x => w.heap.size ≤ x
structure PlInv (w wr : World) (z zx : Nat) (S X : Nat → Prop) (cm : Nat) (fr : List Fr) (i : Nat) : Prop where
  bs : BS wr z S cm fr
  xx : XB wr zx X fr
  ls : ∀ x, S x → w.heap.size ≤ x
  lx : ∀ x, X x → w.heap.size ≤ x
  dis : ∀ x, S x → ¬ X x
  len : fr.length ≤ 64
  sm : ∀ x ∈ fr, x.2.length ≤ 8
  cm_ : cm ≤ i
theorem sendS_keep {fr : List Fr} {x : Fr} (hl : fr.length ≤ 64) (hs : ∀ y ∈ fr, y.2.length ≤ 8) : (sendS fr x).2.length ≤ 64 ∧ ∀ y ∈ (sendS fr x).2, y.2.length ≤ 8 := by
  unfold sendS
  split
  · exact ⟨hl, hs⟩
  · rename_i h1
    split
    · exact ⟨hl, hs⟩
    · rename_i h2
      refine ⟨by show (insF fr x).length ≤ 64; rw [insF_len]; omega, fun y hy => ?_⟩
      have hy2 : y ∈ insF fr x := hy
      have hp : (insF fr x).Perm (x :: fr) := by
        clear h1 h2 hy hy2 hl hs
        induction fr with
        | nil => exact .refl _
        | cons u l ih =>
          unfold insF
          split
          · exact (List.Perm.cons u ih).trans (List.Perm.swap x u l)
          · exact .refl _
      rcases List.mem_cons.1 (hp.mem_iff.1 hy2) with rfl | hy3
      · omega
      · exact hs y hy3
theorem sendC_le (fr : List Fr) (x : Fr) (cm : Nat) : sendC fr x cm ≤ cm + 1 := by
  unfold sendC
  split <;> omega
theorem Wt.risS {w : World} {z : Nat} {S : Nat → Prop} {cm : Nat} {fr : List Fr} (h : BS w z S cm fr) : RisF fr := by
  obtain ⟨q, A, c, _, _, _, _, hq⟩ := h.mem
  exact hq.ris
set_option maxRecDepth 100000 in
set_option maxHeartbeats 1600000 in
theorem busPlays_calls {A : Option Addr} {n c : Nat} (l : List AB) {w : World} [h : HR w A (cellsOf l)] (hl : l.length = n) (hmax : n ≤ 9223372036854775807) (hok : ∀ a ∈ l, ABOk w a) :
    Calls Try.prog 5 #[.slice A n c] w fun e w' => e = .returned (.bool true) ∧ Chg nowhere w w' := by
  have HLL := Lib.hid hl
  go_enter Try.func5, Try.ntmps5
  go_wp2_with fail
  refine (long_calls (A := A) (c := c) l hl hmax).mono ?_
  rintro e w0 ⟨⟨b, rfl⟩, hs0⟩
  clear hl
  cases b with
  | true =>
    go_wp2_with fail
    go_ret
    exact ⟨rfl, hs0.chg⟩
  | false =>
    go_wp2_with fail
    refine (newB_calls w0).mono ?_
    rintro e w1 ⟨z, rfl, hs1, hB1, hz⟩
    go_wp2_with (first | go_skip | ((with_reducible apply wpl_build); (exact run_newR _)) | ((with_reducible apply (wpl_alloc (dst := some 14))); intro zx wzx _ _ _) | ((with_reducible apply (wpl_box_agg (dst := some 14))); (exact rfl); intro zx wzx _ _ _) | ((with_reducible apply (wpl_box_int (dst := some 14))); (exact rfl); intro zx wzx _ _ _) | ((with_reducible apply (wpl_box_slice (dst := some 14))); (exact rfl); intro zx wzx _ _ _) | ((with_reducible apply (wpl_box_str (dst := some 14))); (exact rfl); intro zx wzx _ _ _) | ((with_reducible apply (wpl_box_bool (dst := some 14))); (exact rfl); intro zx wzx _ _ _) | ((with_reducible apply (wpl_box_ptr (dst := some 14))); (exact rfl); intro zx wzx _ _ _) | ((with_reducible apply wpl_alloc); intro z wz _ _ _) | ((with_reducible apply wpl_box_agg); (exact rfl); intro z wz _ _ _) | ((with_reducible apply wpl_box_int); (exact rfl); intro z wz _ _ _) | ((with_reducible apply wpl_box_slice); (exact rfl); intro z wz _ _ _) | ((with_reducible apply wpl_box_str); (exact rfl); intro z wz _ _ _) | ((with_reducible apply wpl_box_bool); (exact rfl); intro z wz _ _ _) | ((with_reducible apply wpl_box_ptr); (exact rfl); intro z wz _ _ _) | ((with_reducible apply (wpl_guard (op := .load _ _))); (exact rfl)) | ((with_reducible apply (wpl_guard (op := .fieldAddr _ _ _))); (exact rfl)) | ((with_reducible apply (wpl_guard (op := .convert _ _ _))); (exact rfl)) | ((with_reducible apply wpl_loadrow); (exact rfl); (exact inferInstance); (exact inferInstance); (first | (with_reducible assumption) | (with_reducible exact H32.size _) | (with_reducible exact enc_sz _ rfl) | kernel_rfl)) | ((with_reducible apply wpl_loadcellN); (exact rfl); (exact inferInstance); (first | (exact rfl) | (exact tg_hw _) | (exact tg_ctr _) | (exact tg_ecu _) | (exact srch_who) | (exact srch_fd))) | ((with_reducible apply wpl_storerow); (exact rfl); (exact rfl); (exact inferInstance); (exact inferInstance); (first | (with_reducible assumption) | (with_reducible exact H32.size _) | (with_reducible exact enc_sz _ rfl) | kernel_rfl); (first | (with_reducible assumption) | (with_reducible exact H32.size _) | (with_reducible exact enc_sz _ rfl) | kernel_rfl); (first | (with_reducible exact u8s_one _) | (with_reducible assumption) | (with_reducible exact enc_one _) | kernel_rfl); intro ws _ _) | ((with_reducible apply wpl_storecell); (exact rfl); (exact rfl); (exact inferInstance); (exact rfl); (first | (with_reducible assumption) | omega | (focus (simp; done)) | (focus (simp; omega; done)) | decide); intro ws _ _))
    have hX0 : XB wzx zx (only zx) [] := XB.new inferInstance
    have hB0 : BS wzx z (only z) 0 [] := hB1.calm (stepN (w0 := w1) (w := wzx)).chg (fun _ _ hk => hk)
    have hzx : zx = w1.heap.size := (inferInstance : Born w1 zx).eq
    have hzl := hB1.low z rfl
    have hw0 := hs0.chg.size
    have HI := Lib.hid (show PlInv w wzx z zx (only z) (only zx) 0 [] 0 from ⟨hB0, hX0, fun x hx => by rw [show x = z from hx]; omega, fun x hx => by rw [show x = zx from hx]; omega, fun x hx hk => by
      have h1 : x = z := hx
      have h2 : x = zx := hk
      omega, Nat.zero_le _, (fun x hx => by cases hx), Nat.le_refl _⟩)
    have st0 : Step nowhere w wzx := ⟨(hs0.chg.trans hs1.chg (fun _ _ h => h)).trans (stepN (w0 := w1) (w := wzx)).chg (fun _ _ h => h)⟩
    clear hX0 hB0 hzx hzl hw0 hB1 hz
    go_loopw [5] (fun iv wr => ∃ (i cm : Nat) (S X : Nat → Prop) (fr : List Fr), i ≤ n ∧ i ≤ 150 ∧ iv = .int .i64 (i : Int) ∧ Step nowhere w wr ∧ Hid (PlInv w wr z zx S X cm fr i)) (fun iv _ => n - (intOf iv).toNat)
    case atStart => exact ⟨0, 0, _, _, _, Nat.zero_le _, Nat.zero_le _, rfl, st0, HI⟩
    case round =>
      clear HI st0
      obtain ⟨i, cm, S, X, fr, hi, hi2, rfl, _, HI⟩ := hrel
      have stw : Step nowhere w wr := inferInstance
      by_cases hend : i < n ∧ i < 150
      · obtain ⟨hlt, hlt2⟩ := hend
        have hltI : (i : Int) < n := by omega
        have hltI2 : (i : Int) < 150 := by omega
        have hil : i < l.length := by have := HLL.out; omega
        have hln : l.length = n := HLL.out
        by_cases hk1 : (gt l i).kind = 1
        · have b1 : ((gt l i).kind == 1) = true := beqT hk1
          clear hk1
          have hab := hok _ (gt_mem l i hil)
          have hrd : HR wr (gt l i).A (bs (gt l i).d) := ⟨hab.1.later stw.chg⟩
          have hapT : ∀ T : Nat → Prop, (∀ x, T x → w.heap.size ≤ x) → OffR T (gt l i).A (bs (gt l i).d) := fun T hT => ⟨fun hne ad e hk => by
            have h1 := rd_lt hab.1 hne e
            have h2 := hT _ hk
            omega⟩
          have hzx := HI.out.lx zx HI.out.xx.inz
          have oS := hapT S HI.out.ls
          have oT := hapT (since w) (fun _ h => h)
          have oR : OffR (since w) A (cellsOf l) := ⟨fun hne ad e hk => by
            have h1 := rd_lt h.out hne e
            have h2 : w.heap.size ≤ ad.block := hk
            omega⟩
          have sb1 : ∀ wd : World, Sub wd S (since w) := fun _ => ⟨fun k _ hk => HI.out.ls k hk⟩
          have sb2 : ∀ wd : World, Sub wd (only zx) (since w) := fun _ => ⟨fun k _ hk => by rw [show k = zx from hk]; exact hzx⟩
          have hdl : (gt l i).d.length = (gt l i).n := hab.2.1
          have HDL := Lib.hid hdl
          have hdm : (gt l i).n ≤ 9223372036854775807 := by have := hab.2.2.2; unfold maxLen at this; omega
          have hkeep := sendS_keep (x := ((gt l i).id, (gt l i).d)) HI.out.len HI.out.sm
          have hcle := sendC_le fr ((gt l i).id, (gt l i).d) cm
          obtain ⟨fr6, hfr6⟩ : ∃ x, (sendS fr ((gt l i).id, (gt l i).d)).2 = x := ⟨_, rfl⟩
          obtain ⟨er6, her6⟩ : ∃ x, (sendS fr ((gt l i).id, (gt l i).d)).1 = x := ⟨_, rfl⟩
          obtain ⟨cm6, hcm6⟩ : ∃ x, sendC fr ((gt l i).id, (gt l i).d) cm = x := ⟨_, rfl⟩
          rw [hfr6] at hkeep
          rw [hcm6] at hcle
          have HKP := Lib.hid hkeep
          have T0 := fun wd (hb : BS wd z S cm fr) (hr : HR wd (gt l i).A (bs (gt l i).d)) => send_calls (gt l i).id (A := (gt l i).A) (n := (gt l i).n) (c := (gt l i).c) (d := (gt l i).d) hb (by have := HI.out.cm_; omega) HDL.out (by have := HI.out.len; omega) hdm
          have T1 := fun wd (hx : XB wd zx X fr) (hr : HR wd (gt l i).A (bs (gt l i).d)) => rsend_calls (gt l i).id (A := (gt l i).A) (n := (gt l i).n) (c := (gt l i).c) (d := (gt l i).d) hx HDL.out (Wt.risS HI.out.bs) (by have := HI.out.len; omega) hdm
          rw [hfr6, her6, hcm6] at T0
          rw [hfr6, her6] at T1
          have HT0 := Lib.hid T0
          have HT1 := Lib.hid T1
          clear T0 T1 hfr6 her6 hcm6 hkeep hdl hab hapT hzx
          go_wp2_with (first | go_skip | ((with_reducible apply wpl_alloc); intro z wz _ _ _) | ((with_reducible apply wpl_box_agg); (exact rfl); intro z wz _ _ _) | ((with_reducible apply wpl_box_int); (exact rfl); intro z wz _ _ _) | ((with_reducible apply wpl_box_slice); (exact rfl); intro z wz _ _ _) | ((with_reducible apply wpl_box_str); (exact rfl); intro z wz _ _ _) | ((with_reducible apply wpl_box_bool); (exact rfl); intro z wz _ _ _) | ((with_reducible apply wpl_box_ptr); (exact rfl); intro z wz _ _ _) | ((with_reducible apply (wpl_guard (op := .load _ _))); (exact rfl)) | ((with_reducible apply (wpl_guard (op := .fieldAddr _ _ _))); (exact rfl)) | ((with_reducible apply (wpl_guard (op := .convert _ _ _))); (exact rfl)) | ((with_reducible apply wpl_loadrow); (exact rfl); (exact inferInstance); (exact inferInstance); (first | (with_reducible assumption) | (with_reducible exact H32.size _) | (with_reducible exact enc_sz _ rfl) | kernel_rfl)) | ((with_reducible apply wpl_loadcellN); (exact rfl); (exact inferInstance); (first | (exact rfl) | (exact tg_hw _) | (exact tg_ctr _) | (exact tg_ecu _) | (exact srch_who) | (exact srch_fd))) | ((with_reducible apply wpl_storerow); (exact rfl); (exact rfl); (exact inferInstance); (exact inferInstance); (first | (with_reducible assumption) | (with_reducible exact H32.size _) | (with_reducible exact enc_sz _ rfl) | kernel_rfl); (first | (with_reducible assumption) | (with_reducible exact H32.size _) | (with_reducible exact enc_sz _ rfl) | kernel_rfl); (first | (with_reducible exact u8s_one _) | (with_reducible assumption) | (with_reducible exact enc_one _) | kernel_rfl); intro ws _ _) | ((with_reducible apply wpl_storecell); (exact rfl); (exact rfl); (exact inferInstance); (exact rfl); (first | (with_reducible assumption) | omega | (focus (simp; done)) | (focus (simp; omega; done)) | decide); intro ws _ _) | ((with_reducible apply wpl_indexH); (exact rfl); (exact rfl); (exact inferInstance); (exact inferInstance); (first | (with_reducible assumption) | omega); (first | (with_reducible assumption) | omega); (first | (with_reducible assumption) | omega)) | ((with_reducible apply wpl_indexH'); (exact rfl); (exact rfl); (exact inferInstance); (exact inferInstance); (first | (with_reducible assumption) | omega); (first | (with_reducible assumption) | omega); (first | (with_reducible assumption) | omega)) | ((with_reducible apply (wpl_loadhash (t := 64))); (exact rfl); (exact inferInstance); (exact inferInstance); (first | (with_reducible assumption) | omega)) | ((with_reducible apply (wpl_storehash (t := 64))); (exact rfl); (exact rfl); (exact inferInstance); (exact inferInstance); (first | (with_reducible assumption) | omega | (focus (simp; done)) | (focus (simp; omega; done)) | decide); intro ws _ _) | ((with_reducible apply (wpl_loadbyteH (t := 5))); (exact rfl); (exact inferInstance); (first | (with_reducible assumption) | omega); (first | (with_reducible assumption) | omega)) | ((with_reducible apply (wpl_storebyteH (t := 5))); (exact rfl); (exact rfl); (exact inferInstance); (first | (with_reducible assumption) | omega); (first | (with_reducible assumption) | omega); (first | (constructor <;> omega) | exact xor_u8_in _ _); intro ws _ _) | ((with_reducible apply (wpl_indexE (α := AB) (t := 36))); (exact rfl); (exact rfl); (exact inferInstance); (exact inferInstance); (first | (with_reducible assumption) | omega | (focus (simp; done)) | (focus (simp; omega; done)) | decide); (exact rfl); (decide); (first | (with_reducible assumption) | omega | (focus (simp; done)) | (focus (simp; omega; done)) | decide)) | ((with_reducible apply (wpl_indexE0 (α := AB) (t := 36))); (exact rfl); (exact inferInstance); (exact inferInstance); (first | (with_reducible assumption) | omega | (focus (simp; done)) | (focus (simp; omega; done)) | decide); (exact rfl); (decide); (first | (with_reducible assumption) | omega | (focus (simp; done)) | (focus (simp; omega; done)) | decide)) | ((with_reducible apply (wpl_loadE (α := AB) (t := 47))); (exact inferInstance); (exact rfl); (exact inferInstance); (exact rfl); (decide); (first | (with_reducible assumption) | omega | (focus (simp; done)) | (focus (simp; omega; done)) | decide)) | ((with_reducible apply (wpl_fieldE (t := 47))); (exact Try.underlying47); (exact rfl); (kernel_rfl); (exact rfl); (exact inferInstance); (exact cells_pos (by decide) (by omega))) | ((with_reducible apply (wpl_loadF (α := AB))); (exact inferInstance); (exact rfl); (exact inferInstance); (exact rfl); (first | (with_reducible assumption) | omega | (focus (simp; done)) | (focus (simp; omega; done)) | decide); (first | (exact rfl) | (exact tg_hw _) | (exact tg_ctr _) | (exact tg_ecu _) | (exact srch_who) | (exact srch_fd))) | ((with_reducible apply wpl_conv); (exact rfl); (exact inferInstance); (first | (with_reducible assumption) | (focus (simp; done)) | omega); (exact Try.underlying31); (exact Try.underlying5); (exact Try.underlying9)) | ((with_reducible apply (wpl_loadint (t := 3))); (exact rfl); (exact inferInstance); (exact inferInstance); (first | (with_reducible assumption) | omega)) | ((with_reducible apply (wpl_loadbyte (t := 5))); (exact rfl); (exact inferInstance); (exact inferInstance); (first | (with_reducible assumption) | omega)) | ((with_reducible apply (wpl_storeint (t := 3))); (exact rfl); (exact rfl); (exact inferInstance); (first | (with_reducible assumption) | omega); intro ws _ _) | ((with_reducible apply (wpl_storebyte (t := 5))); (exact rfl); (exact rfl); (exact inferInstance); (first | (with_reducible assumption) | omega | (focus (simp; done)) | (focus (simp; omega; done)) | decide); (constructor <;> omega); intro ws _ _))
          refine wp_region_N ((since w)) (by kernel_rfl) (fun wd _ _ => ?_)
          refine' takeH (i := 0) (v := _) rfl (by kernel_rfl) (by kernel_rfl) (by kernel_rfl) (fun _ _ _ h => h) (yields_of (by rfl) (fun w' _ => ?_)) inferInstance ?_
          rotate_left
          · (go_simp; try with_reducible rfl)
          try simp only [Act.put, List.setIfInBounds_toArray]; try simp only [List.set_cons_succ, List.set_cons_zero]
          refine' takeH (i := 1) (v := _) rfl (by kernel_rfl) (by kernel_rfl) (by kernel_rfl) (fun _ _ _ h => h) (yields_of (by rfl) (fun w' _ => ?_)) inferInstance ?_
          rotate_left
          · (go_simp; try with_reducible rfl)
          try simp only [Act.put, List.setIfInBounds_toArray]; try simp only [List.set_cons_succ, List.set_cons_zero]
          refine' takeH (i := 2) (v := _) rfl (by kernel_rfl) (by kernel_rfl) (by kernel_rfl) (fun _ _ _ h => h) (yields_of (by rfl) (fun w' _ => ?_)) inferInstance ?_
          rotate_left
          · (go_simp; try with_reducible rfl)
          try simp only [Act.put, List.setIfInBounds_toArray]; try simp only [List.set_cons_succ, List.set_cons_zero]
          refine' takeH (i := 3) (v := _) rfl (by kernel_rfl) (by kernel_rfl) (by kernel_rfl) (fun _ _ _ h => h) (yields_of (by rfl) (fun w' _ => ?_)) inferInstance ?_
          rotate_left
          · (first | ((with_reducible apply ev_indexSN); (exact rfl); (exact rfl); (exact inferInstance); (first | (with_reducible assumption) | omega)) | ((with_reducible apply ev_indexS); (exact rfl); (exact rfl); (exact inferInstance); (first | (with_reducible assumption) | omega); (first | (with_reducible assumption) | omega)) | ((with_reducible apply ev_indexArr); (exact rfl); (exact rfl); (exact Try.underlying64); (kernel_rfl); (first | (with_reducible assumption) | omega); (first | (with_reducible assumption) | omega)) | ((with_reducible apply ev_indexH'); (exact rfl); (exact rfl); (exact inferInstance); (exact inferInstance); (first | (with_reducible assumption) | omega); (first | (with_reducible assumption) | omega); (first | (with_reducible assumption) | omega)) | ((with_reducible apply ev_indexH); (exact rfl); (exact rfl); (exact inferInstance); (exact inferInstance); (first | (with_reducible assumption) | omega); (first | (with_reducible assumption) | omega)) | ((with_reducible apply (ev_indexE (α := AB) (t := 36))); (exact rfl); (exact rfl); (exact inferInstance); (exact inferInstance); (first | (with_reducible assumption) | omega | (focus (simp; done)) | (focus (simp; omega; done)) | decide); (exact rfl); (decide); (first | (with_reducible assumption) | omega | (focus (simp; done)) | (focus (simp; omega; done)) | decide)) | ((with_reducible apply (ev_indexE0 (α := AB) (t := 36))); (exact rfl); (exact inferInstance); (exact inferInstance); (first | (with_reducible assumption) | omega | (focus (simp; done)) | (focus (simp; omega; done)) | decide); (exact rfl); (decide); (first | (with_reducible assumption) | omega | (focus (simp; done)) | (focus (simp; omega; done)) | decide)) | (go_simp; try with_reducible rfl))
          try simp only [Act.put, List.setIfInBounds_toArray]; try simp only [List.set_cons_succ, List.set_cons_zero]
          refine' takeH (i := 4) (v := _) rfl (by kernel_rfl) (by kernel_rfl) (by kernel_rfl) (fun _ _ _ h => h) (yields_of (by rfl) (fun w' _ => ?_)) inferInstance ?_
          rotate_left
          · (first | ((with_reducible apply (ev_fieldE (t := 47))); (exact Try.underlying47); (exact rfl); (kernel_rfl); (exact rfl); (exact inferInstance); (exact cells_pos (by decide) (by omega))) | (go_simp; try with_reducible rfl))
          try simp only [Act.put, List.setIfInBounds_toArray]; try simp only [List.set_cons_succ, List.set_cons_zero]
          refine' takeH (i := 5) (v := _) rfl (by kernel_rfl) (by kernel_rfl) (by kernel_rfl) (fun _ _ _ h => h) (yields_of (by rfl) (fun w' _ => ?_)) inferInstance ?_
          rotate_left
          · (first | ((with_reducible apply ev_loadABF); (exact rfl); (exact inferInstance); (exact hil)) | ((with_reducible apply ev_loadrow); (exact rfl); (exact inferInstance); (exact inferInstance); (first | (with_reducible assumption) | (with_reducible exact H32.size _) | (with_reducible exact enc_sz _ rfl) | kernel_rfl)) | ((with_reducible apply (ev_loadhash (t := 64))); (exact rfl); (exact inferInstance); (exact inferInstance); (first | (with_reducible assumption) | omega)) | ((with_reducible apply ev_loadcellN); (exact rfl); (exact inferInstance); (exact inferInstance); (first | (exact rfl) | (exact tg_hw _) | (exact tg_ctr _) | (exact tg_ecu _) | (exact srch_who) | (exact srch_fd))) | ((with_reducible apply (ev_loadE (α := AB) (t := 47))); (exact inferInstance); (exact rfl); (exact inferInstance); (exact rfl); (decide); (first | (with_reducible assumption) | omega | (focus (simp; done)) | (focus (simp; omega; done)) | decide)) | ((with_reducible apply (ev_loadF (α := AB))); (exact inferInstance); (exact rfl); (exact inferInstance); (exact rfl); (first | (with_reducible assumption) | omega | (focus (simp; done)) | (focus (simp; omega; done)) | decide); (first | (exact rfl) | (exact tg_hw _) | (exact tg_ctr _) | (exact tg_ecu _) | (exact srch_who) | (exact srch_fd))) | ((with_reducible apply (ev_loadint (t := 3))); (exact rfl); (exact inferInstance); (exact inferInstance); (first | (with_reducible assumption) | omega)) | ((with_reducible apply (ev_loadbyte (t := 5))); (exact rfl); (exact inferInstance); (exact inferInstance); (first | (with_reducible assumption) | omega)) | (go_simp; try with_reducible rfl))
          try simp only [Act.put, List.setIfInBounds_toArray]; try simp only [List.set_cons_succ, List.set_cons_zero]
          refine' takeH (i := 7) (v := _) rfl (by kernel_rfl) (by kernel_rfl) (by kernel_rfl) (fun _ _ _ h => h) (yields_of (by rfl) (fun w' _ => ?_)) inferInstance ?_
          rotate_left
          · (go_simp; try with_reducible rfl)
          try simp only [Act.put, List.setIfInBounds_toArray]; try simp only [List.set_cons_succ, List.set_cons_zero]
          refine' takeH (i := 8) (v := _) rfl (by kernel_rfl) (by kernel_rfl) (by kernel_rfl) (fun _ _ _ h => h) (yields_of (by rfl) (fun w' _ => ?_)) inferInstance ?_
          rotate_left
          · (go_simp; try with_reducible rfl)
          try simp only [Act.put, List.setIfInBounds_toArray]; try simp only [List.set_cons_succ, List.set_cons_zero]
          refine' takeH (i := 9) (v := _) rfl (by kernel_rfl) (by kernel_rfl) (by kernel_rfl) (fun _ _ _ h => h) (yields_of (by rfl) (fun w' _ => ?_)) inferInstance ?_
          rotate_left
          · (go_simp; try with_reducible rfl)
          try simp only [Act.put, List.setIfInBounds_toArray]; try simp only [List.set_cons_succ, List.set_cons_zero]
          refine' takeH (i := 10) (v := _) rfl (by kernel_rfl) (by kernel_rfl) (by kernel_rfl) (fun _ _ _ h => h) (yields_of (by rfl) (fun w' _ => ?_)) inferInstance ?_
          rotate_left
          · (first | ((with_reducible apply ev_indexSN); (exact rfl); (exact rfl); (exact inferInstance); (first | (with_reducible assumption) | omega)) | ((with_reducible apply ev_indexS); (exact rfl); (exact rfl); (exact inferInstance); (first | (with_reducible assumption) | omega); (first | (with_reducible assumption) | omega)) | ((with_reducible apply ev_indexArr); (exact rfl); (exact rfl); (exact Try.underlying64); (kernel_rfl); (first | (with_reducible assumption) | omega); (first | (with_reducible assumption) | omega)) | ((with_reducible apply ev_indexH'); (exact rfl); (exact rfl); (exact inferInstance); (exact inferInstance); (first | (with_reducible assumption) | omega); (first | (with_reducible assumption) | omega); (first | (with_reducible assumption) | omega)) | ((with_reducible apply ev_indexH); (exact rfl); (exact rfl); (exact inferInstance); (exact inferInstance); (first | (with_reducible assumption) | omega); (first | (with_reducible assumption) | omega)) | ((with_reducible apply (ev_indexE (α := AB) (t := 36))); (exact rfl); (exact rfl); (exact inferInstance); (exact inferInstance); (first | (with_reducible assumption) | omega | (focus (simp; done)) | (focus (simp; omega; done)) | decide); (exact rfl); (decide); (first | (with_reducible assumption) | omega | (focus (simp; done)) | (focus (simp; omega; done)) | decide)) | ((with_reducible apply (ev_indexE0 (α := AB) (t := 36))); (exact rfl); (exact inferInstance); (exact inferInstance); (first | (with_reducible assumption) | omega | (focus (simp; done)) | (focus (simp; omega; done)) | decide); (exact rfl); (decide); (first | (with_reducible assumption) | omega | (focus (simp; done)) | (focus (simp; omega; done)) | decide)) | (go_simp; try with_reducible rfl))
          try simp only [Act.put, List.setIfInBounds_toArray]; try simp only [List.set_cons_succ, List.set_cons_zero]
          refine' takeH (i := 11) (v := _) rfl (by kernel_rfl) (by kernel_rfl) (by kernel_rfl) (fun _ _ _ h => h) (yields_of (by rfl) (fun w' _ => ?_)) inferInstance ?_
          rotate_left
          · (first | ((with_reducible apply (ev_fieldE (t := 47))); (exact Try.underlying47); (exact rfl); (kernel_rfl); (exact rfl); (exact inferInstance); (exact cells_pos (by decide) (by omega))) | (go_simp; try with_reducible rfl))
          try simp only [Act.put, List.setIfInBounds_toArray]; try simp only [List.set_cons_succ, List.set_cons_zero]
          refine' takeH (i := 12) (v := _) rfl (by kernel_rfl) (by kernel_rfl) (by kernel_rfl) (fun _ _ _ h => h) (yields_of (by rfl) (fun w' _ => ?_)) inferInstance ?_
          rotate_left
          · (first | ((with_reducible apply ev_loadABF); (exact rfl); (exact inferInstance); (exact hil)) | ((with_reducible apply ev_loadrow); (exact rfl); (exact inferInstance); (exact inferInstance); (first | (with_reducible assumption) | (with_reducible exact H32.size _) | (with_reducible exact enc_sz _ rfl) | kernel_rfl)) | ((with_reducible apply (ev_loadhash (t := 64))); (exact rfl); (exact inferInstance); (exact inferInstance); (first | (with_reducible assumption) | omega)) | ((with_reducible apply ev_loadcellN); (exact rfl); (exact inferInstance); (exact inferInstance); (first | (exact rfl) | (exact tg_hw _) | (exact tg_ctr _) | (exact tg_ecu _) | (exact srch_who) | (exact srch_fd))) | ((with_reducible apply (ev_loadE (α := AB) (t := 47))); (exact inferInstance); (exact rfl); (exact inferInstance); (exact rfl); (decide); (first | (with_reducible assumption) | omega | (focus (simp; done)) | (focus (simp; omega; done)) | decide)) | ((with_reducible apply (ev_loadF (α := AB))); (exact inferInstance); (exact rfl); (exact inferInstance); (exact rfl); (first | (with_reducible assumption) | omega | (focus (simp; done)) | (focus (simp; omega; done)) | decide); (first | (exact rfl) | (exact tg_hw _) | (exact tg_ctr _) | (exact tg_ecu _) | (exact srch_who) | (exact srch_fd))) | ((with_reducible apply (ev_loadint (t := 3))); (exact rfl); (exact inferInstance); (exact inferInstance); (first | (with_reducible assumption) | omega)) | ((with_reducible apply (ev_loadbyte (t := 5))); (exact rfl); (exact inferInstance); (exact inferInstance); (first | (with_reducible assumption) | omega)) | (go_simp; try with_reducible rfl))
          try simp only [Act.put, List.setIfInBounds_toArray]; try simp only [List.set_cons_succ, List.set_cons_zero]
          refine goH (i := 6) (by kernel_rfl) rfl (fun K_ hK_ => ?_)
          go_simp
          refine (HT0.out wd (HI.out.bs.calm (stepN (w0 := wr) (w := wd)).chg (fun _ _ hk => hk)) inferInstance).mono ?_
          rintro e w5 ⟨rfl, S5, hB5, hC5, hS5⟩
          have st5 : Step S wd w5 := ⟨hC5⟩
          refine hK_.out _ _ inferInstance (fun _ => ?_)
          clear hK_ K_
          try simp only [Act.put, List.setIfInBounds_toArray]; try simp only [List.set_cons_succ, List.set_cons_zero]
          refine goH (i := 13) (by kernel_rfl) rfl (fun K_ hK_ => ?_)
          go_simp
          refine (HT1.out w5 ((HI.out.xx.calm (stepN (w0 := wr) (w := wd)).chg (fun _ _ hk => hk)).calm hC5 (fun x hx hk => HI.out.dis x hk hx)) inferInstance).mono ?_
          rintro e w6 ⟨rfl, X6, hX6, hC6, hX6'⟩
          have st6 : Step (only zx) w5 w6 := ⟨hC6⟩
          refine hK_.out _ _ inferInstance (fun _ => ?_)
          clear hK_ K_
          try simp only [Act.put, List.setIfInBounds_toArray]; try simp only [List.set_cons_succ, List.set_cons_zero]
          refine' takeH (i := 14) (v := _) rfl (by kernel_rfl) (by kernel_rfl) (by kernel_rfl) (fun _ _ _ h => h) (yields_of (by rfl) (fun w' _ => ?_)) inferInstance ?_
          rotate_left
          · (go_simp; try with_reducible rfl)
          try simp only [Act.put, List.setIfInBounds_toArray]; try simp only [List.set_cons_succ, List.set_cons_zero]
          refine wpAnyH_done (by kernel_rfl) ?_ _
          have hwd := (stepN (w0 := wr) (w := wd)).chg
          have hXl := HI.out.xx.low
          have hdis5 : ∀ x, S5 x → ¬ X x := fun x hx hk => (hS5 x hx).elim (fun h => HI.out.dis x h hk) (fun h => by have := hXl x hk; have := hwd.size; omega)
          have hBf : BS w6 z S5 cm6 fr6 := hB5.calm hC6 (fun x hx hk => hdis5 x hx (by rw [show x = zx from hk]; exact HI.out.xx.inz))
          have hXf := hX6
          have hlsf : ∀ x, S5 x → w.heap.size ≤ x := fun x hx => (hS5 x hx).elim (HI.out.ls x) (fun h => Nat.le_trans stw.chg.size (Nat.le_trans hwd.size h))
          have hlxf : ∀ x, X6 x → w.heap.size ≤ x := fun x hx => (hX6' x hx).elim (HI.out.lx x) (fun h => Nat.le_trans stw.chg.size (Nat.le_trans hwd.size (Nat.le_trans hC5.size h)))
          have hdisf : ∀ x, S5 x → ¬ X6 x := fun x hx hk => (hX6' x hk).elim (hdis5 x hx) (fun h => by have := hB5.low x hx; omega)
          have hlenf := HKP.out.1
          have hsmf := HKP.out.2
          have n6 : Chg nowhere w w6 := ((stw.chg.trans hwd (fun _ _ h => h)).step hC5 HI.out.ls).step hC6 (fun x hx => by rw [show x = zx from hx]; exact HI.out.lx zx HI.out.xx.inz)
          have st6w : Step nowhere w w6 := ⟨n6⟩
          clear hwd hXl hdis5 hB5 hX6 hS5 hX6' oT oR oS sb1 sb2 hrd
          have HP := Lib.hid (show ∀ w', Chg nowhere w6 w' → PlInv w w' z zx S5 X6 cm6 fr6 (i + 1) from fun w' hc => ⟨hBf.calm hc (fun _ _ hk => hk), hXf.calm hc (fun _ _ hk => hk), hlsf, hlxf, hdisf, hlenf, hsmf, by have := HI.out.cm_; omega⟩)
          obtain ⟨xl, xA, xc, hbx, hrx, _, _, hfx, hmx⟩ := hXf.mem
          obtain ⟨K, hK⟩ : ∃ K, fr6.length = K := ⟨_, rfl⟩
          rw [hK] at hbx
          have hBx : HB w6 zx 43 #[.slice xA K xc] := ⟨hbx⟩
          have hRx : HR w6 xA (cellsOf xl) := ⟨hrx⟩
          have hFx : HFs w6 xl := ⟨fun f hf => ⟨(hfx f hf).1, (hfx f hf).2.1, (hfx f hf).2.2.1⟩⟩
          have HK := Lib.hid hK
          have HMX := Lib.hid hmx
          have hl9 : fr6.length ≤ 1000 := by omega
          have HD := Lib.hid (show ∀ x ∈ fr6, x.2.length ≤ 1000 from fun x hx => Nat.le_trans (hsmf x hx) (by decide))
          have HB9 := Lib.hid hBf
          clear hK hmx hfx hsmf hlsf hlxf hdisf hlenf hBf hXf
          go_wp2_with fail
          refine wp_region_N (nowhere) (by kernel_rfl) (fun wd _ _ => ?_)
          refine' takeH (i := 0) (v := _) rfl (by kernel_rfl) (by kernel_rfl) (by kernel_rfl) (fun _ _ _ h => h) (yields_of (by rfl) (fun w' _ => ?_)) inferInstance ?_
          rotate_left
          · (go_simp; try with_reducible rfl)
          try simp only [Act.put, List.setIfInBounds_toArray]; try simp only [List.set_cons_succ, List.set_cons_zero]
          refine' takeH (i := 2) (v := _) rfl (by kernel_rfl) (by kernel_rfl) (by kernel_rfl) (fun _ _ _ h => h) (yields_of (by rfl) (fun w' _ => ?_)) inferInstance ?_
          rotate_left
          · (go_simp; try with_reducible rfl)
          try simp only [Act.put, List.setIfInBounds_toArray]; try simp only [List.set_cons_succ, List.set_cons_zero]
          refine' takeH (i := 3) (v := _) rfl (by kernel_rfl) (by kernel_rfl) (by kernel_rfl) (fun _ _ _ h => h) (yields_of (by rfl) (fun w' _ => ?_)) inferInstance ?_
          rotate_left
          · (go_simp; try with_reducible rfl)
          try simp only [Act.put, List.setIfInBounds_toArray]; try simp only [List.set_cons_succ, List.set_cons_zero]
          refine' takeH (i := 4) (v := _) rfl (by kernel_rfl) (by kernel_rfl) (by kernel_rfl) (fun _ _ _ h => h) (yields_of (by rfl) (fun w' _ => ?_)) inferInstance ?_
          rotate_left
          · (first | ((with_reducible apply (ev_fieldE (t := 47))); (exact Try.underlying47); (exact rfl); (kernel_rfl); (exact rfl); (exact inferInstance); (exact cells_pos (by decide) (by omega))) | (go_simp; try with_reducible rfl))
          try simp only [Act.put, List.setIfInBounds_toArray]; try simp only [List.set_cons_succ, List.set_cons_zero]
          refine' takeH (i := 5) (v := _) rfl (by kernel_rfl) (by kernel_rfl) (by kernel_rfl) (fun _ _ _ h => h) (yields_of (by rfl) (fun w' _ => ?_)) inferInstance ?_
          rotate_left
          · (first | ((with_reducible apply ev_loadABF); (exact rfl); (exact inferInstance); (exact hil)) | ((with_reducible apply ev_loadrow); (exact rfl); (exact inferInstance); (exact inferInstance); (first | (with_reducible assumption) | (with_reducible exact H32.size _) | (with_reducible exact enc_sz _ rfl) | kernel_rfl)) | ((with_reducible apply (ev_loadhash (t := 64))); (exact rfl); (exact inferInstance); (exact inferInstance); (first | (with_reducible assumption) | omega)) | ((with_reducible apply ev_loadcellN); (exact rfl); (exact inferInstance); (exact inferInstance); (first | (exact rfl) | (exact tg_hw _) | (exact tg_ctr _) | (exact tg_ecu _) | (exact srch_who) | (exact srch_fd))) | ((with_reducible apply (ev_loadE (α := AB) (t := 47))); (exact inferInstance); (exact rfl); (exact inferInstance); (exact rfl); (decide); (first | (with_reducible assumption) | omega | (focus (simp; done)) | (focus (simp; omega; done)) | decide)) | ((with_reducible apply (ev_loadF (α := AB))); (exact inferInstance); (exact rfl); (exact inferInstance); (exact rfl); (first | (with_reducible assumption) | omega | (focus (simp; done)) | (focus (simp; omega; done)) | decide); (first | (exact rfl) | (exact tg_hw _) | (exact tg_ctr _) | (exact tg_ecu _) | (exact srch_who) | (exact srch_fd))) | ((with_reducible apply (ev_loadint (t := 3))); (exact rfl); (exact inferInstance); (exact inferInstance); (first | (with_reducible assumption) | omega)) | ((with_reducible apply (ev_loadbyte (t := 5))); (exact rfl); (exact inferInstance); (exact inferInstance); (first | (with_reducible assumption) | omega)) | (go_simp; try with_reducible rfl))
          try simp only [Act.put, List.setIfInBounds_toArray]; try simp only [List.set_cons_succ, List.set_cons_zero]
          refine' takeH (i := 6) (v := _) rfl (by kernel_rfl) (by kernel_rfl) (by kernel_rfl) (fun _ _ _ h => h) (yields_of (by rfl) (fun w' _ => ?_)) inferInstance ?_
          rotate_left
          · (go_simp; try with_reducible rfl)
          try simp only [Act.put, List.setIfInBounds_toArray]; try simp only [List.set_cons_succ, List.set_cons_zero]
          refine goH (i := 1) (by kernel_rfl) rfl (fun K_ hK_ => ?_)
          go_simp
          refine (lenB_calls (HB9.out.calm (stepN (w0 := w6) (w := wd)).chg (fun _ _ hk => hk))).mono ?_
          rintro e w7 ⟨rfl, rfl⟩
          rw [HK.out]
          refine hK_.out _ _ inferInstance (fun _ => ?_)
          clear hK_ K_
          try simp only [Act.put, List.setIfInBounds_toArray]; try simp only [List.set_cons_succ, List.set_cons_zero]
          refine' takeH (i := 7) (v := _) rfl (by kernel_rfl) (by kernel_rfl) (by kernel_rfl) (fun _ _ _ h => h) (yields_of (by rfl) (fun w' _ => ?_)) inferInstance ?_
          rotate_left
          · (go_simp; try with_reducible rfl)
          try simp only [Act.put, List.setIfInBounds_toArray]; try simp only [List.set_cons_succ, List.set_cons_zero]
          refine' takeH (i := 8) (v := _) rfl (by kernel_rfl) (by kernel_rfl) (by kernel_rfl) (fun _ _ _ h => h) (yields_of (by rfl) (fun w' _ => ?_)) inferInstance ?_
          rotate_left
          · (go_simp; try with_reducible rfl)
          try simp only [Act.put, List.setIfInBounds_toArray]; try simp only [List.set_cons_succ, List.set_cons_zero]
          refine' takeH (i := 9) (v := _) rfl (by kernel_rfl) (by kernel_rfl) (by kernel_rfl) (fun _ _ _ h => h) (yields_of (by rfl) (fun w' _ => ?_)) inferInstance ?_
          rotate_left
          · (go_simp; try with_reducible rfl)
          try simp only [Act.put, List.setIfInBounds_toArray]; try simp only [List.set_cons_succ, List.set_cons_zero]
          refine' takeH (i := 11) (v := _) rfl (by kernel_rfl) (by kernel_rfl) (by kernel_rfl) (fun _ _ _ h => h) (yields_of (by rfl) (fun w' _ => ?_)) inferInstance ?_
          rotate_left
          · (go_simp; try with_reducible rfl)
          try simp only [Act.put, List.setIfInBounds_toArray]; try simp only [List.set_cons_succ, List.set_cons_zero]
          refine' takeH (i := 12) (v := _) rfl (by kernel_rfl) (by kernel_rfl) (by kernel_rfl) (fun _ _ _ h => h) (yields_of (by rfl) (fun w' _ => ?_)) inferInstance ?_
          rotate_left
          · (go_simp; try with_reducible rfl)
          try simp only [Act.put, List.setIfInBounds_toArray]; try simp only [List.set_cons_succ, List.set_cons_zero]
          refine' takeH (i := 13) (v := _) rfl (by kernel_rfl) (by kernel_rfl) (by kernel_rfl) (fun _ _ _ h => h) (yields_of (by rfl) (fun w' _ => ?_)) inferInstance ?_
          rotate_left
          · (first | ((with_reducible apply (ev_fieldE (t := 47))); (exact Try.underlying47); (exact rfl); (kernel_rfl); (exact rfl); (exact inferInstance); (exact cells_pos (by decide) (by omega))) | (go_simp; try with_reducible rfl))
          try simp only [Act.put, List.setIfInBounds_toArray]; try simp only [List.set_cons_succ, List.set_cons_zero]
          refine' takeH (i := 14) (v := _) rfl (by kernel_rfl) (by kernel_rfl) (by kernel_rfl) (fun _ _ _ h => h) (yields_of (by rfl) (fun w' _ => ?_)) inferInstance ?_
          rotate_left
          · (first | ((with_reducible apply ev_loadABF); (exact rfl); (exact inferInstance); (exact hil)) | ((with_reducible apply ev_loadrow); (exact rfl); (exact inferInstance); (exact inferInstance); (first | (with_reducible assumption) | (with_reducible exact H32.size _) | (with_reducible exact enc_sz _ rfl) | kernel_rfl)) | ((with_reducible apply (ev_loadhash (t := 64))); (exact rfl); (exact inferInstance); (exact inferInstance); (first | (with_reducible assumption) | omega)) | ((with_reducible apply ev_loadcellN); (exact rfl); (exact inferInstance); (exact inferInstance); (first | (exact rfl) | (exact tg_hw _) | (exact tg_ctr _) | (exact tg_ecu _) | (exact srch_who) | (exact srch_fd))) | ((with_reducible apply (ev_loadE (α := AB) (t := 47))); (exact inferInstance); (exact rfl); (exact inferInstance); (exact rfl); (decide); (first | (with_reducible assumption) | omega | (focus (simp; done)) | (focus (simp; omega; done)) | decide)) | ((with_reducible apply (ev_loadF (α := AB))); (exact inferInstance); (exact rfl); (exact inferInstance); (exact rfl); (first | (with_reducible assumption) | omega | (focus (simp; done)) | (focus (simp; omega; done)) | decide); (first | (exact rfl) | (exact tg_hw _) | (exact tg_ctr _) | (exact tg_ecu _) | (exact srch_who) | (exact srch_fd))) | ((with_reducible apply (ev_loadint (t := 3))); (exact rfl); (exact inferInstance); (exact inferInstance); (first | (with_reducible assumption) | omega)) | ((with_reducible apply (ev_loadbyte (t := 5))); (exact rfl); (exact inferInstance); (exact inferInstance); (first | (with_reducible assumption) | omega)) | (go_simp; try with_reducible rfl))
          try simp only [Act.put, List.setIfInBounds_toArray]; try simp only [List.set_cons_succ, List.set_cons_zero]
          refine goH (i := 10) (by kernel_rfl) rfl (fun K_ hK_ => ?_)
          go_simp
          refine (list_calls (HB9.out.calm (stepN (w0 := w6) (w := wd)).chg (fun _ _ hk => hk)) hl9 HD.out).mono ?_
          rintro e w8 ⟨LA, lc, ll, rfl, _, hOL, hFL, hml⟩
          have hRL : HR w8 LA (cellsOf ll) := ⟨hOL.rd⟩
          have hFs : HFs w8 ll := ⟨hFL.ok⟩
          have hKL : ll.length = K := by
            have h1 := congrArg List.length hml
            rw [List.length_map] at h1
            exact h1.trans HK.out
          have HML := Lib.hid (hml.trans HMX.out.symm)
          have HKL := Lib.hid hKL
          rw [hKL]
          clear hml hKL
          refine hK_.out _ _ inferInstance (fun _ => ?_)
          clear hK_ K_
          try simp only [Act.put, List.setIfInBounds_toArray]; try simp only [List.set_cons_succ, List.set_cons_zero]
          refine goH (i := 15) (by kernel_rfl) rfl (fun K_ hK_ => ?_)
          go_simp
          refine (same_calls ll xl HKL.out HML.out (by have := HK.out; omega)).mono ?_
          rintro e w9 ⟨rfl, _⟩
          refine hK_.out _ _ inferInstance (fun _ => ?_)
          clear hK_ K_
          try simp only [Act.put, List.setIfInBounds_toArray]; try simp only [List.set_cons_succ, List.set_cons_zero]
          refine' takeH (i := 16) (v := _) rfl (by kernel_rfl) (by kernel_rfl) (by kernel_rfl) (fun _ _ _ h => h) (yields_of (by rfl) (fun w' _ => ?_)) inferInstance ?_
          rotate_left
          · (go_simp; try with_reducible rfl)
          try simp only [Act.put, List.setIfInBounds_toArray]; try simp only [List.set_cons_succ, List.set_cons_zero]
          refine' takeH (i := 17) (v := _) rfl (by kernel_rfl) (by kernel_rfl) (by kernel_rfl) (fun _ _ _ h => h) (yields_of (by rfl) (fun w' _ => ?_)) inferInstance ?_
          rotate_left
          · (go_simp; try with_reducible rfl)
          try simp only [Act.put, List.setIfInBounds_toArray]; try simp only [List.set_cons_succ, List.set_cons_zero]
          refine wpAnyH_done (by kernel_rfl) ?_ _
          have hc9 := (stepN (w0 := w6) (w := w9)).chg
          have st9 : Step nowhere w w9 := ⟨n6.trans hc9 (fun _ _ h => h)⟩
          have HI9 := Lib.hid (HP.out w9 hc9)
          clear hc9
          go_wp2_with fail
          exact ⟨⟨i + 1, cm6, S5, X6, fr6, by omega, by omega, rfl, st9, HI9⟩, by simp [intOf]; omega⟩
        · have b1 : ((gt l i).kind == 1) = false := beqF hk1
          clear hk1
          rcases fr with _ | ⟨x, fr'⟩
          · go_wp2_with (first | go_skip | ((with_reducible apply wpl_alloc); intro z wz _ _ _) | ((with_reducible apply wpl_box_agg); (exact rfl); intro z wz _ _ _) | ((with_reducible apply wpl_box_int); (exact rfl); intro z wz _ _ _) | ((with_reducible apply wpl_box_slice); (exact rfl); intro z wz _ _ _) | ((with_reducible apply wpl_box_str); (exact rfl); intro z wz _ _ _) | ((with_reducible apply wpl_box_bool); (exact rfl); intro z wz _ _ _) | ((with_reducible apply wpl_box_ptr); (exact rfl); intro z wz _ _ _) | ((with_reducible apply (wpl_guard (op := .load _ _))); (exact rfl)) | ((with_reducible apply (wpl_guard (op := .fieldAddr _ _ _))); (exact rfl)) | ((with_reducible apply (wpl_guard (op := .convert _ _ _))); (exact rfl)) | ((with_reducible apply wpl_loadrow); (exact rfl); (exact inferInstance); (exact inferInstance); (first | (with_reducible assumption) | (with_reducible exact H32.size _) | (with_reducible exact enc_sz _ rfl) | kernel_rfl)) | ((with_reducible apply wpl_loadcellN); (exact rfl); (exact inferInstance); (first | (exact rfl) | (exact tg_hw _) | (exact tg_ctr _) | (exact tg_ecu _) | (exact srch_who) | (exact srch_fd))) | ((with_reducible apply wpl_storerow); (exact rfl); (exact rfl); (exact inferInstance); (exact inferInstance); (first | (with_reducible assumption) | (with_reducible exact H32.size _) | (with_reducible exact enc_sz _ rfl) | kernel_rfl); (first | (with_reducible assumption) | (with_reducible exact H32.size _) | (with_reducible exact enc_sz _ rfl) | kernel_rfl); (first | (with_reducible exact u8s_one _) | (with_reducible assumption) | (with_reducible exact enc_one _) | kernel_rfl); intro ws _ _) | ((with_reducible apply wpl_storecell); (exact rfl); (exact rfl); (exact inferInstance); (exact rfl); (first | (with_reducible assumption) | omega | (focus (simp; done)) | (focus (simp; omega; done)) | decide); intro ws _ _) | ((with_reducible apply wpl_indexH); (exact rfl); (exact rfl); (exact inferInstance); (exact inferInstance); (first | (with_reducible assumption) | omega); (first | (with_reducible assumption) | omega); (first | (with_reducible assumption) | omega)) | ((with_reducible apply wpl_indexH'); (exact rfl); (exact rfl); (exact inferInstance); (exact inferInstance); (first | (with_reducible assumption) | omega); (first | (with_reducible assumption) | omega); (first | (with_reducible assumption) | omega)) | ((with_reducible apply (wpl_loadhash (t := 64))); (exact rfl); (exact inferInstance); (exact inferInstance); (first | (with_reducible assumption) | omega)) | ((with_reducible apply (wpl_storehash (t := 64))); (exact rfl); (exact rfl); (exact inferInstance); (exact inferInstance); (first | (with_reducible assumption) | omega | (focus (simp; done)) | (focus (simp; omega; done)) | decide); intro ws _ _) | ((with_reducible apply (wpl_loadbyteH (t := 5))); (exact rfl); (exact inferInstance); (first | (with_reducible assumption) | omega); (first | (with_reducible assumption) | omega)) | ((with_reducible apply (wpl_storebyteH (t := 5))); (exact rfl); (exact rfl); (exact inferInstance); (first | (with_reducible assumption) | omega); (first | (with_reducible assumption) | omega); (first | (constructor <;> omega) | exact xor_u8_in _ _); intro ws _ _) | ((with_reducible apply (wpl_indexE (α := AB) (t := 36))); (exact rfl); (exact rfl); (exact inferInstance); (exact inferInstance); (first | (with_reducible assumption) | omega | (focus (simp; done)) | (focus (simp; omega; done)) | decide); (exact rfl); (decide); (first | (with_reducible assumption) | omega | (focus (simp; done)) | (focus (simp; omega; done)) | decide)) | ((with_reducible apply (wpl_indexE0 (α := AB) (t := 36))); (exact rfl); (exact inferInstance); (exact inferInstance); (first | (with_reducible assumption) | omega | (focus (simp; done)) | (focus (simp; omega; done)) | decide); (exact rfl); (decide); (first | (with_reducible assumption) | omega | (focus (simp; done)) | (focus (simp; omega; done)) | decide)) | ((with_reducible apply (wpl_loadE (α := AB) (t := 47))); (exact inferInstance); (exact rfl); (exact inferInstance); (exact rfl); (decide); (first | (with_reducible assumption) | omega | (focus (simp; done)) | (focus (simp; omega; done)) | decide)) | ((with_reducible apply (wpl_fieldE (t := 47))); (exact Try.underlying47); (exact rfl); (kernel_rfl); (exact rfl); (exact inferInstance); (exact cells_pos (by decide) (by omega))) | ((with_reducible apply (wpl_loadF (α := AB))); (exact inferInstance); (exact rfl); (exact inferInstance); (exact rfl); (first | (with_reducible assumption) | omega | (focus (simp; done)) | (focus (simp; omega; done)) | decide); (first | (exact rfl) | (exact tg_hw _) | (exact tg_ctr _) | (exact tg_ecu _) | (exact srch_who) | (exact srch_fd))) | ((with_reducible apply wpl_conv); (exact rfl); (exact inferInstance); (first | (with_reducible assumption) | (focus (simp; done)) | omega); (exact Try.underlying31); (exact Try.underlying5); (exact Try.underlying9)) | ((with_reducible apply (wpl_loadint (t := 3))); (exact rfl); (exact inferInstance); (exact inferInstance); (first | (with_reducible assumption) | omega)) | ((with_reducible apply (wpl_loadbyte (t := 5))); (exact rfl); (exact inferInstance); (exact inferInstance); (first | (with_reducible assumption) | omega)) | ((with_reducible apply (wpl_storeint (t := 3))); (exact rfl); (exact rfl); (exact inferInstance); (first | (with_reducible assumption) | omega); intro ws _ _) | ((with_reducible apply (wpl_storebyte (t := 5))); (exact rfl); (exact rfl); (exact inferInstance); (first | (with_reducible assumption) | omega | (focus (simp; done)) | (focus (simp; omega; done)) | decide); (constructor <;> omega); intro ws _ _))
            refine (nextNone_calls HI.out.bs).mono ?_
            rintro e w5 ⟨rfl, hs5, hB5⟩
            go_wp2_with (first | go_skip | ((with_reducible apply (wpl_alloc (dst := some 6))); intro zf wzf _ _ _) | ((with_reducible apply (wpl_box_agg (dst := some 6))); (exact rfl); intro zf wzf _ _ _) | ((with_reducible apply (wpl_box_int (dst := some 6))); (exact rfl); intro zf wzf _ _ _) | ((with_reducible apply (wpl_box_slice (dst := some 6))); (exact rfl); intro zf wzf _ _ _) | ((with_reducible apply (wpl_box_str (dst := some 6))); (exact rfl); intro zf wzf _ _ _) | ((with_reducible apply (wpl_box_bool (dst := some 6))); (exact rfl); intro zf wzf _ _ _) | ((with_reducible apply (wpl_box_ptr (dst := some 6))); (exact rfl); intro zf wzf _ _ _) | ((with_reducible apply wpl_alloc); intro z wz _ _ _) | ((with_reducible apply wpl_box_agg); (exact rfl); intro z wz _ _ _) | ((with_reducible apply wpl_box_int); (exact rfl); intro z wz _ _ _) | ((with_reducible apply wpl_box_slice); (exact rfl); intro z wz _ _ _) | ((with_reducible apply wpl_box_str); (exact rfl); intro z wz _ _ _) | ((with_reducible apply wpl_box_bool); (exact rfl); intro z wz _ _ _) | ((with_reducible apply wpl_box_ptr); (exact rfl); intro z wz _ _ _) | ((with_reducible apply (wpl_guard (op := .load _ _))); (exact rfl)) | ((with_reducible apply (wpl_guard (op := .fieldAddr _ _ _))); (exact rfl)) | ((with_reducible apply (wpl_guard (op := .convert _ _ _))); (exact rfl)) | ((with_reducible apply wpl_loadrow); (exact rfl); (exact inferInstance); (exact inferInstance); (first | (with_reducible assumption) | (with_reducible exact H32.size _) | (with_reducible exact enc_sz _ rfl) | kernel_rfl)) | ((with_reducible apply wpl_loadcellN); (exact rfl); (exact inferInstance); (first | (exact rfl) | (exact tg_hw _) | (exact tg_ctr _) | (exact tg_ecu _) | (exact srch_who) | (exact srch_fd))) | ((with_reducible apply wpl_storerow); (exact rfl); (exact rfl); (exact inferInstance); (exact inferInstance); (first | (with_reducible assumption) | (with_reducible exact H32.size _) | (with_reducible exact enc_sz _ rfl) | kernel_rfl); (first | (with_reducible assumption) | (with_reducible exact H32.size _) | (with_reducible exact enc_sz _ rfl) | kernel_rfl); (first | (with_reducible exact u8s_one _) | (with_reducible assumption) | (with_reducible exact enc_one _) | kernel_rfl); intro ws _ _) | ((with_reducible apply wpl_storecell); (exact rfl); (exact rfl); (exact inferInstance); (exact rfl); (first | (with_reducible assumption) | omega | (focus (simp; done)) | (focus (simp; omega; done)) | decide); intro ws _ _))
            have hc6 := (stepN (w0 := w5) (w := ws)).chg
            have n5 : Chg nowhere w ws := (stw.chg.trans hs5.chg (fun _ _ h => h)).trans hc6 (fun _ _ h => h)
            have hc56 : Chg nowhere wr ws := hs5.chg.trans hc6 (fun _ _ h => h)
            have stA : Step nowhere w ws := ⟨n5⟩
            have hXA : XB ws zx X [] := HI.out.xx.calm hc56 (fun _ _ hk => hk)
            have hBA : BS ws z S cm [] := hB5.calm hc6 (fun _ _ hk => hk)
            obtain ⟨wA, hwA⟩ : ∃ x, ws = x := ⟨_, rfl⟩
            have hzfA : HB ws zf 45 #[.int .i64 0, .slice none 0 0] := inferInstance
            rw [hwA] at stA hXA hBA n5 hzfA ⊢
            clear hc6 hc56 hwA hB5
            refine (rnextNone_calls hXA).mono ?_
            rintro e w6 ⟨rfl, _⟩
            go_wp2_with (first | go_skip | ((with_reducible apply (wpl_conv (xs := []))); (exact rfl); (exact HR.nilB _); (exact rfl); (exact Try.underlying31); (exact Try.underlying5); (exact Try.underlying9)) | ((with_reducible apply (wpl_alloc (dst := some 8))); intro zg wzg _ _ _) | ((with_reducible apply (wpl_box_agg (dst := some 8))); (exact rfl); intro zg wzg _ _ _) | ((with_reducible apply (wpl_box_int (dst := some 8))); (exact rfl); intro zg wzg _ _ _) | ((with_reducible apply (wpl_box_slice (dst := some 8))); (exact rfl); intro zg wzg _ _ _) | ((with_reducible apply (wpl_box_str (dst := some 8))); (exact rfl); intro zg wzg _ _ _) | ((with_reducible apply (wpl_box_bool (dst := some 8))); (exact rfl); intro zg wzg _ _ _) | ((with_reducible apply (wpl_box_ptr (dst := some 8))); (exact rfl); intro zg wzg _ _ _) | ((with_reducible apply wpl_alloc); intro z wz _ _ _) | ((with_reducible apply wpl_box_agg); (exact rfl); intro z wz _ _ _) | ((with_reducible apply wpl_box_int); (exact rfl); intro z wz _ _ _) | ((with_reducible apply wpl_box_slice); (exact rfl); intro z wz _ _ _) | ((with_reducible apply wpl_box_str); (exact rfl); intro z wz _ _ _) | ((with_reducible apply wpl_box_bool); (exact rfl); intro z wz _ _ _) | ((with_reducible apply wpl_box_ptr); (exact rfl); intro z wz _ _ _) | ((with_reducible apply (wpl_guard (op := .load _ _))); (exact rfl)) | ((with_reducible apply (wpl_guard (op := .fieldAddr _ _ _))); (exact rfl)) | ((with_reducible apply (wpl_guard (op := .convert _ _ _))); (exact rfl)) | ((with_reducible apply wpl_loadrow); (exact rfl); (exact inferInstance); (exact inferInstance); (first | (with_reducible assumption) | (with_reducible exact H32.size _) | (with_reducible exact enc_sz _ rfl) | kernel_rfl)) | ((with_reducible apply wpl_loadcellN); (exact rfl); (exact inferInstance); (first | (exact rfl) | (exact tg_hw _) | (exact tg_ctr _) | (exact tg_ecu _) | (exact srch_who) | (exact srch_fd))) | ((with_reducible apply wpl_storerow); (exact rfl); (exact rfl); (exact inferInstance); (exact inferInstance); (first | (with_reducible assumption) | (with_reducible exact H32.size _) | (with_reducible exact enc_sz _ rfl) | kernel_rfl); (first | (with_reducible assumption) | (with_reducible exact H32.size _) | (with_reducible exact enc_sz _ rfl) | kernel_rfl); (first | (with_reducible exact u8s_one _) | (with_reducible assumption) | (with_reducible exact enc_one _) | kernel_rfl); intro ws _ _) | ((with_reducible apply wpl_storecell); (exact rfl); (exact rfl); (exact inferInstance); (exact rfl); (first | (with_reducible assumption) | omega | (focus (simp; done)) | (focus (simp; omega; done)) | decide); intro ws _ _) | ((with_reducible apply wpl_indexH); (exact rfl); (exact rfl); (exact inferInstance); (exact inferInstance); (first | (with_reducible assumption) | omega); (first | (with_reducible assumption) | omega); (first | (with_reducible assumption) | omega)) | ((with_reducible apply wpl_indexH'); (exact rfl); (exact rfl); (exact inferInstance); (exact inferInstance); (first | (with_reducible assumption) | omega); (first | (with_reducible assumption) | omega); (first | (with_reducible assumption) | omega)) | ((with_reducible apply (wpl_loadhash (t := 64))); (exact rfl); (exact inferInstance); (exact inferInstance); (first | (with_reducible assumption) | omega)) | ((with_reducible apply (wpl_storehash (t := 64))); (exact rfl); (exact rfl); (exact inferInstance); (exact inferInstance); (first | (with_reducible assumption) | omega | (focus (simp; done)) | (focus (simp; omega; done)) | decide); intro ws _ _) | ((with_reducible apply (wpl_loadbyteH (t := 5))); (exact rfl); (exact inferInstance); (first | (with_reducible assumption) | omega); (first | (with_reducible assumption) | omega)) | ((with_reducible apply (wpl_storebyteH (t := 5))); (exact rfl); (exact rfl); (exact inferInstance); (first | (with_reducible assumption) | omega); (first | (with_reducible assumption) | omega); (first | (constructor <;> omega) | exact xor_u8_in _ _); intro ws _ _) | ((with_reducible apply (wpl_indexE (α := AB) (t := 36))); (exact rfl); (exact rfl); (exact inferInstance); (exact inferInstance); (first | (with_reducible assumption) | omega | (focus (simp; done)) | (focus (simp; omega; done)) | decide); (exact rfl); (decide); (first | (with_reducible assumption) | omega | (focus (simp; done)) | (focus (simp; omega; done)) | decide)) | ((with_reducible apply (wpl_indexE0 (α := AB) (t := 36))); (exact rfl); (exact inferInstance); (exact inferInstance); (first | (with_reducible assumption) | omega | (focus (simp; done)) | (focus (simp; omega; done)) | decide); (exact rfl); (decide); (first | (with_reducible assumption) | omega | (focus (simp; done)) | (focus (simp; omega; done)) | decide)) | ((with_reducible apply (wpl_loadE (α := AB) (t := 47))); (exact inferInstance); (exact rfl); (exact inferInstance); (exact rfl); (decide); (first | (with_reducible assumption) | omega | (focus (simp; done)) | (focus (simp; omega; done)) | decide)) | ((with_reducible apply (wpl_fieldE (t := 47))); (exact Try.underlying47); (exact rfl); (kernel_rfl); (exact rfl); (exact inferInstance); (exact cells_pos (by decide) (by omega))) | ((with_reducible apply (wpl_loadF (α := AB))); (exact inferInstance); (exact rfl); (exact inferInstance); (exact rfl); (first | (with_reducible assumption) | omega | (focus (simp; done)) | (focus (simp; omega; done)) | decide); (first | (exact rfl) | (exact tg_hw _) | (exact tg_ctr _) | (exact tg_ecu _) | (exact srch_who) | (exact srch_fd))) | ((with_reducible apply wpl_conv); (exact rfl); (exact inferInstance); (first | (with_reducible assumption) | (focus (simp; done)) | omega); (exact Try.underlying31); (exact Try.underlying5); (exact Try.underlying9)) | ((with_reducible apply (wpl_loadint (t := 3))); (exact rfl); (exact inferInstance); (exact inferInstance); (first | (with_reducible assumption) | omega)) | ((with_reducible apply (wpl_loadbyte (t := 5))); (exact rfl); (exact inferInstance); (exact inferInstance); (first | (with_reducible assumption) | omega)) | ((with_reducible apply (wpl_storeint (t := 3))); (exact rfl); (exact rfl); (exact inferInstance); (first | (with_reducible assumption) | omega); intro ws _ _) | ((with_reducible apply (wpl_storebyte (t := 5))); (exact rfl); (exact rfl); (exact inferInstance); (first | (with_reducible assumption) | omega | (focus (simp; done)) | (focus (simp; omega; done)) | decide); (constructor <;> omega); intro ws _ _))
            have hc7 := (stepN (w0 := wA) (w := ws)).chg
            have hBf : BS ws z S cm [] := hBA.calm hc7 (fun _ _ hk => hk)
            have hXf : XB ws zx X [] := hXA.calm hc7 (fun _ _ hk => hk)
            have n7 : Chg nowhere w ws := n5.trans hc7 (fun _ _ h => h)
            have st7 : Step nowhere w ws := ⟨n7⟩
            have hlsf := HI.out.ls
            have hlxf := HI.out.lx
            have hdisf := HI.out.dis
            have hlenf : ([] : List Fr).length ≤ 64 := Nat.zero_le _
            have hsmf := HI.out.sm
            have HP := Lib.hid (show ∀ w', Chg nowhere ws w' → PlInv w w' z zx S X cm ([] : List Fr) (i + 1) from fun w' hc => ⟨hBf.calm hc (fun _ _ hk => hk), hXf.calm hc (fun _ _ hk => hk), hlsf, hlxf, hdisf, hlenf, hsmf, by have := HI.out.cm_; omega⟩)
            obtain ⟨xl, xA, xc, hbx, hrx, _, _, hfx, hmx⟩ := hXf.mem
            obtain ⟨K, hK⟩ : ∃ K, ([] : List Fr).length = K := ⟨_, rfl⟩
            rw [hK] at hbx
            have hBx : HB ws zx 43 #[.slice xA K xc] := ⟨hbx⟩
            have hRx : HR ws xA (cellsOf xl) := ⟨hrx⟩
            have hFx : HFs ws xl := ⟨fun f hf => ⟨(hfx f hf).1, (hfx f hf).2.1, (hfx f hf).2.2.1⟩⟩
            have HK := Lib.hid hK
            have HMX := Lib.hid hmx
            have hl9 : ([] : List Fr).length ≤ 1000 := by omega
            have HD := Lib.hid (show ∀ x ∈ ([] : List Fr), x.2.length ≤ 1000 from fun x hx => Nat.le_trans (hsmf x hx) (by decide))
            have HB9 := Lib.hid hBf
            clear hK hmx hfx hsmf hlsf hlxf hdisf hlenf hBf hXf
            go_wp2_with fail
            refine wp_region_N (nowhere) (by kernel_rfl) (fun wd _ _ => ?_)
            refine' takeH (i := 0) (v := _) rfl (by kernel_rfl) (by kernel_rfl) (by kernel_rfl) (fun _ _ _ h => h) (yields_of (by rfl) (fun w' _ => ?_)) inferInstance ?_
            rotate_left
            · (go_simp; try with_reducible rfl)
            try simp only [Act.put, List.setIfInBounds_toArray]; try simp only [List.set_cons_succ, List.set_cons_zero]
            refine' takeH (i := 2) (v := _) rfl (by kernel_rfl) (by kernel_rfl) (by kernel_rfl) (fun _ _ _ h => h) (yields_of (by rfl) (fun w' _ => ?_)) inferInstance ?_
            rotate_left
            · (go_simp; try with_reducible rfl)
            try simp only [Act.put, List.setIfInBounds_toArray]; try simp only [List.set_cons_succ, List.set_cons_zero]
            refine' takeH (i := 3) (v := _) rfl (by kernel_rfl) (by kernel_rfl) (by kernel_rfl) (fun _ _ _ h => h) (yields_of (by rfl) (fun w' _ => ?_)) inferInstance ?_
            rotate_left
            · (go_simp; try with_reducible rfl)
            try simp only [Act.put, List.setIfInBounds_toArray]; try simp only [List.set_cons_succ, List.set_cons_zero]
            refine' takeH (i := 4) (v := _) rfl (by kernel_rfl) (by kernel_rfl) (by kernel_rfl) (fun _ _ _ h => h) (yields_of (by rfl) (fun w' _ => ?_)) inferInstance ?_
            rotate_left
            · (first | ((with_reducible apply (ev_fieldE (t := 47))); (exact Try.underlying47); (exact rfl); (kernel_rfl); (exact rfl); (exact inferInstance); (exact cells_pos (by decide) (by omega))) | (go_simp; try with_reducible rfl))
            try simp only [Act.put, List.setIfInBounds_toArray]; try simp only [List.set_cons_succ, List.set_cons_zero]
            refine' takeH (i := 5) (v := _) rfl (by kernel_rfl) (by kernel_rfl) (by kernel_rfl) (fun _ _ _ h => h) (yields_of (by rfl) (fun w' _ => ?_)) inferInstance ?_
            rotate_left
            · (first | ((with_reducible apply ev_loadABF); (exact rfl); (exact inferInstance); (exact hil)) | ((with_reducible apply ev_loadrow); (exact rfl); (exact inferInstance); (exact inferInstance); (first | (with_reducible assumption) | (with_reducible exact H32.size _) | (with_reducible exact enc_sz _ rfl) | kernel_rfl)) | ((with_reducible apply (ev_loadhash (t := 64))); (exact rfl); (exact inferInstance); (exact inferInstance); (first | (with_reducible assumption) | omega)) | ((with_reducible apply ev_loadcellN); (exact rfl); (exact inferInstance); (exact inferInstance); (first | (exact rfl) | (exact tg_hw _) | (exact tg_ctr _) | (exact tg_ecu _) | (exact srch_who) | (exact srch_fd))) | ((with_reducible apply (ev_loadE (α := AB) (t := 47))); (exact inferInstance); (exact rfl); (exact inferInstance); (exact rfl); (decide); (first | (with_reducible assumption) | omega | (focus (simp; done)) | (focus (simp; omega; done)) | decide)) | ((with_reducible apply (ev_loadF (α := AB))); (exact inferInstance); (exact rfl); (exact inferInstance); (exact rfl); (first | (with_reducible assumption) | omega | (focus (simp; done)) | (focus (simp; omega; done)) | decide); (first | (exact rfl) | (exact tg_hw _) | (exact tg_ctr _) | (exact tg_ecu _) | (exact srch_who) | (exact srch_fd))) | ((with_reducible apply (ev_loadint (t := 3))); (exact rfl); (exact inferInstance); (exact inferInstance); (first | (with_reducible assumption) | omega)) | ((with_reducible apply (ev_loadbyte (t := 5))); (exact rfl); (exact inferInstance); (exact inferInstance); (first | (with_reducible assumption) | omega)) | (go_simp; try with_reducible rfl))
            try simp only [Act.put, List.setIfInBounds_toArray]; try simp only [List.set_cons_succ, List.set_cons_zero]
            refine' takeH (i := 6) (v := _) rfl (by kernel_rfl) (by kernel_rfl) (by kernel_rfl) (fun _ _ _ h => h) (yields_of (by rfl) (fun w' _ => ?_)) inferInstance ?_
            rotate_left
            · (go_simp; try with_reducible rfl)
            try simp only [Act.put, List.setIfInBounds_toArray]; try simp only [List.set_cons_succ, List.set_cons_zero]
            refine goH (i := 1) (by kernel_rfl) rfl (fun K_ hK_ => ?_)
            go_simp
            refine (lenB_calls (HB9.out.calm (stepN (w0 := ws) (w := wd)).chg (fun _ _ hk => hk))).mono ?_
            rintro e w7 ⟨rfl, rfl⟩
            rw [HK.out]
            refine hK_.out _ _ inferInstance (fun _ => ?_)
            clear hK_ K_
            try simp only [Act.put, List.setIfInBounds_toArray]; try simp only [List.set_cons_succ, List.set_cons_zero]
            refine' takeH (i := 7) (v := _) rfl (by kernel_rfl) (by kernel_rfl) (by kernel_rfl) (fun _ _ _ h => h) (yields_of (by rfl) (fun w' _ => ?_)) inferInstance ?_
            rotate_left
            · (go_simp; try with_reducible rfl)
            try simp only [Act.put, List.setIfInBounds_toArray]; try simp only [List.set_cons_succ, List.set_cons_zero]
            refine' takeH (i := 8) (v := _) rfl (by kernel_rfl) (by kernel_rfl) (by kernel_rfl) (fun _ _ _ h => h) (yields_of (by rfl) (fun w' _ => ?_)) inferInstance ?_
            rotate_left
            · (go_simp; try with_reducible rfl)
            try simp only [Act.put, List.setIfInBounds_toArray]; try simp only [List.set_cons_succ, List.set_cons_zero]
            refine' takeH (i := 9) (v := _) rfl (by kernel_rfl) (by kernel_rfl) (by kernel_rfl) (fun _ _ _ h => h) (yields_of (by rfl) (fun w' _ => ?_)) inferInstance ?_
            rotate_left
            · (go_simp; try with_reducible rfl)
            try simp only [Act.put, List.setIfInBounds_toArray]; try simp only [List.set_cons_succ, List.set_cons_zero]
            refine' takeH (i := 11) (v := _) rfl (by kernel_rfl) (by kernel_rfl) (by kernel_rfl) (fun _ _ _ h => h) (yields_of (by rfl) (fun w' _ => ?_)) inferInstance ?_
            rotate_left
            · (go_simp; try with_reducible rfl)
            try simp only [Act.put, List.setIfInBounds_toArray]; try simp only [List.set_cons_succ, List.set_cons_zero]
            refine' takeH (i := 12) (v := _) rfl (by kernel_rfl) (by kernel_rfl) (by kernel_rfl) (fun _ _ _ h => h) (yields_of (by rfl) (fun w' _ => ?_)) inferInstance ?_
            rotate_left
            · (go_simp; try with_reducible rfl)
            try simp only [Act.put, List.setIfInBounds_toArray]; try simp only [List.set_cons_succ, List.set_cons_zero]
            refine' takeH (i := 13) (v := _) rfl (by kernel_rfl) (by kernel_rfl) (by kernel_rfl) (fun _ _ _ h => h) (yields_of (by rfl) (fun w' _ => ?_)) inferInstance ?_
            rotate_left
            · (first | ((with_reducible apply (ev_fieldE (t := 47))); (exact Try.underlying47); (exact rfl); (kernel_rfl); (exact rfl); (exact inferInstance); (exact cells_pos (by decide) (by omega))) | (go_simp; try with_reducible rfl))
            try simp only [Act.put, List.setIfInBounds_toArray]; try simp only [List.set_cons_succ, List.set_cons_zero]
            refine' takeH (i := 14) (v := _) rfl (by kernel_rfl) (by kernel_rfl) (by kernel_rfl) (fun _ _ _ h => h) (yields_of (by rfl) (fun w' _ => ?_)) inferInstance ?_
            rotate_left
            · (first | ((with_reducible apply ev_loadABF); (exact rfl); (exact inferInstance); (exact hil)) | ((with_reducible apply ev_loadrow); (exact rfl); (exact inferInstance); (exact inferInstance); (first | (with_reducible assumption) | (with_reducible exact H32.size _) | (with_reducible exact enc_sz _ rfl) | kernel_rfl)) | ((with_reducible apply (ev_loadhash (t := 64))); (exact rfl); (exact inferInstance); (exact inferInstance); (first | (with_reducible assumption) | omega)) | ((with_reducible apply ev_loadcellN); (exact rfl); (exact inferInstance); (exact inferInstance); (first | (exact rfl) | (exact tg_hw _) | (exact tg_ctr _) | (exact tg_ecu _) | (exact srch_who) | (exact srch_fd))) | ((with_reducible apply (ev_loadE (α := AB) (t := 47))); (exact inferInstance); (exact rfl); (exact inferInstance); (exact rfl); (decide); (first | (with_reducible assumption) | omega | (focus (simp; done)) | (focus (simp; omega; done)) | decide)) | ((with_reducible apply (ev_loadF (α := AB))); (exact inferInstance); (exact rfl); (exact inferInstance); (exact rfl); (first | (with_reducible assumption) | omega | (focus (simp; done)) | (focus (simp; omega; done)) | decide); (first | (exact rfl) | (exact tg_hw _) | (exact tg_ctr _) | (exact tg_ecu _) | (exact srch_who) | (exact srch_fd))) | ((with_reducible apply (ev_loadint (t := 3))); (exact rfl); (exact inferInstance); (exact inferInstance); (first | (with_reducible assumption) | omega)) | ((with_reducible apply (ev_loadbyte (t := 5))); (exact rfl); (exact inferInstance); (exact inferInstance); (first | (with_reducible assumption) | omega)) | (go_simp; try with_reducible rfl))
            try simp only [Act.put, List.setIfInBounds_toArray]; try simp only [List.set_cons_succ, List.set_cons_zero]
            refine goH (i := 10) (by kernel_rfl) rfl (fun K_ hK_ => ?_)
            go_simp
            refine (list_calls (HB9.out.calm (stepN (w0 := ws) (w := wd)).chg (fun _ _ hk => hk)) hl9 HD.out).mono ?_
            rintro e w8 ⟨LA, lc, ll, rfl, _, hOL, hFL, hml⟩
            have hRL : HR w8 LA (cellsOf ll) := ⟨hOL.rd⟩
            have hFs : HFs w8 ll := ⟨hFL.ok⟩
            have hKL : ll.length = K := by
              have h1 := congrArg List.length hml
              rw [List.length_map] at h1
              exact h1.trans HK.out
            have HML := Lib.hid (hml.trans HMX.out.symm)
            have HKL := Lib.hid hKL
            rw [hKL]
            clear hml hKL
            refine hK_.out _ _ inferInstance (fun _ => ?_)
            clear hK_ K_
            try simp only [Act.put, List.setIfInBounds_toArray]; try simp only [List.set_cons_succ, List.set_cons_zero]
            refine goH (i := 15) (by kernel_rfl) rfl (fun K_ hK_ => ?_)
            go_simp
            refine (same_calls ll xl HKL.out HML.out (by have := HK.out; omega)).mono ?_
            rintro e w9 ⟨rfl, _⟩
            refine hK_.out _ _ inferInstance (fun _ => ?_)
            clear hK_ K_
            try simp only [Act.put, List.setIfInBounds_toArray]; try simp only [List.set_cons_succ, List.set_cons_zero]
            refine' takeH (i := 16) (v := _) rfl (by kernel_rfl) (by kernel_rfl) (by kernel_rfl) (fun _ _ _ h => h) (yields_of (by rfl) (fun w' _ => ?_)) inferInstance ?_
            rotate_left
            · (go_simp; try with_reducible rfl)
            try simp only [Act.put, List.setIfInBounds_toArray]; try simp only [List.set_cons_succ, List.set_cons_zero]
            refine' takeH (i := 17) (v := _) rfl (by kernel_rfl) (by kernel_rfl) (by kernel_rfl) (fun _ _ _ h => h) (yields_of (by rfl) (fun w' _ => ?_)) inferInstance ?_
            rotate_left
            · (go_simp; try with_reducible rfl)
            try simp only [Act.put, List.setIfInBounds_toArray]; try simp only [List.set_cons_succ, List.set_cons_zero]
            refine wpAnyH_done (by kernel_rfl) ?_ _
            have hc9 := (stepN (w0 := ws) (w := w9)).chg
            have st9 : Step nowhere w w9 := ⟨n7.trans hc9 (fun _ _ h => h)⟩
            have HI9 := Lib.hid (HP.out w9 hc9)
            clear hc9
            go_wp2_with fail
            exact ⟨⟨i + 1, cm, S, X, ([] : List Fr), by omega, by omega, rfl, st9, HI9⟩, by simp [intOf]; omega⟩
          · have hlen5 : fr'.length ≤ 1000 := by
              have h1 : fr'.length + 1 ≤ 64 := HI.out.len
              omega
            go_wp2_with (first | go_skip | ((with_reducible apply wpl_alloc); intro z wz _ _ _) | ((with_reducible apply wpl_box_agg); (exact rfl); intro z wz _ _ _) | ((with_reducible apply wpl_box_int); (exact rfl); intro z wz _ _ _) | ((with_reducible apply wpl_box_slice); (exact rfl); intro z wz _ _ _) | ((with_reducible apply wpl_box_str); (exact rfl); intro z wz _ _ _) | ((with_reducible apply wpl_box_bool); (exact rfl); intro z wz _ _ _) | ((with_reducible apply wpl_box_ptr); (exact rfl); intro z wz _ _ _) | ((with_reducible apply (wpl_guard (op := .load _ _))); (exact rfl)) | ((with_reducible apply (wpl_guard (op := .fieldAddr _ _ _))); (exact rfl)) | ((with_reducible apply (wpl_guard (op := .convert _ _ _))); (exact rfl)) | ((with_reducible apply wpl_loadrow); (exact rfl); (exact inferInstance); (exact inferInstance); (first | (with_reducible assumption) | (with_reducible exact H32.size _) | (with_reducible exact enc_sz _ rfl) | kernel_rfl)) | ((with_reducible apply wpl_loadcellN); (exact rfl); (exact inferInstance); (first | (exact rfl) | (exact tg_hw _) | (exact tg_ctr _) | (exact tg_ecu _) | (exact srch_who) | (exact srch_fd))) | ((with_reducible apply wpl_storerow); (exact rfl); (exact rfl); (exact inferInstance); (exact inferInstance); (first | (with_reducible assumption) | (with_reducible exact H32.size _) | (with_reducible exact enc_sz _ rfl) | kernel_rfl); (first | (with_reducible assumption) | (with_reducible exact H32.size _) | (with_reducible exact enc_sz _ rfl) | kernel_rfl); (first | (with_reducible exact u8s_one _) | (with_reducible assumption) | (with_reducible exact enc_one _) | kernel_rfl); intro ws _ _) | ((with_reducible apply wpl_storecell); (exact rfl); (exact rfl); (exact inferInstance); (exact rfl); (first | (with_reducible assumption) | omega | (focus (simp; done)) | (focus (simp; omega; done)) | decide); intro ws _ _) | ((with_reducible apply wpl_indexH); (exact rfl); (exact rfl); (exact inferInstance); (exact inferInstance); (first | (with_reducible assumption) | omega); (first | (with_reducible assumption) | omega); (first | (with_reducible assumption) | omega)) | ((with_reducible apply wpl_indexH'); (exact rfl); (exact rfl); (exact inferInstance); (exact inferInstance); (first | (with_reducible assumption) | omega); (first | (with_reducible assumption) | omega); (first | (with_reducible assumption) | omega)) | ((with_reducible apply (wpl_loadhash (t := 64))); (exact rfl); (exact inferInstance); (exact inferInstance); (first | (with_reducible assumption) | omega)) | ((with_reducible apply (wpl_storehash (t := 64))); (exact rfl); (exact rfl); (exact inferInstance); (exact inferInstance); (first | (with_reducible assumption) | omega | (focus (simp; done)) | (focus (simp; omega; done)) | decide); intro ws _ _) | ((with_reducible apply (wpl_loadbyteH (t := 5))); (exact rfl); (exact inferInstance); (first | (with_reducible assumption) | omega); (first | (with_reducible assumption) | omega)) | ((with_reducible apply (wpl_storebyteH (t := 5))); (exact rfl); (exact rfl); (exact inferInstance); (first | (with_reducible assumption) | omega); (first | (with_reducible assumption) | omega); (first | (constructor <;> omega) | exact xor_u8_in _ _); intro ws _ _) | ((with_reducible apply (wpl_indexE (α := AB) (t := 36))); (exact rfl); (exact rfl); (exact inferInstance); (exact inferInstance); (first | (with_reducible assumption) | omega | (focus (simp; done)) | (focus (simp; omega; done)) | decide); (exact rfl); (decide); (first | (with_reducible assumption) | omega | (focus (simp; done)) | (focus (simp; omega; done)) | decide)) | ((with_reducible apply (wpl_indexE0 (α := AB) (t := 36))); (exact rfl); (exact inferInstance); (exact inferInstance); (first | (with_reducible assumption) | omega | (focus (simp; done)) | (focus (simp; omega; done)) | decide); (exact rfl); (decide); (first | (with_reducible assumption) | omega | (focus (simp; done)) | (focus (simp; omega; done)) | decide)) | ((with_reducible apply (wpl_loadE (α := AB) (t := 47))); (exact inferInstance); (exact rfl); (exact inferInstance); (exact rfl); (decide); (first | (with_reducible assumption) | omega | (focus (simp; done)) | (focus (simp; omega; done)) | decide)) | ((with_reducible apply (wpl_fieldE (t := 47))); (exact Try.underlying47); (exact rfl); (kernel_rfl); (exact rfl); (exact inferInstance); (exact cells_pos (by decide) (by omega))) | ((with_reducible apply (wpl_loadF (α := AB))); (exact inferInstance); (exact rfl); (exact inferInstance); (exact rfl); (first | (with_reducible assumption) | omega | (focus (simp; done)) | (focus (simp; omega; done)) | decide); (first | (exact rfl) | (exact tg_hw _) | (exact tg_ctr _) | (exact tg_ecu _) | (exact srch_who) | (exact srch_fd))) | ((with_reducible apply wpl_conv); (exact rfl); (exact inferInstance); (first | (with_reducible assumption) | (focus (simp; done)) | omega); (exact Try.underlying31); (exact Try.underlying5); (exact Try.underlying9)) | ((with_reducible apply (wpl_loadint (t := 3))); (exact rfl); (exact inferInstance); (exact inferInstance); (first | (with_reducible assumption) | omega)) | ((with_reducible apply (wpl_loadbyte (t := 5))); (exact rfl); (exact inferInstance); (exact inferInstance); (first | (with_reducible assumption) | omega)) | ((with_reducible apply (wpl_storeint (t := 3))); (exact rfl); (exact rfl); (exact inferInstance); (first | (with_reducible assumption) | omega); intro ws _ _) | ((with_reducible apply (wpl_storebyte (t := 5))); (exact rfl); (exact rfl); (exact inferInstance); (first | (with_reducible assumption) | omega | (focus (simp; done)) | (focus (simp; omega; done)) | decide); (constructor <;> omega); intro ws _ _))
            refine (next_calls HI.out.bs hlen5).mono ?_
            rintro e w5 ⟨A7, c7, rfl, ⟨S5, hB5, hC5, hS5⟩, hr7, hA7⟩
            have n5 : Chg nowhere w w5 := stw.chg.step hC5 HI.out.ls
            have st5 : Step nowhere w w5 := ⟨n5⟩
            have hR5 : HR w5 A7 (bs x.2) := ⟨hr7⟩
            have o7 : OffR (only zx) A7 (bs x.2) := ⟨fun hne ad e hk => HI.out.dis zx (by rw [← show ad.block = zx from hk]; exact hA7 ad e (by simpa [bs] using hne)) HI.out.xx.inz⟩
            have hX5 : XB w5 zx X (x :: fr') := HI.out.xx.calm hC5 (fun y hy hk => HI.out.dis y hk hy)
            have hXl := HI.out.xx.low
            have hdis5 : ∀ y, S5 y → ¬ X y := fun y hy hk => (hS5 y hy).elim (fun h => HI.out.dis y h hk) (fun h => by have := hXl y hk; omega)
            have HB5 := Lib.hid hB5
            have HS5 := Lib.hid hS5
            have HX5 := Lib.hid hX5
            have HDIS := Lib.hid hdis5
            clear hB5 hS5 hX5 hXl hdis5 hA7 hr7 hC5
            go_wp2_with (first | go_skip | ((with_reducible apply (wpl_alloc (dst := some 6))); intro zf wzf _ _ _) | ((with_reducible apply (wpl_box_agg (dst := some 6))); (exact rfl); intro zf wzf _ _ _) | ((with_reducible apply (wpl_box_int (dst := some 6))); (exact rfl); intro zf wzf _ _ _) | ((with_reducible apply (wpl_box_slice (dst := some 6))); (exact rfl); intro zf wzf _ _ _) | ((with_reducible apply (wpl_box_str (dst := some 6))); (exact rfl); intro zf wzf _ _ _) | ((with_reducible apply (wpl_box_bool (dst := some 6))); (exact rfl); intro zf wzf _ _ _) | ((with_reducible apply (wpl_box_ptr (dst := some 6))); (exact rfl); intro zf wzf _ _ _) | ((with_reducible apply wpl_alloc); intro z wz _ _ _) | ((with_reducible apply wpl_box_agg); (exact rfl); intro z wz _ _ _) | ((with_reducible apply wpl_box_int); (exact rfl); intro z wz _ _ _) | ((with_reducible apply wpl_box_slice); (exact rfl); intro z wz _ _ _) | ((with_reducible apply wpl_box_str); (exact rfl); intro z wz _ _ _) | ((with_reducible apply wpl_box_bool); (exact rfl); intro z wz _ _ _) | ((with_reducible apply wpl_box_ptr); (exact rfl); intro z wz _ _ _) | ((with_reducible apply (wpl_guard (op := .load _ _))); (exact rfl)) | ((with_reducible apply (wpl_guard (op := .fieldAddr _ _ _))); (exact rfl)) | ((with_reducible apply (wpl_guard (op := .convert _ _ _))); (exact rfl)) | ((with_reducible apply wpl_loadrow); (exact rfl); (exact inferInstance); (exact inferInstance); (first | (with_reducible assumption) | (with_reducible exact H32.size _) | (with_reducible exact enc_sz _ rfl) | kernel_rfl)) | ((with_reducible apply wpl_loadcellN); (exact rfl); (exact inferInstance); (first | (exact rfl) | (exact tg_hw _) | (exact tg_ctr _) | (exact tg_ecu _) | (exact srch_who) | (exact srch_fd))) | ((with_reducible apply wpl_storerow); (exact rfl); (exact rfl); (exact inferInstance); (exact inferInstance); (first | (with_reducible assumption) | (with_reducible exact H32.size _) | (with_reducible exact enc_sz _ rfl) | kernel_rfl); (first | (with_reducible assumption) | (with_reducible exact H32.size _) | (with_reducible exact enc_sz _ rfl) | kernel_rfl); (first | (with_reducible exact u8s_one _) | (with_reducible assumption) | (with_reducible exact enc_one _) | kernel_rfl); intro ws _ _) | ((with_reducible apply wpl_storecell); (exact rfl); (exact rfl); (exact inferInstance); (exact rfl); (first | (with_reducible assumption) | omega | (focus (simp; done)) | (focus (simp; omega; done)) | decide); intro ws _ _))
            have hc6 := (stepN (w0 := w5) (w := ws)).chg
            obtain ⟨wA, hwA⟩ : ∃ x, ws = x := ⟨_, rfl⟩
            have hBA : BS ws z S5 cm fr' := HB5.out.calm hc6 (fun _ _ hk => hk)
            have hXA : XB ws zx X (x :: fr') := HX5.out.calm hc6 (fun _ _ hk => hk)
            have hRA : HR ws A7 (bs x.2) := inferInstance
            have hzfA : HB ws zf 45 #[.int .i64 x.1, .slice A7 x.2.length c7] := inferInstance
            have nA : Chg nowhere w ws := n5.trans hc6 (fun _ _ h => h)
            have hsz5 : w5.heap.size ≤ ws.heap.size := hc6.size
            have ozf : OffB (only zx) zf := ⟨fun e => by
              have h1 := (inferInstance : Born w5 zf).eq
              have h2 : zf = zx := e
              have h3 := HX5.out.low zx HX5.out.inz
              omega⟩
            rw [hwA] at hBA hXA hRA hzfA nA hsz5 ⊢
            clear hc6 hwA
            refine (rnext_calls hXA hlen5).mono ?_
            rintro e w6 ⟨A8, c8, rfl, ⟨X6, hX6, hC6, hX6'⟩, hr8⟩
            have st6 : Step (only zx) wA w6 := ⟨hC6⟩
            have hR8 : HR w6 A8 (bs x.2) := ⟨hr8⟩
            have hR76 : HR w6 A7 (bs x.2) := inferInstance
            have n6 : Chg nowhere w w6 := nA.step hC6 (fun y hy => by rw [show y = zx from hy]; exact HI.out.lx zx HI.out.xx.inz)
            have HB6 := Lib.hid (hBA.calm hC6 (fun y hy hk => HDIS.out y hy (by rw [show y = zx from hk]; exact HI.out.xx.inz)))
            have HX6 := Lib.hid hX6
            have HX6' := Lib.hid hX6'
            have hlb := HI.out.xx.low
            have hb5l := HB5.out.low
            have hbal := hBA.low
            have HBAL := Lib.hid hbal
            clear hX6 hX6' hr8 hlb hb5l hbal hBA
            go_wp2_with (first | go_skip | ((with_reducible apply (wpl_alloc (dst := some 8))); intro zg wzg _ _ _) | ((with_reducible apply (wpl_box_agg (dst := some 8))); (exact rfl); intro zg wzg _ _ _) | ((with_reducible apply (wpl_box_int (dst := some 8))); (exact rfl); intro zg wzg _ _ _) | ((with_reducible apply (wpl_box_slice (dst := some 8))); (exact rfl); intro zg wzg _ _ _) | ((with_reducible apply (wpl_box_str (dst := some 8))); (exact rfl); intro zg wzg _ _ _) | ((with_reducible apply (wpl_box_bool (dst := some 8))); (exact rfl); intro zg wzg _ _ _) | ((with_reducible apply (wpl_box_ptr (dst := some 8))); (exact rfl); intro zg wzg _ _ _) | ((with_reducible apply wpl_alloc); intro z wz _ _ _) | ((with_reducible apply wpl_box_agg); (exact rfl); intro z wz _ _ _) | ((with_reducible apply wpl_box_int); (exact rfl); intro z wz _ _ _) | ((with_reducible apply wpl_box_slice); (exact rfl); intro z wz _ _ _) | ((with_reducible apply wpl_box_str); (exact rfl); intro z wz _ _ _) | ((with_reducible apply wpl_box_bool); (exact rfl); intro z wz _ _ _) | ((with_reducible apply wpl_box_ptr); (exact rfl); intro z wz _ _ _) | ((with_reducible apply (wpl_guard (op := .load _ _))); (exact rfl)) | ((with_reducible apply (wpl_guard (op := .fieldAddr _ _ _))); (exact rfl)) | ((with_reducible apply (wpl_guard (op := .convert _ _ _))); (exact rfl)) | ((with_reducible apply wpl_loadrow); (exact rfl); (exact inferInstance); (exact inferInstance); (first | (with_reducible assumption) | (with_reducible exact H32.size _) | (with_reducible exact enc_sz _ rfl) | kernel_rfl)) | ((with_reducible apply wpl_loadcellN); (exact rfl); (exact inferInstance); (first | (exact rfl) | (exact tg_hw _) | (exact tg_ctr _) | (exact tg_ecu _) | (exact srch_who) | (exact srch_fd))) | ((with_reducible apply wpl_storerow); (exact rfl); (exact rfl); (exact inferInstance); (exact inferInstance); (first | (with_reducible assumption) | (with_reducible exact H32.size _) | (with_reducible exact enc_sz _ rfl) | kernel_rfl); (first | (with_reducible assumption) | (with_reducible exact H32.size _) | (with_reducible exact enc_sz _ rfl) | kernel_rfl); (first | (with_reducible exact u8s_one _) | (with_reducible assumption) | (with_reducible exact enc_one _) | kernel_rfl); intro ws _ _) | ((with_reducible apply wpl_storecell); (exact rfl); (exact rfl); (exact inferInstance); (exact rfl); (first | (with_reducible assumption) | omega | (focus (simp; done)) | (focus (simp; omega; done)) | decide); intro ws _ _) | ((with_reducible apply wpl_indexH); (exact rfl); (exact rfl); (exact inferInstance); (exact inferInstance); (first | (with_reducible assumption) | omega); (first | (with_reducible assumption) | omega); (first | (with_reducible assumption) | omega)) | ((with_reducible apply wpl_indexH'); (exact rfl); (exact rfl); (exact inferInstance); (exact inferInstance); (first | (with_reducible assumption) | omega); (first | (with_reducible assumption) | omega); (first | (with_reducible assumption) | omega)) | ((with_reducible apply (wpl_loadhash (t := 64))); (exact rfl); (exact inferInstance); (exact inferInstance); (first | (with_reducible assumption) | omega)) | ((with_reducible apply (wpl_storehash (t := 64))); (exact rfl); (exact rfl); (exact inferInstance); (exact inferInstance); (first | (with_reducible assumption) | omega | (focus (simp; done)) | (focus (simp; omega; done)) | decide); intro ws _ _) | ((with_reducible apply (wpl_loadbyteH (t := 5))); (exact rfl); (exact inferInstance); (first | (with_reducible assumption) | omega); (first | (with_reducible assumption) | omega)) | ((with_reducible apply (wpl_storebyteH (t := 5))); (exact rfl); (exact rfl); (exact inferInstance); (first | (with_reducible assumption) | omega); (first | (with_reducible assumption) | omega); (first | (constructor <;> omega) | exact xor_u8_in _ _); intro ws _ _) | ((with_reducible apply (wpl_indexE (α := AB) (t := 36))); (exact rfl); (exact rfl); (exact inferInstance); (exact inferInstance); (first | (with_reducible assumption) | omega | (focus (simp; done)) | (focus (simp; omega; done)) | decide); (exact rfl); (decide); (first | (with_reducible assumption) | omega | (focus (simp; done)) | (focus (simp; omega; done)) | decide)) | ((with_reducible apply (wpl_indexE0 (α := AB) (t := 36))); (exact rfl); (exact inferInstance); (exact inferInstance); (first | (with_reducible assumption) | omega | (focus (simp; done)) | (focus (simp; omega; done)) | decide); (exact rfl); (decide); (first | (with_reducible assumption) | omega | (focus (simp; done)) | (focus (simp; omega; done)) | decide)) | ((with_reducible apply (wpl_loadE (α := AB) (t := 47))); (exact inferInstance); (exact rfl); (exact inferInstance); (exact rfl); (decide); (first | (with_reducible assumption) | omega | (focus (simp; done)) | (focus (simp; omega; done)) | decide)) | ((with_reducible apply (wpl_fieldE (t := 47))); (exact Try.underlying47); (exact rfl); (kernel_rfl); (exact rfl); (exact inferInstance); (exact cells_pos (by decide) (by omega))) | ((with_reducible apply (wpl_loadF (α := AB))); (exact inferInstance); (exact rfl); (exact inferInstance); (exact rfl); (first | (with_reducible assumption) | omega | (focus (simp; done)) | (focus (simp; omega; done)) | decide); (first | (exact rfl) | (exact tg_hw _) | (exact tg_ctr _) | (exact tg_ecu _) | (exact srch_who) | (exact srch_fd))) | ((with_reducible apply wpl_conv); (exact rfl); (exact inferInstance); (first | (with_reducible assumption) | (focus (simp; done)) | omega); (exact Try.underlying31); (exact Try.underlying5); (exact Try.underlying9)) | ((with_reducible apply (wpl_loadint (t := 3))); (exact rfl); (exact inferInstance); (exact inferInstance); (first | (with_reducible assumption) | omega)) | ((with_reducible apply (wpl_loadbyte (t := 5))); (exact rfl); (exact inferInstance); (exact inferInstance); (first | (with_reducible assumption) | omega)) | ((with_reducible apply (wpl_storeint (t := 3))); (exact rfl); (exact rfl); (exact inferInstance); (first | (with_reducible assumption) | omega); intro ws _ _) | ((with_reducible apply (wpl_storebyte (t := 5))); (exact rfl); (exact rfl); (exact inferInstance); (first | (with_reducible assumption) | omega | (focus (simp; done)) | (focus (simp; omega; done)) | decide); (constructor <;> omega); intro ws _ _))
            have hc7 := (stepN (w0 := w6) (w := ws)).chg
            have hBf : BS ws z S5 cm fr' := HB6.out.calm hc7 (fun _ _ hk => hk)
            have hXf : XB ws zx X6 fr' := HX6.out.calm hc7 (fun _ _ hk => hk)
            have n7 : Chg nowhere w ws := n6.trans hc7 (fun _ _ h => h)
            have st7 : Step nowhere w ws := ⟨n7⟩
            have hlsf : ∀ y, S5 y → w.heap.size ≤ y := fun y hy => (HS5.out y hy).elim (HI.out.ls y) (fun h => Nat.le_trans stw.chg.size h)
            have hlxf : ∀ y, X6 y → w.heap.size ≤ y := fun y hy => (HX6'.out y hy).elim (HI.out.lx y) (fun h => Nat.le_trans nA.size h)
            have hdisf : ∀ y, S5 y → ¬ X6 y := fun y hy hk => (HX6'.out y hk).elim (HDIS.out y hy) (fun h => by have := HBAL.out y hy; omega)
            have hlenf : fr'.length ≤ 64 := by
              have h1 : fr'.length + 1 ≤ 64 := HI.out.len
              omega
            have hsmf : ∀ y ∈ fr', y.2.length ≤ 8 := fun y hy => HI.out.sm y (List.mem_cons_of_mem _ hy)
            have HP := Lib.hid (show ∀ w', Chg nowhere ws w' → PlInv w w' z zx S5 X6 cm fr' (i + 1) from fun w' hc => ⟨hBf.calm hc (fun _ _ hk => hk), hXf.calm hc (fun _ _ hk => hk), hlsf, hlxf, hdisf, hlenf, hsmf, by have := HI.out.cm_; omega⟩)
            obtain ⟨xl, xA, xc, hbx, hrx, _, _, hfx, hmx⟩ := hXf.mem
            obtain ⟨K, hK⟩ : ∃ K, fr'.length = K := ⟨_, rfl⟩
            rw [hK] at hbx
            have hBx : HB ws zx 43 #[.slice xA K xc] := ⟨hbx⟩
            have hRx : HR ws xA (cellsOf xl) := ⟨hrx⟩
            have hFx : HFs ws xl := ⟨fun f hf => ⟨(hfx f hf).1, (hfx f hf).2.1, (hfx f hf).2.2.1⟩⟩
            have HK := Lib.hid hK
            have HMX := Lib.hid hmx
            have hl9 : fr'.length ≤ 1000 := by omega
            have HD := Lib.hid (show ∀ x ∈ fr', x.2.length ≤ 1000 from fun x hx => Nat.le_trans (hsmf x hx) (by decide))
            have HB9 := Lib.hid hBf
            clear hK hmx hfx hsmf hlsf hlxf hdisf hlenf hBf hXf
            go_wp2_with fail
            refine wp_region_N (nowhere) (by kernel_rfl) (fun wd _ _ => ?_)
            refine' takeH (i := 0) (v := _) rfl (by kernel_rfl) (by kernel_rfl) (by kernel_rfl) (fun _ _ _ h => h) (yields_of (by rfl) (fun w' _ => ?_)) inferInstance ?_
            rotate_left
            · (go_simp; try with_reducible rfl)
            try simp only [Act.put, List.setIfInBounds_toArray]; try simp only [List.set_cons_succ, List.set_cons_zero]
            refine' takeH (i := 2) (v := _) rfl (by kernel_rfl) (by kernel_rfl) (by kernel_rfl) (fun _ _ _ h => h) (yields_of (by rfl) (fun w' _ => ?_)) inferInstance ?_
            rotate_left
            · (go_simp; try with_reducible rfl)
            try simp only [Act.put, List.setIfInBounds_toArray]; try simp only [List.set_cons_succ, List.set_cons_zero]
            refine' takeH (i := 3) (v := _) rfl (by kernel_rfl) (by kernel_rfl) (by kernel_rfl) (fun _ _ _ h => h) (yields_of (by rfl) (fun w' _ => ?_)) inferInstance ?_
            rotate_left
            · (go_simp; try with_reducible rfl)
            try simp only [Act.put, List.setIfInBounds_toArray]; try simp only [List.set_cons_succ, List.set_cons_zero]
            refine' takeH (i := 4) (v := _) rfl (by kernel_rfl) (by kernel_rfl) (by kernel_rfl) (fun _ _ _ h => h) (yields_of (by rfl) (fun w' _ => ?_)) inferInstance ?_
            rotate_left
            · (first | ((with_reducible apply (ev_fieldE (t := 47))); (exact Try.underlying47); (exact rfl); (kernel_rfl); (exact rfl); (exact inferInstance); (exact cells_pos (by decide) (by omega))) | (go_simp; try with_reducible rfl))
            try simp only [Act.put, List.setIfInBounds_toArray]; try simp only [List.set_cons_succ, List.set_cons_zero]
            refine' takeH (i := 5) (v := _) rfl (by kernel_rfl) (by kernel_rfl) (by kernel_rfl) (fun _ _ _ h => h) (yields_of (by rfl) (fun w' _ => ?_)) inferInstance ?_
            rotate_left
            · (first | ((with_reducible apply ev_loadABF); (exact rfl); (exact inferInstance); (exact hil)) | ((with_reducible apply ev_loadrow); (exact rfl); (exact inferInstance); (exact inferInstance); (first | (with_reducible assumption) | (with_reducible exact H32.size _) | (with_reducible exact enc_sz _ rfl) | kernel_rfl)) | ((with_reducible apply (ev_loadhash (t := 64))); (exact rfl); (exact inferInstance); (exact inferInstance); (first | (with_reducible assumption) | omega)) | ((with_reducible apply ev_loadcellN); (exact rfl); (exact inferInstance); (exact inferInstance); (first | (exact rfl) | (exact tg_hw _) | (exact tg_ctr _) | (exact tg_ecu _) | (exact srch_who) | (exact srch_fd))) | ((with_reducible apply (ev_loadE (α := AB) (t := 47))); (exact inferInstance); (exact rfl); (exact inferInstance); (exact rfl); (decide); (first | (with_reducible assumption) | omega | (focus (simp; done)) | (focus (simp; omega; done)) | decide)) | ((with_reducible apply (ev_loadF (α := AB))); (exact inferInstance); (exact rfl); (exact inferInstance); (exact rfl); (first | (with_reducible assumption) | omega | (focus (simp; done)) | (focus (simp; omega; done)) | decide); (first | (exact rfl) | (exact tg_hw _) | (exact tg_ctr _) | (exact tg_ecu _) | (exact srch_who) | (exact srch_fd))) | ((with_reducible apply (ev_loadint (t := 3))); (exact rfl); (exact inferInstance); (exact inferInstance); (first | (with_reducible assumption) | omega)) | ((with_reducible apply (ev_loadbyte (t := 5))); (exact rfl); (exact inferInstance); (exact inferInstance); (first | (with_reducible assumption) | omega)) | (go_simp; try with_reducible rfl))
            try simp only [Act.put, List.setIfInBounds_toArray]; try simp only [List.set_cons_succ, List.set_cons_zero]
            refine' takeH (i := 6) (v := _) rfl (by kernel_rfl) (by kernel_rfl) (by kernel_rfl) (fun _ _ _ h => h) (yields_of (by rfl) (fun w' _ => ?_)) inferInstance ?_
            rotate_left
            · (go_simp; try with_reducible rfl)
            try simp only [Act.put, List.setIfInBounds_toArray]; try simp only [List.set_cons_succ, List.set_cons_zero]
            refine goH (i := 1) (by kernel_rfl) rfl (fun K_ hK_ => ?_)
            go_simp
            refine (lenB_calls (HB9.out.calm (stepN (w0 := ws) (w := wd)).chg (fun _ _ hk => hk))).mono ?_
            rintro e w7 ⟨rfl, rfl⟩
            rw [HK.out]
            refine hK_.out _ _ inferInstance (fun _ => ?_)
            clear hK_ K_
            try simp only [Act.put, List.setIfInBounds_toArray]; try simp only [List.set_cons_succ, List.set_cons_zero]
            refine' takeH (i := 7) (v := _) rfl (by kernel_rfl) (by kernel_rfl) (by kernel_rfl) (fun _ _ _ h => h) (yields_of (by rfl) (fun w' _ => ?_)) inferInstance ?_
            rotate_left
            · (go_simp; try with_reducible rfl)
            try simp only [Act.put, List.setIfInBounds_toArray]; try simp only [List.set_cons_succ, List.set_cons_zero]
            refine' takeH (i := 8) (v := _) rfl (by kernel_rfl) (by kernel_rfl) (by kernel_rfl) (fun _ _ _ h => h) (yields_of (by rfl) (fun w' _ => ?_)) inferInstance ?_
            rotate_left
            · (go_simp; try with_reducible rfl)
            try simp only [Act.put, List.setIfInBounds_toArray]; try simp only [List.set_cons_succ, List.set_cons_zero]
            refine' takeH (i := 9) (v := _) rfl (by kernel_rfl) (by kernel_rfl) (by kernel_rfl) (fun _ _ _ h => h) (yields_of (by rfl) (fun w' _ => ?_)) inferInstance ?_
            rotate_left
            · (go_simp; try with_reducible rfl)
            try simp only [Act.put, List.setIfInBounds_toArray]; try simp only [List.set_cons_succ, List.set_cons_zero]
            refine' takeH (i := 11) (v := _) rfl (by kernel_rfl) (by kernel_rfl) (by kernel_rfl) (fun _ _ _ h => h) (yields_of (by rfl) (fun w' _ => ?_)) inferInstance ?_
            rotate_left
            · (go_simp; try with_reducible rfl)
            try simp only [Act.put, List.setIfInBounds_toArray]; try simp only [List.set_cons_succ, List.set_cons_zero]
            refine' takeH (i := 12) (v := _) rfl (by kernel_rfl) (by kernel_rfl) (by kernel_rfl) (fun _ _ _ h => h) (yields_of (by rfl) (fun w' _ => ?_)) inferInstance ?_
            rotate_left
            · (go_simp; try with_reducible rfl)
            try simp only [Act.put, List.setIfInBounds_toArray]; try simp only [List.set_cons_succ, List.set_cons_zero]
            refine' takeH (i := 13) (v := _) rfl (by kernel_rfl) (by kernel_rfl) (by kernel_rfl) (fun _ _ _ h => h) (yields_of (by rfl) (fun w' _ => ?_)) inferInstance ?_
            rotate_left
            · (first | ((with_reducible apply (ev_fieldE (t := 47))); (exact Try.underlying47); (exact rfl); (kernel_rfl); (exact rfl); (exact inferInstance); (exact cells_pos (by decide) (by omega))) | (go_simp; try with_reducible rfl))
            try simp only [Act.put, List.setIfInBounds_toArray]; try simp only [List.set_cons_succ, List.set_cons_zero]
            refine' takeH (i := 14) (v := _) rfl (by kernel_rfl) (by kernel_rfl) (by kernel_rfl) (fun _ _ _ h => h) (yields_of (by rfl) (fun w' _ => ?_)) inferInstance ?_
            rotate_left
            · (first | ((with_reducible apply ev_loadABF); (exact rfl); (exact inferInstance); (exact hil)) | ((with_reducible apply ev_loadrow); (exact rfl); (exact inferInstance); (exact inferInstance); (first | (with_reducible assumption) | (with_reducible exact H32.size _) | (with_reducible exact enc_sz _ rfl) | kernel_rfl)) | ((with_reducible apply (ev_loadhash (t := 64))); (exact rfl); (exact inferInstance); (exact inferInstance); (first | (with_reducible assumption) | omega)) | ((with_reducible apply ev_loadcellN); (exact rfl); (exact inferInstance); (exact inferInstance); (first | (exact rfl) | (exact tg_hw _) | (exact tg_ctr _) | (exact tg_ecu _) | (exact srch_who) | (exact srch_fd))) | ((with_reducible apply (ev_loadE (α := AB) (t := 47))); (exact inferInstance); (exact rfl); (exact inferInstance); (exact rfl); (decide); (first | (with_reducible assumption) | omega | (focus (simp; done)) | (focus (simp; omega; done)) | decide)) | ((with_reducible apply (ev_loadF (α := AB))); (exact inferInstance); (exact rfl); (exact inferInstance); (exact rfl); (first | (with_reducible assumption) | omega | (focus (simp; done)) | (focus (simp; omega; done)) | decide); (first | (exact rfl) | (exact tg_hw _) | (exact tg_ctr _) | (exact tg_ecu _) | (exact srch_who) | (exact srch_fd))) | ((with_reducible apply (ev_loadint (t := 3))); (exact rfl); (exact inferInstance); (exact inferInstance); (first | (with_reducible assumption) | omega)) | ((with_reducible apply (ev_loadbyte (t := 5))); (exact rfl); (exact inferInstance); (exact inferInstance); (first | (with_reducible assumption) | omega)) | (go_simp; try with_reducible rfl))
            try simp only [Act.put, List.setIfInBounds_toArray]; try simp only [List.set_cons_succ, List.set_cons_zero]
            refine goH (i := 10) (by kernel_rfl) rfl (fun K_ hK_ => ?_)
            go_simp
            refine (list_calls (HB9.out.calm (stepN (w0 := ws) (w := wd)).chg (fun _ _ hk => hk)) hl9 HD.out).mono ?_
            rintro e w8 ⟨LA, lc, ll, rfl, _, hOL, hFL, hml⟩
            have hRL : HR w8 LA (cellsOf ll) := ⟨hOL.rd⟩
            have hFs : HFs w8 ll := ⟨hFL.ok⟩
            have hKL : ll.length = K := by
              have h1 := congrArg List.length hml
              rw [List.length_map] at h1
              exact h1.trans HK.out
            have HML := Lib.hid (hml.trans HMX.out.symm)
            have HKL := Lib.hid hKL
            rw [hKL]
            clear hml hKL
            refine hK_.out _ _ inferInstance (fun _ => ?_)
            clear hK_ K_
            try simp only [Act.put, List.setIfInBounds_toArray]; try simp only [List.set_cons_succ, List.set_cons_zero]
            refine goH (i := 15) (by kernel_rfl) rfl (fun K_ hK_ => ?_)
            go_simp
            refine (same_calls ll xl HKL.out HML.out (by have := HK.out; omega)).mono ?_
            rintro e w9 ⟨rfl, _⟩
            refine hK_.out _ _ inferInstance (fun _ => ?_)
            clear hK_ K_
            try simp only [Act.put, List.setIfInBounds_toArray]; try simp only [List.set_cons_succ, List.set_cons_zero]
            refine' takeH (i := 16) (v := _) rfl (by kernel_rfl) (by kernel_rfl) (by kernel_rfl) (fun _ _ _ h => h) (yields_of (by rfl) (fun w' _ => ?_)) inferInstance ?_
            rotate_left
            · (go_simp; try with_reducible rfl)
            try simp only [Act.put, List.setIfInBounds_toArray]; try simp only [List.set_cons_succ, List.set_cons_zero]
            refine' takeH (i := 17) (v := _) rfl (by kernel_rfl) (by kernel_rfl) (by kernel_rfl) (fun _ _ _ h => h) (yields_of (by rfl) (fun w' _ => ?_)) inferInstance ?_
            rotate_left
            · (go_simp; try with_reducible rfl)
            try simp only [Act.put, List.setIfInBounds_toArray]; try simp only [List.set_cons_succ, List.set_cons_zero]
            refine wpAnyH_done (by kernel_rfl) ?_ _
            have hc9 := (stepN (w0 := ws) (w := w9)).chg
            have st9 : Step nowhere w w9 := ⟨n7.trans hc9 (fun _ _ h => h)⟩
            have HI9 := Lib.hid (HP.out w9 hc9)
            clear hc9
            go_wp2_with fail
            exact ⟨⟨i + 1, cm, S5, X6, fr', by omega, by omega, rfl, st9, HI9⟩, by simp [intOf]; omega⟩
      · have hcond : (¬ (i : Int) < n) ∨ ((i : Int) < n ∧ ¬ (i : Int) < 150) := by omega
        have hln : l.length = n := HLL.out
        rcases hcond with c1 | ⟨c1, c2⟩
        all_goals
          go_wp2_with fail
          refine (known_calls _).mono ?_
          rintro e w4 ⟨rfl, hs4⟩
          go_wp2_with fail
          go_ret
          exact ⟨rfl, stw.chg.trans hs4.chg (fun _ _ hk => hk)⟩
end Go.Proofs.Ythoipeamdolfgaa
