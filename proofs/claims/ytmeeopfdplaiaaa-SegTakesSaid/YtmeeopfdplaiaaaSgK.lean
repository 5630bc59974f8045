/- single, first, further. -/
import Derived.Test.YtmeeopfdplaiaaaSgJ
open Go Go.RowKit
namespace Go.Proofs.Ytmeeopfdplaiaaa
/-- what a frame makes: the state, what is told -/
def TkPost (z : Nat) (S : Nat → Prop) (w : World) (r : Tk) (e : Ending) (w' : World) : Prop :=
  ∃ S' B c, JS w' z S' r.1 ∧ e = .returned (.tuple #[.slice B (r.2.getD []).length c, .bool r.2.isSome]) ∧ Chg S w w' ∧ (∀ x, S' x → S x ∨ w.heap.size ≤ x) ∧ Rd w' B (bs (r.2.getD [])) ∧ (r.2.getD [] ≠ [] → ∀ ad, B = some ad → S ad.block ∨ w.heap.size ≤ ad.block)
theorem TkPost.err {z : Nat} {S : Nat → Prop} {w w' : World} {s : St} (h : JS w' z S s.err) (hc : Chg S w w') : TkPost z S w (errS s) (.returned (.tuple #[.slice none 0 0, .bool false])) w' :=
  ⟨S, none, 0, h, rfl, hc, fun _ h => .inl h, Rd.nil _ _, fun hne => absurd rfl hne⟩
set_option maxRecDepth 100000 in
theorem single_calls (id : Int) (nn : Nat) {A : Option Addr} {n c : Nat} {part : List UInt8} {w : World} {z : Nat} {S : Nat → Prop} {s : St} (h : JS w z S s) (hN : s.N ≤ 1000000000) (hid : (Lit.int .i64 id).wf = true) (hp : Rd w A (bs part)) (ho : Apart S A (bs part)) (hn : part.length = n) (hc : n ≤ c) (hn2 : n ≤ 1000) (hnn : nn < 16) :
    Calls Try.prog 29 #[.pointer (some ⟨z, 0, none⟩), .int .i64 id, .int .i64 (nn : Int), .slice A n c] w (TkPost z S w (singleS s id nn part)) := by
  have hR : HR w A (bs part) := ⟨hp⟩
  by_cases h0 : nn = 0
  · subst h0
    rw [singleS, if_pos (.inl rfl)]
    go_enter Try.func29, Try.ntmps29
    go_wp2_with fail
    refine (err_calls h hN).mono ?_
    rintro e w1 ⟨rfl, hJ, hC⟩
    go_wp2_with fail
    go_ret2
    exact TkPost.err hJ hC
  · by_cases h1 : nn = n
    · have hsp : singleS s id nn part = (s.drop id, some part) := by rw [singleS, if_neg (by omega)]
      rw [hsp]
      subst h1
      have b0 : ((nn : Int) == 0) = false := beqF (by omega)
      go_enter Try.func29, Try.ntmps29
      go_wp2_with fail
      refine (drop_calls id h hN hid).mono ?_
      rintro e w1 ⟨rfl, hJ, hC⟩
      have hR1 : HR w1 A (bs part) := ⟨hp.chg hC ho⟩
      go_wp2_with fail
      refine (clone_calls (xs := part) hn hc (by omega)).mono ?_
      rintro e w2 ⟨A', c', rfl, hs2, hO, hNA⟩
      go_wp2_with fail
      go_ret2
      refine ⟨S, A', c', hJ.calm hs2.chg (fun _ _ hk => hk), by rw [← hn]; rfl, hC.trans hs2.chg (fun _ _ hk => hk.elim), fun _ h => .inl h, hO.out.rd, fun _ ad e => .inr (Nat.le_trans hC.size (hNA.out ad e))⟩
    · have hsp : singleS s id nn part = errS s := by rw [singleS, if_pos (by omega)]
      rw [hsp]
      have b0 : ((nn : Int) == 0) = false := beqF (by omega)
      have b1 : ((nn : Int) != (n : Int)) = true := bneT (by omega)
      go_enter Try.func29, Try.ntmps29
      go_wp2_with fail
      refine (err_calls h hN).mono ?_
      rintro e w1 ⟨rfl, hJ, hC⟩
      go_wp2_with fail
      go_ret2
      exact TkPost.err hJ hC
attribute [local go_sem] nilM
theorem or_hl (hi lo wh : Nat) (hh : hi < 16) (hl : lo < 256) (e : hi * 256 + lo = wh) (w : World) : (binOp .or 3 (.int .i64 ((hi : Int) * 256)) (.int .i64 (lo : Int))).run Try.prog w = .ok (.int .i64 (wh : Int)) w := by
  rw [← e, ← or256 hi lo (by omega) hl]
  rfl
/-- a message put behind what has been worked out -/
theorem put_close {w1 w' : World} {z g : Nat} {S : Nat → Prop} {s1 : St} {F : Int → Mp} {T : Nat → Prop} {id : Int} {u : Msg} {q : Mp} (hok : (s1.put id u).Ok) (hz : S z) (hl : ∀ x, S x → x < w1.heap.size) (hr : Rws w1 S s1 F) (hc : Chg T w1 w')
    (hT : ∀ k v, k ≠ id → s1.G k = some v → ∀ ad, (F k).A = some ad → ¬ T ad.block)
    (hB : Blk w' z 79 #[.map (some g), .int .i64 s1.N]) (hg : S g ∨ w1.heap.size ≤ g)
    (hI : MapIV Try.prog 3 zMsg w' g (if (asV (cellsG s1 F) id).isSome = true then s1.m else s1.m + 1) (fun x => if x = id then some (.agg (msgC q u)) else asV (cellsG s1 F) x))
    (hO : Own w' 5 1 q.A u.b.length q.c (bs u.b)) (hq : ∀ ad, q.A = some ad → (∃ v, s1.G id = some v ∧ (F id).A = some ad) ∨ w1.heap.size ≤ ad.block) :
    JS w' z (fun x => S x ∨ (w1.heap.size ≤ x ∧ x < w'.heap.size)) (s1.put id u) := by
  refine ⟨hok, .inl hz, fun x hx => hx.elim (fun h => Nat.lt_of_lt_of_le (hl x h) hc.size) (fun h => h.2), fun x => if x = id then q else F x, some g, hB, ?_, ?_, fun g' e => by injection e with e; subst e; exact hg.imp (fun h => h) (fun h => ⟨h, MapIV.lt hI⟩)⟩
  · refine hr.put hc id hT u q hO (fun _ h => .inl h) (fun ad e => ?_) (fun k v hne hk ad ad' e e' => ?_)
    · rcases hq ad e with ⟨v, hv, h⟩ | h
      · exact .inl (hr.inS id v hv ad h)
      · exact .inr ⟨h, hO.lt e⟩
    · rcases hq ad e with ⟨v', hv, h⟩ | h
      · exact hr.apart id k v' v hv hk (fun h => hne h.symm) ad ad' h e'
      · intro h2
        have := (hr.own k v hk).lt e'
        omega
  · show MapIV _ _ _ w' g _ _
    rw [asV_put]
    rw [asV_some] at hI
    exact hI
set_option maxRecDepth 100000 in
set_option maxHeartbeats 800000 in
theorem first_calls (id : Int) (hi : Nat) (now : Int) {A : Option Addr} {n c : Nat} {part : List UInt8} {w : World} {z : Nat} {S : Nat → Prop} {s : St} (h : JS w z S s) (hN : s.N ≤ 1000000000) (hm : s.m ≤ 1000000000) (hid : (Lit.int .i64 id).wf = true) (hp : Rd w A (bs part)) (ho : Apart S A (bs part)) (hn : part.length = n) (hc : n ≤ c) (hn2 : n ≤ 1000) (hhi : hi < 16)
    (h3 : -9223372036854775808 ≤ now) (h4 : now ≤ 9223372036854775807) :
    Calls Try.prog 30 #[.pointer (some ⟨z, 0, none⟩), .int .i64 id, .int .i64 (hi : Int), .slice A n c, .int .i64 now] w (TkPost z S w (firstS s id hi part now)) := by
  have hR : HR w A (bs part) := ⟨hp⟩
  by_cases h7 : n = 7
  · have hlo : (bget part 0).toNat < 256 := (bget part 0).toNat_lt
    obtain ⟨lo, hloe⟩ : ∃ lo, (bget part 0).toNat = lo := ⟨_, rfl⟩
    have HLO := Lib.hid hloe
    rw [hloe] at hlo
    clear hloe
    have hp1 : 0 < part.length := by omega
    obtain ⟨wh, hwhe⟩ : ∃ wh, hi * 256 + lo = wh := ⟨_, rfl⟩
    have HWH := Lib.hid hwhe
    have hsp0 : firstS s id hi part now = if wh ≤ 7 ∨ 600 < wh then errS s else ((s.drop id).put id ⟨part.drop 1, wh, 1, now⟩, none) := by rw [firstS, if_neg (by omega), HLO.out, hwhe]
    clear hwhe
    have b0 : ((n : Int) != 7) = false := bneF (by omega)
    subst h7
    obtain ⟨pd, hpd⟩ : ∃ pd, part.drop 1 = pd := ⟨_, rfl⟩
    have hl6 : pd.length = 6 := by rw [← hpd, List.length_drop, hn]
    have hAp := apart_cutI ho c 1
    rw [hpd] at hsp0 hAp
    have HPD := Lib.hid hpd
    clear hpd
    by_cases hw : wh ≤ 7 ∨ 600 < wh
    · rw [hsp0, if_pos hw]
      go_enter Try.func30, Try.ntmps30
      go_wp2_with (first | go_skip | ((with_reducible apply wpl_indexB0); exact rfl; infer_instance; infer_instance; (exact hn); omega) | ((with_reducible apply (wpl_loadB (t := 5))); exact rfl; infer_instance; infer_instance; (exact hp1); rw [HLO.out]) | ((with_reducible apply wpl_or); exact rfl; exact rfl; (exact or_hl hi lo wh hhi hlo HWH.out)) | ((with_reducible apply wpl_loadrow); exact rfl; infer_instance; infer_instance; (first | with_reducible assumption | (with_reducible exact H32.size _) | kernel_rfl)) | ((with_reducible apply wpl_loadcellN); exact rfl; infer_instance; exact rfl) | ((with_reducible apply wpl_storerow); exact rfl; exact rfl; infer_instance; infer_instance; (first | with_reducible assumption | (with_reducible exact H32.size _) | kernel_rfl); (first | with_reducible assumption | (with_reducible exact H32.size _) | kernel_rfl); (first | (with_reducible exact u8s_one _) | with_reducible assumption | kernel_rfl); intro ws _ _) | ((with_reducible apply wpl_storecell); exact rfl; exact rfl; infer_instance; exact rfl; (first | with_reducible assumption | omega | (focus (simp; done)) | (focus (simp; omega; done)) | decide); intro ws _ _))
      all_goals
        refine (err_calls h hN).mono ?_
        rintro e w1 ⟨rfl, hJ, hC⟩
        go_wp2_with fail
        go_ret2
        exact TkPost.err hJ hC
    · rw [hsp0, if_neg hw]
      have q1 : 7 < wh := by omega
      have q2 : wh ≤ 600 := by omega
      clear hw
      go_enter Try.func30, Try.ntmps30
      go_wp2_with (first | go_skip | ((with_reducible apply wpl_indexB0); exact rfl; infer_instance; infer_instance; (exact hn); omega) | ((with_reducible apply (wpl_loadB (t := 5))); exact rfl; infer_instance; infer_instance; (exact hp1); rw [HLO.out]) | ((with_reducible apply wpl_or); exact rfl; exact rfl; (exact or_hl hi lo wh hhi hlo HWH.out)) | ((with_reducible apply wpl_loadrow); exact rfl; infer_instance; infer_instance; (first | with_reducible assumption | (with_reducible exact H32.size _) | kernel_rfl)) | ((with_reducible apply wpl_loadcellN); exact rfl; infer_instance; exact rfl) | ((with_reducible apply wpl_storerow); exact rfl; exact rfl; infer_instance; infer_instance; (first | with_reducible assumption | (with_reducible exact H32.size _) | kernel_rfl); (first | with_reducible assumption | (with_reducible exact H32.size _) | kernel_rfl); (first | (with_reducible exact u8s_one _) | with_reducible assumption | kernel_rfl); intro ws _ _) | ((with_reducible apply wpl_storecell); exact rfl; exact rfl; infer_instance; exact rfl; (first | with_reducible assumption | omega | (focus (simp; done)) | (focus (simp; omega; done)) | decide); intro ws _ _))
      refine (drop_calls id h hN hid).mono ?_
      rintro e w1 ⟨rfl, hJ, hC⟩
      have hz : w.heap.size ≤ w1.heap.size := hC.size
      obtain ⟨F, M, hb, hr, hmm, hg⟩ := hJ.mem
      have HG := Lib.hid (drop_at s id)
      have HGm := Lib.hid (show (s.drop id).m < maxLen by have := drop_m s id; unfold maxLen; omega)
      generalize s.drop id = s1 at *
      have hR1 : HR w1 A (bs part) := ⟨hp.chg hC ho⟩
      have hB : HB w1 z 79 #[.map M, .int .i64 s1.N] := ⟨hb⟩
      have hRc := HR.cutI hR1 hn hc 1 (by decide)
      rw [HPD.out] at hRc
      have hok : (s1.put id ⟨pd, wh, 1, now⟩).Ok := hJ.ok.put id _ ⟨by show pd.length < wh; omega, q2, by show 1 < 16; decide, h3, h4⟩
      cases M with
      | none =>
        have h0 : ∀ k, s1.G k = none := fun k => by
          have := hmm.2 k
          simp only [asV, cellsG] at this
          cases hk : s1.G k with
          | none => rfl
          | some v => rw [hk] at this; cases this
        have hm0 : s1.m = 0 := hmm.1
        have oA : OffR (only z) (if c = 1 then A else Option.map (fun x => ({ block := x.block, off := x.off + 1 } : Addr)) A) (bs pd) := ⟨fun hne ad e hk => hAp hne ad e (by rw [show ad.block = z from hk]; exact hJ.inz)⟩
        have HGm0 := Lib.hid (show 0 < maxLen by unfold maxLen; omega)
        go_wp2_with (first | go_skip | ((with_reducible apply wpl_makeMI); (exact mapT); intro g wg hBo _ hMI) | ((with_reducible apply wpl_loadrow); exact rfl; infer_instance; infer_instance; (first | with_reducible assumption | (with_reducible exact H32.size _) | kernel_rfl)) | ((with_reducible apply wpl_loadcellN); exact rfl; infer_instance; exact rfl) | ((with_reducible apply wpl_storerow); exact rfl; exact rfl; infer_instance; infer_instance; (first | with_reducible assumption | (with_reducible exact H32.size _) | kernel_rfl); (first | with_reducible assumption | (with_reducible exact H32.size _) | kernel_rfl); (first | (with_reducible exact u8s_one _) | with_reducible assumption | kernel_rfl); intro ws _ _) | ((with_reducible apply wpl_storecell); exact rfl; exact rfl; infer_instance; exact rfl; (first | with_reducible assumption | omega | (focus (simp; done)) | (focus (simp; omega; done)) | decide); intro ws _ _))
        refine wp_region_N ((only g)) (by kernel_rfl) (fun wd _ _ => ?_)
        refine' takeH (i := 0) (v := _) rfl (by kernel_rfl) (by kernel_rfl) (by kernel_rfl) (fun _ _ _ h => h) (yields_of (by rfl) (fun w' _ => ?_)) inferInstance ?_
        rotate_left
        · (go_simp; try with_reducible rfl)
        try simp only [Act.put, sA]; try simp only [sB, sC]
        refine' takeH (i := 1) (v := _) rfl (by kernel_rfl) (by kernel_rfl) (by kernel_rfl) (fun _ _ _ h => h) (yields_of (by rfl) (fun w' _ => ?_)) inferInstance ?_
        rotate_left
        · (go_simp; try with_reducible rfl)
        try simp only [Act.put, sA]; try simp only [sB, sC]
        refine' takeH (i := 2) (v := _) rfl (by kernel_rfl) (by kernel_rfl) (by kernel_rfl) (fun _ _ _ h => h) (yields_of (by rfl) (fun w' _ => ?_)) inferInstance ?_
        rotate_left
        · (go_simp; try with_reducible rfl)
        try simp only [Act.put, sA]; try simp only [sB, sC]
        refine' takeH (i := 3) (v := _) rfl (by kernel_rfl) (by kernel_rfl) (by kernel_rfl) (fun _ _ _ h => h) (yields_of (by rfl) (fun w' _ => ?_)) inferInstance ?_
        rotate_left
        · (first | ((with_reducible apply (ev_loadB (t := 5))); exact rfl; infer_instance; infer_instance; (first | with_reducible assumption | omega)) | ((with_reducible apply ev_loadrow); exact rfl; infer_instance; infer_instance; (first | with_reducible assumption | (with_reducible exact H32.size _) | kernel_rfl)) | ((with_reducible apply ev_loadcellN); exact rfl; infer_instance; infer_instance; exact rfl) | ((with_reducible apply (ev_loadint (t := 3))); exact rfl; infer_instance; infer_instance; (first | with_reducible assumption | omega)) | ((with_reducible apply (ev_loadbyte (t := 5))); exact rfl; infer_instance; infer_instance; (first | with_reducible assumption | omega)) | (go_simp; try with_reducible rfl))
        try simp only [Act.put, sA]; try simp only [sB, sC]
        refine' takeH (i := 4) (v := _) rfl (by kernel_rfl) (by kernel_rfl) (by kernel_rfl) (fun _ _ _ h => h) (yields_of (by rfl) (fun w' _ => ?_)) inferInstance ?_
        rotate_left
        · (go_simp; try with_reducible rfl)
        try simp only [Act.put, sA]; try simp only [sB, sC]
        refine' takeH (i := 5) (v := _) rfl (by kernel_rfl) (by kernel_rfl) (by kernel_rfl) (fun _ _ _ h => h) (yields_of (by rfl) (fun w' _ => ?_)) inferInstance ?_
        rotate_left
        · (go_simp; try with_reducible rfl)
        try simp only [Act.put, sA]; try simp only [sB, sC]
        refine' takeH (i := 6) (v := _) rfl (by kernel_rfl) (by kernel_rfl) (by kernel_rfl) (fun _ _ _ h => h) (yields_of (by rfl) (fun w' _ => ?_)) inferInstance ?_
        rotate_left
        · (first | ((with_reducible apply ev_sl_lh); exact rfl; exact rfl; exact rfl; infer_instance; (first | with_reducible assumption | omega); (first | with_reducible assumption | omega)) | ((with_reducible apply ev_sl_h); exact rfl; exact rfl; infer_instance; (first | with_reducible assumption | omega)) | ((with_reducible apply ev_sl_l); exact rfl; exact rfl; infer_instance; (first | with_reducible assumption | omega)) | (go_simp; try with_reducible rfl))
        try simp only [Act.put, sA]; try simp only [sB, sC]
        refine' takeH (i := 8) (v := _) rfl (by kernel_rfl) (by kernel_rfl) (by kernel_rfl) (fun _ _ _ h => h) (yields_of (by rfl) (fun w' _ => ?_)) inferInstance ?_
        rotate_left
        · (go_simp; try with_reducible rfl)
        try simp only [Act.put, sA]; try simp only [sB, sC]
        refine' takeH (i := 9) (v := _) rfl (by kernel_rfl) (by kernel_rfl) (by kernel_rfl) (fun _ _ _ h => h) (yields_of (by rfl) (fun w' _ => ?_)) inferInstance ?_
        rotate_left
        · (go_simp; try with_reducible rfl)
        try simp only [Act.put, sA]; try simp only [sB, sC]
        refine goH (i := 7) (by kernel_rfl) rfl (fun K_ hK_ => ?_)
        go_simp
        refine (clone_calls (xs := pd) hl6 (by omega) (by omega)).mono ?_
        rintro e w2 ⟨A', c', rfl, hs2, hO, hNA⟩
        refine hK_.out _ _ inferInstance (fun _ => ?_)
        clear hK_ K_
        try simp only [Act.put, sA]; try simp only [sB, sC]
        refine' takeH (i := 10) (v := _) rfl (by kernel_rfl) (by kernel_rfl) (by kernel_rfl) (fun _ _ _ h => h) (yields_of (by rfl) (fun w' _ => ?_)) inferInstance ?_
        rotate_left
        · (first | ((with_reducible apply ev_build); exact run_msg _ _ _ _ _) | (go_simp; try with_reducible rfl))
        try simp only [Act.put, sA]; try simp only [sB, sC]
        refine goH (i := 11) (by kernel_rfl) rfl (fun K_ hK_ => ?_)
        rw [if_pos (by kernel_rfl)]
        refine wpr_of_list ?_
        (first | ((with_reducible apply wpl_build); (exact run_msg _ _ _ _ _)) | ((with_reducible apply wpl_putMI); exact rfl; exact rfl; exact rfl; infer_instance; infer_instance; (exact HGm0.out); (exact hid); intro wp _ hI2) | ((with_reducible apply wpl_putMI); exact rfl; exact rfl; exact rfl; infer_instance; infer_instance; (first | with_reducible assumption | omega); (first | with_reducible assumption | (exact wfI (by omega) (by omega))); intro wp _ _))
        refine wpList_nil ?_
        unfold onlyN
        refine hK_.out _ _ inferInstance (fun _ => ?_)
        clear hK_ K_
        try simp only [Act.put]
        refine wpAnyH_done (by kernel_rfl) ?_ _
        go_wp2_with fail
        go_ret2
        have hc2 : Chg (both z g) w1 wp := stepC.chg
        have hgn : g = w1.heap.size := hBo.eq
        have hB2 : HB wp z 79 (#[.map none, .int .i64 s1.N].setIfInBounds 0 (.map (some g))) := inferInstance
        have hI3 := hI2.out
        have hO2 : HO wp 5 1 A' 6 c' (bs pd) := inferInstance
        refine ⟨_, none, 0, put_close (q := ⟨A', c'⟩) hok hJ.inz hJ.low hr hc2 (fun k v _ hk => by rw [h0 k] at hk; cases hk) hB2.out (.inr (by omega)) ?_ (by rw [hl6]; exact hO2.out) (fun ad e => .inr ?_), rfl, hC.trans hc2 (fun x hx h2 => ?_), fun x hx => ?_, Rd.nil _ _, fun hne => absurd rfl hne⟩
        · rw [asV_some, h0, hm0]
          have e2 : (fun x => if x = id then some (Value.agg (msgC ⟨A', c'⟩ ⟨pd, wh, 1, now⟩)) else asV (cellsG s1 F) x) = fun x => if x = id then some (Value.agg #[.slice A' 6 c', .int .i64 (wh : Int), .int .i64 1, .int .i64 now]) else none := by
            funext x
            split
            · rw [msgC, hl6]; rfl
            · exact hmm.2 x
          rw [e2]
          exact hI3
        · exact (hNA.monoS (w0 := w1)).out ad e
        · rcases h2 with rfl | rfl
          · exact hJ.inz
          · omega
        · rcases hx with hx | hx
          · exact .inl hx
          · exact .inr (by have := hx.1; omega)
      | some g =>
        have hm2 : MapIV Try.prog 3 zMsg w1 g s1.m (asV (cellsG s1 F)) := hmm
        have hI : HMI Try.prog 3 zMsg w1 g s1.m (asV (cellsG s1 F)) := ⟨hm2⟩
        have hzg : z ≠ g := MapIV.no_blk hm2 hb
        have o1 : OffB (only g) z := ⟨fun e => hzg e⟩
        have o2 : OffB (only z) g := ⟨fun e => hzg e.symm⟩
        go_wp2_with (first | go_skip | ((with_reducible apply wpl_loadrow); exact rfl; infer_instance; infer_instance; (first | with_reducible assumption | (with_reducible exact H32.size _) | kernel_rfl)) | ((with_reducible apply wpl_loadcellN); exact rfl; infer_instance; exact rfl) | ((with_reducible apply wpl_storerow); exact rfl; exact rfl; infer_instance; infer_instance; (first | with_reducible assumption | (with_reducible exact H32.size _) | kernel_rfl); (first | with_reducible assumption | (with_reducible exact H32.size _) | kernel_rfl); (first | (with_reducible exact u8s_one _) | with_reducible assumption | kernel_rfl); intro ws _ _) | ((with_reducible apply wpl_storecell); exact rfl; exact rfl; infer_instance; exact rfl; (first | with_reducible assumption | omega | (focus (simp; done)) | (focus (simp; omega; done)) | decide); intro ws _ _))
        refine wp_region_N ((only g)) (by kernel_rfl) (fun wd _ _ => ?_)
        refine' takeH (i := 0) (v := _) rfl (by kernel_rfl) (by kernel_rfl) (by kernel_rfl) (fun _ _ _ h => h) (yields_of (by rfl) (fun w' _ => ?_)) inferInstance ?_
        rotate_left
        · (go_simp; try with_reducible rfl)
        try simp only [Act.put, sA]; try simp only [sB, sC]
        refine' takeH (i := 1) (v := _) rfl (by kernel_rfl) (by kernel_rfl) (by kernel_rfl) (fun _ _ _ h => h) (yields_of (by rfl) (fun w' _ => ?_)) inferInstance ?_
        rotate_left
        · (go_simp; try with_reducible rfl)
        try simp only [Act.put, sA]; try simp only [sB, sC]
        refine' takeH (i := 2) (v := _) rfl (by kernel_rfl) (by kernel_rfl) (by kernel_rfl) (fun _ _ _ h => h) (yields_of (by rfl) (fun w' _ => ?_)) inferInstance ?_
        rotate_left
        · (go_simp; try with_reducible rfl)
        try simp only [Act.put, sA]; try simp only [sB, sC]
        refine' takeH (i := 3) (v := _) rfl (by kernel_rfl) (by kernel_rfl) (by kernel_rfl) (fun _ _ _ h => h) (yields_of (by rfl) (fun w' _ => ?_)) inferInstance ?_
        rotate_left
        · (first | ((with_reducible apply (ev_loadB (t := 5))); exact rfl; infer_instance; infer_instance; (first | with_reducible assumption | omega)) | ((with_reducible apply ev_loadrow); exact rfl; infer_instance; infer_instance; (first | with_reducible assumption | (with_reducible exact H32.size _) | kernel_rfl)) | ((with_reducible apply ev_loadcellN); exact rfl; infer_instance; infer_instance; exact rfl) | ((with_reducible apply (ev_loadint (t := 3))); exact rfl; infer_instance; infer_instance; (first | with_reducible assumption | omega)) | ((with_reducible apply (ev_loadbyte (t := 5))); exact rfl; infer_instance; infer_instance; (first | with_reducible assumption | omega)) | (go_simp; try with_reducible rfl))
        try simp only [Act.put, sA]; try simp only [sB, sC]
        refine' takeH (i := 4) (v := _) rfl (by kernel_rfl) (by kernel_rfl) (by kernel_rfl) (fun _ _ _ h => h) (yields_of (by rfl) (fun w' _ => ?_)) inferInstance ?_
        rotate_left
        · (go_simp; try with_reducible rfl)
        try simp only [Act.put, sA]; try simp only [sB, sC]
        refine' takeH (i := 5) (v := _) rfl (by kernel_rfl) (by kernel_rfl) (by kernel_rfl) (fun _ _ _ h => h) (yields_of (by rfl) (fun w' _ => ?_)) inferInstance ?_
        rotate_left
        · (go_simp; try with_reducible rfl)
        try simp only [Act.put, sA]; try simp only [sB, sC]
        refine' takeH (i := 6) (v := _) rfl (by kernel_rfl) (by kernel_rfl) (by kernel_rfl) (fun _ _ _ h => h) (yields_of (by rfl) (fun w' _ => ?_)) inferInstance ?_
        rotate_left
        · (first | ((with_reducible apply ev_sl_lh); exact rfl; exact rfl; exact rfl; infer_instance; (first | with_reducible assumption | omega); (first | with_reducible assumption | omega)) | ((with_reducible apply ev_sl_h); exact rfl; exact rfl; infer_instance; (first | with_reducible assumption | omega)) | ((with_reducible apply ev_sl_l); exact rfl; exact rfl; infer_instance; (first | with_reducible assumption | omega)) | (go_simp; try with_reducible rfl))
        try simp only [Act.put, sA]; try simp only [sB, sC]
        refine' takeH (i := 8) (v := _) rfl (by kernel_rfl) (by kernel_rfl) (by kernel_rfl) (fun _ _ _ h => h) (yields_of (by rfl) (fun w' _ => ?_)) inferInstance ?_
        rotate_left
        · (go_simp; try with_reducible rfl)
        try simp only [Act.put, sA]; try simp only [sB, sC]
        refine' takeH (i := 9) (v := _) rfl (by kernel_rfl) (by kernel_rfl) (by kernel_rfl) (fun _ _ _ h => h) (yields_of (by rfl) (fun w' _ => ?_)) inferInstance ?_
        rotate_left
        · (go_simp; try with_reducible rfl)
        try simp only [Act.put, sA]; try simp only [sB, sC]
        refine goH (i := 7) (by kernel_rfl) rfl (fun K_ hK_ => ?_)
        go_simp
        refine (clone_calls (xs := pd) hl6 (by omega) (by omega)).mono ?_
        rintro e w2 ⟨A', c', rfl, hs2, hO, hNA⟩
        refine hK_.out _ _ inferInstance (fun _ => ?_)
        clear hK_ K_
        try simp only [Act.put, sA]; try simp only [sB, sC]
        refine' takeH (i := 10) (v := _) rfl (by kernel_rfl) (by kernel_rfl) (by kernel_rfl) (fun _ _ _ h => h) (yields_of (by rfl) (fun w' _ => ?_)) inferInstance ?_
        rotate_left
        · (first | ((with_reducible apply ev_build); exact run_msg _ _ _ _ _) | (go_simp; try with_reducible rfl))
        try simp only [Act.put, sA]; try simp only [sB, sC]
        refine goH (i := 11) (by kernel_rfl) rfl (fun K_ hK_ => ?_)
        rw [if_pos (by kernel_rfl)]
        refine wpr_of_list ?_
        (first | ((with_reducible apply wpl_build); (exact run_msg _ _ _ _ _)) | ((with_reducible apply wpl_putMI); exact rfl; exact rfl; exact rfl; infer_instance; infer_instance; (exact HGm.out); (exact hid); intro wp _ hI2) | ((with_reducible apply wpl_putMI); exact rfl; exact rfl; exact rfl; infer_instance; infer_instance; (first | with_reducible assumption | omega); (first | with_reducible assumption | (exact wfI (by omega) (by omega))); intro wp _ _))
        refine wpList_nil ?_
        unfold onlyN
        refine hK_.out _ _ inferInstance (fun _ => ?_)
        clear hK_ K_
        try simp only [Act.put]
        refine wpAnyH_done (by kernel_rfl) ?_ _
        go_wp2_with fail
        go_ret2
        have hc2 : Chg (only g) w1 wp := stepC.chg
        have hB2 : HB wp z 79 #[.map (some g), .int .i64 s1.N] := inferInstance
        have hI3 := hI2.out
        have hO2 : HO wp 5 1 A' 6 c' (bs pd) := inferInstance
        refine ⟨_, none, 0, put_close (q := ⟨A', c'⟩) hok hJ.inz hJ.low hr hc2 (fun k v _ hk ad e => own_no_map (hr.own k v hk) hm2 e) hB2.out (.inl (hg g rfl)) ?_ (by rw [hl6]; exact hO2.out) (fun ad e => .inr ?_), rfl, hC.trans hc2 (fun x _ hx => by rw [show x = g from hx]; exact hg g rfl), fun x hx => ?_, Rd.nil _ _, fun hne => absurd rfl hne⟩
        · show MapIV _ _ _ wp g _ (fun x => if x = id then some (.agg #[.slice A' pd.length c', .int .i64 (wh : Int), .int .i64 ((1 : Nat) : Int), .int .i64 now]) else _)
          rw [hl6]
          exact hI3
        · exact (hNA.monoS (w0 := w1)).out ad e
        · rcases hx with hx | hx
          · exact .inl hx
          · exact .inr (by have := hx.1; omega)
  · have hsp : firstS s id hi part now = errS s := by rw [firstS, if_pos (by omega)]
    rw [hsp]
    have b0 : ((n : Int) != 7) = true := bneT (by omega)
    go_enter Try.func30, Try.ntmps30
    go_wp2_with fail
    refine (err_calls h hN).mono ?_
    rintro e w1 ⟨rfl, hJ, hC⟩
    go_wp2_with fail
    go_ret2
    exact TkPost.err hJ hC
end Go.Proofs.Ytmeeopfdplaiaaa
