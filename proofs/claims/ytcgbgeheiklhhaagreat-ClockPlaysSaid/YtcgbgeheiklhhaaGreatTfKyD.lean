/- KyD -/
import Derived.Test.YtcgbgeheiklhhaaGreatTfKyM
import Derived.Test.YtcgbgeheiklhhaaGreatTfOtQ
open Go Go.RowKit
namespace Go.Proofs.YtcgbgeheiklhhaaGreat
def verifyS (pub : H32) (m : List UInt8) (leaf : Int) (l p : List H32) : Bool := isS leaf l.length p.length && decide (nameS (upL (recoverS m l) leaf.toNat p) = pub)
set_option maxRecDepth 100000 in
set_option maxHeartbeats 1600000 in
theorem verifyW_calls {A B C : Option Addr} {n c nl cl np cp : Nat} {m : List UInt8} {l p : List H32} (pub : H32) (leaf : Int) {w : World} [HR w A (bs m)] [HR w B (cellsOf l)] [HR w C (cellsOf p)] (hm : m.length = n) (hc : n ≤ c) (hn : n ≤ 140737488351232) (hl : l.length = nl) (hp : p.length = np) :
    Calls Tryz.prog 90 #[.agg (u8s pub.l), .slice A n c, .agg #[.int .i64 leaf, .slice B nl cl, .slice C np cp]] w fun e w' => e = .returned (.bool (verifyS pub m leaf l p)) ∧ Step nowhere w w' := by
  cases hi : isS leaf nl np with
  | false =>
    have hs : verifyS pub m leaf l p = false := by rw [verifyS, hl, hp, hi]; rfl
    rw [hs]
    have HI := Lib.hid hi
    clear hs hi
    go_enter Tryz.func90, Tryz.ntmps90
    go_wp2_with (first | ((with_reducible apply (wpl_box_agg (dst := some 3))); (exact rfl); intro zp wzp _ _ _) | ((with_reducible apply (wpl_box_agg (dst := some 5))); (exact rfl); intro zs wzs _ _ _) | ((with_reducible apply wpl_loadrow); (exact rfl); infer_instance; infer_instance; (first | (with_reducible assumption) | (with_reducible exact H32.size _) | kernel_rfl)))
    refine (is_calls _).mono ?_
    rw [HI.out]
    rintro e w1 ⟨rfl, _⟩
    go_wp2_with fail
    go_ret
    exact ⟨rfl, stepN⟩
  | true =>
    have hi' := hi
    simp only [isS, Bool.and_eq_true, decide_eq_true_eq] at hi'
    obtain ⟨⟨⟨h0, h1⟩, rfl⟩, rfl⟩ := hi'
    obtain ⟨i, rfl⟩ : ∃ i : Nat, leaf = (i : Int) := ⟨leaf.toNat, by omega⟩
    obtain ⟨H, hH⟩ : ∃ H, H = recoverS m l := ⟨_, rfl⟩
    obtain ⟨U, hU⟩ : ∃ U, U = upL H i p := ⟨_, rfl⟩
    obtain ⟨N, hN⟩ : ∃ N, N = nameS U := ⟨_, rfl⟩
    have hs : verifyS pub m (i : Int) l p = decide (N = pub) := by rw [verifyS, hl, hp, hi, hN, hU, hH]; rfl
    rw [hs]
    have HI := Lib.hid hi
    have HH := Lib.hid hH
    have HU := Lib.hid hU
    have HN := Lib.hid hN
    have heq := eqlH
    clear hs hi hH hU hN
    go_enter Tryz.func90, Tryz.ntmps90
    go_wp2_with (first | ((with_reducible apply (wpl_box_agg (dst := some 3))); (exact rfl); intro zp wzp _ _ _) | ((with_reducible apply (wpl_box_agg (dst := some 5))); (exact rfl); intro zs wzs _ _ _) | ((with_reducible apply wpl_loadrow); (exact rfl); infer_instance; infer_instance; (first | (with_reducible assumption) | (with_reducible exact H32.size _) | kernel_rfl)))
    refine (is_calls _).mono ?_
    rw [HI.out]
    rintro e w1 ⟨rfl, _⟩
    go_wp2_with (first | ((with_reducible apply wpl_loadcellN); (exact rfl); infer_instance; (exact rfl)))
    refine (recoverW_calls hm hc hn hl).mono ?_
    rw [if_pos rfl, decide_eq_true rfl, ← HH.out]
    rintro e w2 ⟨rfl, _⟩
    go_wp2_with (first | ((with_reducible apply (wpl_alloc (dst := some 7))); intro z7 wz7 _ _ _) | ((with_reducible apply wpl_storerow); (exact rfl); (exact rfl); infer_instance; infer_instance; (first | (with_reducible assumption) | (with_reducible exact H32.size _) | kernel_rfl); (first | (with_reducible assumption) | (with_reducible exact H32.size _) | kernel_rfl); (first | (with_reducible exact u8s_one _) | (with_reducible assumption) | kernel_rfl); intro ws _ _))
    refine wp_region_N (nowhere) (by kernel_rfl) (fun wd _ _ => ?_)
    refine' takeH (i := 0) (v := _) rfl (by kernel_rfl) (by kernel_rfl) (by kernel_rfl) (fun _ _ _ h => h) (yields_of (by rfl) (fun w' _ => ?_)) inferInstance ?_
    rotate_left
    · (go_simp; try with_reducible rfl)
    try simp only [Act.put, sA]; try simp only [sB, sC]
    refine' takeH (i := 1) (v := _) rfl (by kernel_rfl) (by kernel_rfl) (by kernel_rfl) (fun _ _ _ h => h) (yields_of (by rfl) (fun w' _ => ?_)) inferInstance ?_
    rotate_left
    · (go_simp; try with_reducible rfl)
    try simp only [Act.put, sA]; try simp only [sB, sC]
    refine' takeH (i := 2) (v := _) rfl (by kernel_rfl) (by kernel_rfl) (by kernel_rfl) (fun _ _ _ h => h) (yields_of (by rfl) (fun w' _ => ?_)) inferInstance ?_
    rotate_left
    · ((with_reducible apply ev_loadrow); (exact rfl); infer_instance; infer_instance; (first | (with_reducible assumption) | (with_reducible exact H32.size _) | kernel_rfl))
    try simp only [Act.put, sA]; try simp only [sB, sC]
    refine' takeH (i := 3) (v := _) rfl (by kernel_rfl) (by kernel_rfl) (by kernel_rfl) (fun _ _ _ h => h) (yields_of (by rfl) (fun w' _ => ?_)) inferInstance ?_
    rotate_left
    · (go_simp; try with_reducible rfl)
    try simp only [Act.put, sA]; try simp only [sB, sC]
    refine' takeH (i := 4) (v := _) rfl (by kernel_rfl) (by kernel_rfl) (by kernel_rfl) (fun _ _ _ h => h) (yields_of (by rfl) (fun w' _ => ?_)) inferInstance ?_
    rotate_left
    · ((with_reducible apply ev_loadcellN); (exact rfl); infer_instance; infer_instance; (exact rfl))
    try simp only [Act.put, sA]; try simp only [sB, sC]
    refine' takeH (i := 5) (v := _) rfl (by kernel_rfl) (by kernel_rfl) (by kernel_rfl) (fun _ _ _ h => h) (yields_of (by rfl) (fun w' _ => ?_)) inferInstance ?_
    rotate_left
    · (go_simp; try with_reducible rfl)
    try simp only [Act.put, sA]; try simp only [sB, sC]
    refine' takeH (i := 6) (v := _) rfl (by kernel_rfl) (by kernel_rfl) (by kernel_rfl) (fun _ _ _ h => h) (yields_of (by rfl) (fun w' _ => ?_)) inferInstance ?_
    rotate_left
    · ((with_reducible apply ev_loadcellN); (exact rfl); infer_instance; infer_instance; (exact rfl))
    try simp only [Act.put, sA]; try simp only [sB, sC]
    refine' takeH (i := 9) (v := _) rfl (by kernel_rfl) (by kernel_rfl) (by kernel_rfl) (fun _ _ _ h => h) (yields_of (by rfl) (fun w' _ => ?_)) inferInstance ?_
    rotate_left
    · ((with_reducible apply ev_loadrow); (exact rfl); infer_instance; infer_instance; (first | (with_reducible assumption) | (with_reducible exact H32.size _) | kernel_rfl))
    try simp only [Act.put, sA]; try simp only [sB, sC]
    refine goH (i := 7) (by kernel_rfl) rfl (fun K_ hK_ => ?_)
    go_simp
    refine (upC H i hp (by decide) (by omega)).mono ?_
    rw [← HU.out]
    rintro e w5 ⟨rfl, _⟩
    refine hK_.out _ _ inferInstance (fun _ => ?_)
    clear hK_ K_
    try simp only [Act.put, sA]; try simp only [sB, sC]
    refine goH (i := 8) (by kernel_rfl) rfl (fun K_ hK_ => ?_)
    go_simp
    refine (name_calls U _).mono ?_
    rw [← HN.out]
    rintro e w6 ⟨rfl, _⟩
    refine hK_.out _ _ inferInstance (fun _ => ?_)
    clear hK_ K_
    try simp only [Act.put, sA]; try simp only [sB, sC]
    refine' takeH (i := 10) (v := _) rfl (by kernel_rfl) (by kernel_rfl) (by kernel_rfl) (fun _ _ _ h => h) (yields_of (by rfl) (fun w' _ => ?_)) inferInstance ?_
    rotate_left
    · (go_simp; try with_reducible rfl)
    try simp only [Act.put, sA]; try simp only [sB, sC]
    refine' takeH (i := 11) (v := _) rfl (by kernel_rfl) (by kernel_rfl) (by kernel_rfl) (fun _ _ _ h => h) (yields_of (by rfl) (fun w' _ => ?_)) inferInstance ?_
    rotate_left
    · (go_simp; try with_reducible rfl)
    try simp only [Act.put, sA]; try simp only [sB, sC]
    refine' takeH (i := 12) (v := _) rfl (by kernel_rfl) (by kernel_rfl) (by kernel_rfl) (fun _ _ _ h => h) (yields_of (by rfl) (fun w' _ => ?_)) inferInstance ?_
    rotate_left
    · (go_simp; try with_reducible rfl)
    try simp only [Act.put, sA]; try simp only [sB, sC]
    refine wpAnyH_done (by kernel_rfl) ?_ _
    go_wp2_with fail
    go_ret
    exact ⟨rfl, stepN⟩
set_option maxRecDepth 100000 in
set_option maxHeartbeats 1600000 in
theorem rverifyW_calls {A B C : Option Addr} {n c nl cl np cp : Nat} {m : List UInt8} {l p : List H32} (pub : H32) (leaf : Int) {w : World} [HR w A (bs m)] [HR w B (cellsOf l)] [HR w C (cellsOf p)] (hm : m.length = n) (hn : n ≤ 140737488351232) (hl : l.length = nl) (hp : p.length = np) :
    Calls Tryz.prog 73 #[.agg (u8s pub.l), .slice A n c, .agg #[.int .i64 leaf, .slice B nl cl, .slice C np cp]] w fun e w' => e = .returned (.bool (verifyS pub m leaf l p)) ∧ Step nowhere w w' := by
  cases hi : isS leaf nl np with
  | false =>
    have hs : verifyS pub m leaf l p = false := by rw [verifyS, hl, hp, hi]; rfl
    rw [hs]
    have HI := Lib.hid hi
    clear hs hi
    go_enter Tryz.func73, Tryz.ntmps73
    go_wp2_with (first | ((with_reducible apply (wpl_box_agg (dst := some 3))); (exact rfl); intro zp wzp _ _ _) | ((with_reducible apply (wpl_box_agg (dst := some 5))); (exact rfl); intro zs wzs _ _ _) | ((with_reducible apply wpl_loadrow); (exact rfl); infer_instance; infer_instance; (first | (with_reducible assumption) | (with_reducible exact H32.size _) | kernel_rfl)))
    refine (ris_calls _).mono ?_
    rw [HI.out]
    rintro e w1 ⟨rfl, _⟩
    go_wp2_with fail
    go_ret
    exact ⟨rfl, stepN⟩
  | true =>
    have hi' := hi
    simp only [isS, Bool.and_eq_true, decide_eq_true_eq] at hi'
    obtain ⟨⟨⟨h0, h1⟩, rfl⟩, rfl⟩ := hi'
    obtain ⟨i, rfl⟩ : ∃ i : Nat, leaf = (i : Int) := ⟨leaf.toNat, by omega⟩
    obtain ⟨H, hH⟩ : ∃ H, H = recoverS m l := ⟨_, rfl⟩
    obtain ⟨U, hU⟩ : ∃ U, U = upL H i p := ⟨_, rfl⟩
    obtain ⟨N, hN⟩ : ∃ N, N = nameS U := ⟨_, rfl⟩
    have hs : verifyS pub m (i : Int) l p = decide (N = pub) := by rw [verifyS, hl, hp, hi, hN, hU, hH]; rfl
    rw [hs]
    have HI := Lib.hid hi
    have HH := Lib.hid hH
    have HU := Lib.hid hU
    have HN := Lib.hid hN
    have heq := eqlH
    clear hs hi hH hU hN
    go_enter Tryz.func73, Tryz.ntmps73
    go_wp2_with (first | ((with_reducible apply (wpl_box_agg (dst := some 3))); (exact rfl); intro zp wzp _ _ _) | ((with_reducible apply (wpl_box_agg (dst := some 5))); (exact rfl); intro zs wzs _ _ _) | ((with_reducible apply wpl_loadrow); (exact rfl); infer_instance; infer_instance; (first | (with_reducible assumption) | (with_reducible exact H32.size _) | kernel_rfl)))
    refine (ris_calls _).mono ?_
    rw [HI.out]
    rintro e w1 ⟨rfl, _⟩
    go_wp2_with (first | ((with_reducible apply wpl_loadcellN); (exact rfl); infer_instance; (exact rfl)))
    refine (rrecoverW_calls hm hn hl).mono ?_
    rw [if_pos rfl, decide_eq_true rfl, ← HH.out]
    rintro e w2 ⟨rfl, _⟩
    go_wp2_with (first | ((with_reducible apply (wpl_alloc (dst := some 7))); intro z7 wz7 _ _ _) | ((with_reducible apply wpl_storerow); (exact rfl); (exact rfl); infer_instance; infer_instance; (first | (with_reducible assumption) | (with_reducible exact H32.size _) | kernel_rfl); (first | (with_reducible assumption) | (with_reducible exact H32.size _) | kernel_rfl); (first | (with_reducible exact u8s_one _) | (with_reducible assumption) | kernel_rfl); intro ws _ _))
    refine wp_region_N (nowhere) (by kernel_rfl) (fun wd _ _ => ?_)
    refine' takeH (i := 0) (v := _) rfl (by kernel_rfl) (by kernel_rfl) (by kernel_rfl) (fun _ _ _ h => h) (yields_of (by rfl) (fun w' _ => ?_)) inferInstance ?_
    rotate_left
    · ((with_reducible apply ev_loadrow); (exact rfl); infer_instance; infer_instance; (first | (with_reducible assumption) | (with_reducible exact H32.size _) | kernel_rfl))
    try simp only [Act.put, sA]; try simp only [sB, sC]
    refine' takeH (i := 1) (v := _) rfl (by kernel_rfl) (by kernel_rfl) (by kernel_rfl) (fun _ _ _ h => h) (yields_of (by rfl) (fun w' _ => ?_)) inferInstance ?_
    rotate_left
    · (go_simp; try with_reducible rfl)
    try simp only [Act.put, sA]; try simp only [sB, sC]
    refine' takeH (i := 2) (v := _) rfl (by kernel_rfl) (by kernel_rfl) (by kernel_rfl) (fun _ _ _ h => h) (yields_of (by rfl) (fun w' _ => ?_)) inferInstance ?_
    rotate_left
    · ((with_reducible apply ev_loadcellN); (exact rfl); infer_instance; infer_instance; (exact rfl))
    try simp only [Act.put, sA]; try simp only [sB, sC]
    refine' takeH (i := 3) (v := _) rfl (by kernel_rfl) (by kernel_rfl) (by kernel_rfl) (fun _ _ _ h => h) (yields_of (by rfl) (fun w' _ => ?_)) inferInstance ?_
    rotate_left
    · (go_simp; try with_reducible rfl)
    try simp only [Act.put, sA]; try simp only [sB, sC]
    refine' takeH (i := 4) (v := _) rfl (by kernel_rfl) (by kernel_rfl) (by kernel_rfl) (fun _ _ _ h => h) (yields_of (by rfl) (fun w' _ => ?_)) inferInstance ?_
    rotate_left
    · ((with_reducible apply ev_loadcellN); (exact rfl); infer_instance; infer_instance; (exact rfl))
    try simp only [Act.put, sA]; try simp only [sB, sC]
    refine' takeH (i := 7) (v := _) rfl (by kernel_rfl) (by kernel_rfl) (by kernel_rfl) (fun _ _ _ h => h) (yields_of (by rfl) (fun w' _ => ?_)) inferInstance ?_
    rotate_left
    · ((with_reducible apply ev_loadrow); (exact rfl); infer_instance; infer_instance; (first | (with_reducible assumption) | (with_reducible exact H32.size _) | kernel_rfl))
    try simp only [Act.put, sA]; try simp only [sB, sC]
    refine goH (i := 5) (by kernel_rfl) rfl (fun K_ hK_ => ?_)
    go_simp
    refine (rupC H i hp (by decide) (by omega)).mono ?_
    rw [← HU.out]
    rintro e w5 ⟨rfl, _⟩
    refine hK_.out _ _ inferInstance (fun _ => ?_)
    clear hK_ K_
    try simp only [Act.put, sA]; try simp only [sB, sC]
    refine goH (i := 6) (by kernel_rfl) rfl (fun K_ hK_ => ?_)
    go_simp
    refine (rname_calls U _).mono ?_
    rw [← HN.out]
    rintro e w6 ⟨rfl, _⟩
    refine hK_.out _ _ inferInstance (fun _ => ?_)
    clear hK_ K_
    try simp only [Act.put, sA]; try simp only [sB, sC]
    refine' takeH (i := 8) (v := _) rfl (by kernel_rfl) (by kernel_rfl) (by kernel_rfl) (fun _ _ _ h => h) (yields_of (by rfl) (fun w' _ => ?_)) inferInstance ?_
    rotate_left
    · (go_simp; try with_reducible rfl)
    try simp only [Act.put, sA]; try simp only [sB, sC]
    refine' takeH (i := 9) (v := _) rfl (by kernel_rfl) (by kernel_rfl) (by kernel_rfl) (fun _ _ _ h => h) (yields_of (by rfl) (fun w' _ => ?_)) inferInstance ?_
    rotate_left
    · (go_simp; try with_reducible rfl)
    try simp only [Act.put, sA]; try simp only [sB, sC]
    refine wpAnyH_done (by kernel_rfl) ?_ _
    go_wp2_with fail
    go_ret
    exact ⟨rfl, stepN⟩
theorem sameS_self (a : Int) (l p : List H32) : sameS a l p a l p = true := by simp [sameS]
end Go.Proofs.YtcgbgeheiklhhaaGreat
