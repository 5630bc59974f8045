/- CkE -/
import Derived.Test.YtcgbgeheiklhhaaGreatTfCkC
import Derived.Test.YtcgbgeheiklhhaaGreatTfCkD
open Go Go.RowKit
namespace Go.Proofs.YtcgbgeheiklhhaaGreat
theorem mark_one {w : World} {r : MarkR} [a : HR w r.A (cellsOf r.l)] [b : HR w r.B (cellsOf r.p)] : ∀ q ∈ [r], MarkIn w q := fun q hq => by
  obtain rfl := List.mem_singleton.1 hq
  exact ⟨a.out, b.out⟩
/-- what checking an attestation of this seed's clock tells -/
theorem check_good {M A : Option Addr} {n c : Nat} {r : MarkR} {N seed : H32} {used nonce now : Int} (asked : Int) {w : World} [HR w M (bs (bodyS nonce now))] [HR w A (cellsOf [r])] [HR w r.A (cellsOf r.l)] [HR w r.B (cellsOf r.p)]
    (hN : N = pubS seed) (hby : ByKey r seed used (bodyS nonce now)) (h0 : 0 ≤ used) (h16 : used < 16) (hn : numC nonce = true) (hw : numC now = true) (hlen : (bodyS nonce now).length = n) (hcap : n ≤ c) :
    Calls Tryz.prog 10 #[.agg (u8s N.l), .agg #[.slice M n c, .slice A 1 1], .int .i64 asked] w fun e w' => e = .returned (.tuple #[.int .i64 (if nonce = asked then now else 0), .int .i64 (if nonce = asked then 0 else 5)]) ∧ Step nowhere w w' := by
  subst hN
  refine (check_calls (l := [r]) (pubS seed) asked mark_one rfl (Nat.le_refl _) (show 1 ≤ 9223372036854775807 by decide) hlen hcap (by have := body_len nonce now; omega)).mono ?_
  rw [meets_key (bodyS nonce now) r seed used hby h0 h16, chk_yes nonce now asked hn hw]
  rintro e w1 ⟨rfl, h⟩
  refine ⟨?_, h⟩
  by_cases e : nonce = asked
  · rw [if_pos e, if_pos e, if_pos e]
  · rw [if_neg e, if_neg e, if_neg e]
theorem offB_key {w : World} {zk z : Nat} {seed : H32} {used : Int} (h : KeyAt w zk seed used) (b : Born w z) : OffB (only zk) z := ⟨fun e => by
  have h1 := h.lt
  have h2 := b.eq
  have h3 : z = zk := e
  omega⟩
set_option maxRecDepth 100000 in
set_option maxHeartbeats 1600000 in
theorem ckKnown_calls (w : World) : Calls Tryz.prog 12 #[] w fun e w' => e = .returned (.bool true) ∧ Step nowhere w w' := by
  have kb1 : ∀ w, (Instr.build 23 #[(0, .int .u8 1)]).run Tryz.prog w = .ok (.agg (u8s oneH.l)) w := fun _ => by kernel_rfl
  obtain ⟨N, hN⟩ : ∃ N, N = pubS oneH := ⟨_, rfl⟩
  have HN := Lib.hid hN
  clear hN
  go_enter Tryz.func12, Tryz.ntmps12
  go_wp2_with (first | ((with_reducible apply wpl_build); (exact kb1 _)))
  refine (ckNew_calls oneH _).mono ?_
  rintro e w1 ⟨zc, zk, rfl, _, hnc, hnk, _, _, _⟩
  go_wp2_with fail
  refine (attest_calls (zk := zk) 5 9 (by decide) (by decide) (Int.le_refl 0)).mono ?_
  rintro e w2 (⟨h, _⟩ | ⟨_, M, n, c, za, r, rfl, _, hk2, hln, hcap, _, _, _, _, hby, hap, hbz⟩)
  · omega
  obtain ⟨_, _, _, _, _, _, _, _, _, _, _⟩ := hap
  have HLN := Lib.hid hln
  have HBY := Lib.hid hby
  clear hln hby
  go_wp2_with (first | ((with_reducible apply (wpl_alloc (dst := some 2))); intro ze wze _ _ _) | ((with_reducible apply wpl_storerow); (exact rfl); (exact rfl); infer_instance; infer_instance; (first | (with_reducible assumption) | (with_reducible exact H32.size _) | (with_reducible exact enc_sz _ rfl) | kernel_rfl); (first | (with_reducible assumption) | (with_reducible exact H32.size _) | (with_reducible exact enc_sz _ rfl) | kernel_rfl); (first | (with_reducible exact u8s_one _) | (with_reducible assumption) | (with_reducible exact enc_one _) | kernel_rfl); intro ws _ _))
  have oe : OffB (only zk) ze := offB_key hk2 inferInstance
  refine wp_region_I (KI zk oneH (0 + 1)) ((only zk)) (by kernel_rfl) inferInstance (fun wd _ _ => ?_)
  refine' takeH (i := 0) (v := _) rfl (by kernel_rfl) (by kernel_rfl) (by kernel_rfl) (fun _ _ _ h => h) (yields_ofI (by rfl) (fun w' _ => ?_)) inferInstance ?_
  rotate_left
  · (go_simp; try with_reducible rfl)
  try simp only [Act.put, sA]; try simp only [sB, sC]
  refine' takeH (i := 2) (v := _) rfl (by kernel_rfl) (by kernel_rfl) (by kernel_rfl) (fun _ _ _ h => h) (yields_ofI (by rfl) (fun w' _ => ?_)) inferInstance ?_
  rotate_left
  · ((with_reducible apply ev_loadrow); (exact rfl); infer_instance; infer_instance; (first | (with_reducible assumption) | (with_reducible exact H32.size _) | (with_reducible exact enc_sz _ rfl) | kernel_rfl))
  try simp only [Act.put, sA]; try simp only [sB, sC]
  refine goH (i := 1) (by kernel_rfl) rfl (fun K_ hK_ => ?_)
  go_simp
  refine (ckPublic_calls (zk := zk)).mono ?_
  rw [← HN.out]
  rintro e w5 ⟨rfl, _, _⟩
  refine hK_.out _ _ inferInstance (fun _ => ?_)
  clear hK_ K_
  try simp only [Act.put, sA]; try simp only [sB, sC]
  refine goH (i := 3) (by kernel_rfl) rfl (fun K_ hK_ => ?_)
  go_simp
  refine (check_good 6 HN.out HBY.out (by decide) (by decide) (by decide) (by decide) HLN.out hcap).mono ?_
  rintro e w6 ⟨rfl, _⟩
  refine hK_.out _ _ inferInstance (fun _ => ?_)
  clear hK_ K_
  try simp only [Act.put, sA]; try simp only [sB, sC]
  refine' takeH (i := 4) (v := _) rfl (by kernel_rfl) (by kernel_rfl) (by kernel_rfl) (fun _ _ _ h => h) (yields_ofI (by rfl) (fun w' _ => ?_)) inferInstance ?_
  rotate_left
  · (go_simp; try with_reducible rfl)
  try simp only [Act.put, sA]; try simp only [sB, sC]
  refine' takeH (i := 5) (v := _) rfl (by kernel_rfl) (by kernel_rfl) (by kernel_rfl) (fun _ _ _ h => h) (yields_ofI (by rfl) (fun w' _ => ?_)) inferInstance ?_
  rotate_left
  · (go_simp; try with_reducible rfl)
  try simp only [Act.put, sA]; try simp only [sB, sC]
  refine' takeH (i := 6) (v := _) rfl (by kernel_rfl) (by kernel_rfl) (by kernel_rfl) (fun _ _ _ h => h) (yields_ofI (by rfl) (fun w' _ => ?_)) inferInstance ?_
  rotate_left
  · (go_simp; try with_reducible rfl)
  try simp only [Act.put, sA]; try simp only [sB, sC]
  refine' takeH (i := 7) (v := _) rfl (by kernel_rfl) (by kernel_rfl) (by kernel_rfl) (fun _ _ _ h => h) (yields_ofI (by rfl) (fun w' _ => ?_)) inferInstance ?_
  rotate_left
  · (go_simp; try with_reducible rfl)
  try simp only [Act.put, sA]; try simp only [sB, sC]
  refine' takeH (i := 8) (v := _) rfl (by kernel_rfl) (by kernel_rfl) (by kernel_rfl) (fun _ _ _ h => h) (yields_ofI (by rfl) (fun w' _ => ?_)) inferInstance ?_
  rotate_left
  · (go_simp; try with_reducible rfl)
  try simp only [Act.put, sA]; try simp only [sB, sC]
  refine wpAnyH_done (by kernel_rfl) ?_ _
  go_wp2_with fail
  refine wp_region_I (KI zk oneH (0 + 1)) ((only zk)) (by kernel_rfl) inferInstance (fun wd _ _ => ?_)
  refine' takeH (i := 0) (v := _) rfl (by kernel_rfl) (by kernel_rfl) (by kernel_rfl) (fun _ _ _ h => h) (yields_ofI (by rfl) (fun w' _ => ?_)) inferInstance ?_
  rotate_left
  · (go_simp; try with_reducible rfl)
  try simp only [Act.put, sA]; try simp only [sB, sC]
  refine' takeH (i := 2) (v := _) rfl (by kernel_rfl) (by kernel_rfl) (by kernel_rfl) (fun _ _ _ h => h) (yields_ofI (by rfl) (fun w' _ => ?_)) inferInstance ?_
  rotate_left
  · ((with_reducible apply ev_loadrow); (exact rfl); infer_instance; infer_instance; (first | (with_reducible assumption) | (with_reducible exact H32.size _) | (with_reducible exact enc_sz _ rfl) | kernel_rfl))
  try simp only [Act.put, sA]; try simp only [sB, sC]
  refine goH (i := 1) (by kernel_rfl) rfl (fun K_ hK_ => ?_)
  go_simp
  refine (ckPublic_calls (zk := zk)).mono ?_
  rw [← HN.out]
  rintro e w7 ⟨rfl, _, _⟩
  refine hK_.out _ _ inferInstance (fun _ => ?_)
  clear hK_ K_
  try simp only [Act.put, sA]; try simp only [sB, sC]
  refine goH (i := 3) (by kernel_rfl) rfl (fun K_ hK_ => ?_)
  go_simp
  refine (check_good 5 HN.out HBY.out (by decide) (by decide) (by decide) (by decide) HLN.out hcap).mono ?_
  rintro e w8 ⟨rfl, _⟩
  refine hK_.out _ _ inferInstance (fun _ => ?_)
  clear hK_ K_
  try simp only; try simp only [sB, sC]
  refine' takeH (i := 4) (v := _) rfl (by kernel_rfl) (by kernel_rfl) (by kernel_rfl) (fun _ _ _ h => h) (yields_ofI (by rfl) (fun w' _ => ?_)) inferInstance ?_
  rotate_left
  · (go_simp; try with_reducible rfl)
  try simp only [Act.put, sA]; try simp only [sB, sC]
  refine' takeH (i := 5) (v := _) rfl (by kernel_rfl) (by kernel_rfl) (by kernel_rfl) (fun _ _ _ h => h) (yields_ofI (by rfl) (fun w' _ => ?_)) inferInstance ?_
  rotate_left
  · (go_simp; try with_reducible rfl)
  try simp only [Act.put, sA]; try simp only [sB, sC]
  refine' takeH (i := 6) (v := _) rfl (by kernel_rfl) (by kernel_rfl) (by kernel_rfl) (fun _ _ _ h => h) (yields_ofI (by rfl) (fun w' _ => ?_)) inferInstance ?_
  rotate_left
  · (go_simp; try with_reducible rfl)
  try simp only [Act.put, sA]; try simp only [sB, sC]
  refine' takeH (i := 7) (v := _) rfl (by kernel_rfl) (by kernel_rfl) (by kernel_rfl) (fun _ _ _ h => h) (yields_ofI (by rfl) (fun w' _ => ?_)) inferInstance ?_
  rotate_left
  · (go_simp; try with_reducible rfl)
  try simp only [Act.put, sA]; try simp only [sB, sC]
  refine' takeH (i := 8) (v := _) rfl (by kernel_rfl) (by kernel_rfl) (by kernel_rfl) (fun _ _ _ h => h) (yields_ofI (by rfl) (fun w' _ => ?_)) inferInstance ?_
  rotate_left
  · (go_simp; try with_reducible rfl)
  try simp only [Act.put, sA]; try simp only [sB, sC]
  refine wpAnyH_done (by kernel_rfl) ?_ _
  go_wp2_with fail
  go_ret
  exact ⟨rfl, stepN⟩
end Go.Proofs.YtcgbgeheiklhhaaGreat
