/- DrQ -/
import Derived.Test.YtmnapacibpnodaaGreatUeQmT
import Derived.Test.YtmnapacibpnodaaGreatUeKyJ
import Derived.Test.YtmnapacibpnodaaGreatUeQmR
import Derived.Test.YtmnapacibpnodaaGreatUeRoM
import Derived.Test.YtmnapacibpnodaaGreatUeTkM
open Go Go.RowKit
namespace Go.Proofs.YtmnapacibpnodaaGreat
section
variable {P : Program} {a : Act} {w : World} {dst : Option Tmp} {ty : TypeId} {pos : String} {after : Array Edge} {gd : Option (Nat × Bool)}
theorem ev_loadpartH2 {t : TypeId} {x : Operand} {g k : Nat} (hx : a.eval x = .pointer (some ⟨g, k, none⟩)) {tb : TypeId} {cs : Array Value} (hb : HB w g tb cs) (ht : RowT P t 32) {hh : H32} (hv : (cs.toList.drop k).take 32 = bs hh.l) :
    (execOp a.eval ⟨dst, .load t x, ty, pos, after, gd⟩).run P w = .ok (.value (.agg (u8s hh.l))) w := ev_loadpart hx hb ht (by decide) hv (by rw [bs_length, hh.len])
end
theorem i64_and7 (a : Int) : bits .and .i64 a 7 = a % 8 := by
  show IntKind.i64.wrap ((BitVec.ofInt 64 a &&& BitVec.ofInt 64 7).toNat : Int) = _
  have h1 : (BitVec.ofInt 64 7).toNat = 2 ^ 3 - 1 := by decide
  rw [BitVec.toNat_and, h1, Nat.and_two_pow_sub_one_eq_mod, BitVec.toNat_ofInt, IntKind.wrap_i64]
  omega
theorem i64_and1023 (a : Int) : bits .and .i64 a 1023 = a % 1024 := by
  show IntKind.i64.wrap ((BitVec.ofInt 64 a &&& BitVec.ofInt 64 1023).toNat : Int) = _
  have h1 : (BitVec.ofInt 64 1023).toNat = 2 ^ 10 - 1 := by decide
  rw [BitVec.toNat_and, h1, Nat.and_two_pow_sub_one_eq_mod, BitVec.toNat_ofInt, IntKind.wrap_i64]
  omega
theorem path_16 (seed : H32) (i : Nat) (hi : i < 16) : (pathA (leavesS seed) (i : Int)).length = 4 := by
  have h1 : ∀ (l : List H32) (m h d i : Nat), l.length = m → 2 ≤ m → halfN m = h → m = h + h → i < m → (∀ (l' : List H32) (i' : Nat), l'.length = h → i' < h → (pathL l' i').length = d) → (pathL l i).length = d + 1 := fun l m h d i hl h2 hh hm hi ih => by
    by_cases hlo : i < halfN l.length
    · rw [pathL_lo l i (by omega) hlo, List.length_append, List.length_singleton, ih _ i (by rw [List.length_take, hl, hh]; omega) (by rw [hl, hh] at hlo; exact hlo)]
    · rw [pathL_hi l i (by omega) hlo, List.length_append, List.length_singleton, ih _ _ (by rw [List.length_drop, hl, hh]; omega) (by rw [hl, hh]; rw [hl, hh] at hlo; omega)]
  rw [pathA, if_neg (by rw [leavesS_len]; omega)]
  exact h1 _ 16 8 3 i (leavesS_len seed) (by decide) (by decide) rfl hi fun l i hl hi => h1 l 8 4 2 i hl (by decide) (by decide) rfl hi fun l i hl hi => h1 l 4 2 1 i hl (by decide) (by decide) rfl hi fun l i hl hi => h1 l 2 1 0 i hl (by decide) (by decide) rfl hi fun l i hl hi => by rw [pathL_small _ _ (by omega)]; rfl
theorem sign_36 (seed : H32) (leaf : Int) (m : List UInt8) : (signS seed leaf m).length = 36 := by simp [signS, mapH]
/-- the law's report in bytes -/
def rpM (n : Int) : List UInt8 := repE [97] [] zeroH (n % 8) n
theorem rp_ok (n : Int) (h0 : 0 ≤ n) (h1 : n ≤ 100000) : repB [97] [] (n % 8) n = true := by
  have a : numB (n % 8) = true := by unfold numB; simp; omega
  have b : numB n = true := by unfold numB; simp; omega
  unfold repB
  rw [a, b]
  rfl
theorem rpM_len (n : Int) : (rpM n).length ≤ 100 := by
  have h1 := encAll_len [5]
  have h2 := encAll_len [n % 8, n]
  have h3 := encRow_le [97] (by decide)
  have h4 := encRow_le [] (by decide)
  unfold rpM repE
  simp only [List.length_append, zeroH.len]
  simp at h1 h2 h3 h4
  omega
theorem build_s1 (w : World) : (Instr.build 26 #[(0, .int .u8 1)]).run Tryz.prog w = .ok (.agg (u8s (seedN 1).l)) w := by kernel_rfl
theorem build_s2 (w : World) : (Instr.build 26 #[(0, .int .u8 2)]).run Tryz.prog w = .ok (.agg (u8s (seedN 2).l)) w := by kernel_rfl
theorem build_rp (c n : Int) (w : World) : (Instr.build 43 #[(0, .string ⟨#[97]⟩), (3, .int .i64 c), (4, .int .i64 n)]).run Tryz.prog w = .ok (.agg (repL ⟨#[97]⟩ ⟨#[]⟩ zeroH c n).toArray) w := by kernel_rfl
instance zeroEnv : ZeroT Tryz.prog 37 #[.slice none 0 0, .slice none 0 0] := ⟨.agg #[.slice none 0 0, .slice none 0 0], fun _ => by kernel_rfl, rfl⟩
/-- what the law's report is -/
def RpPost (w : World) (zk i u : Nat) (L : Option Addr) (lc : Nat) (n : Int) : Ending → World → Prop := fun e w' =>
  ∃ M nb cb A r, e = .returned (.agg #[.slice M nb cb, .slice A 1 1]) ∧ Step (only zk) w w' ∧ HB w' zk 33 (refL (seedN i) L 16 lc (pubN i) ((u : Int) + 1)).toArray ∧ HR w' M (bs (rpM n)) ∧ HR w' A (cellsOf [r]) ∧ NewA w M ∧ NewA w A ∧ NewA w r.A ∧ NewA w r.B ∧ Hid ((rpM n).length = nb ∧ nb ≤ cb ∧ MarkIn w' r ∧ markOf r = sigAt (rpM n) i u)
set_option maxRecDepth 100000 in
set_option maxHeartbeats 3200000 in
theorem report_calls {zk i u lc : Nat} {L : Option Addr} (n : Int) (hu : u < 16) (h0 : 0 ≤ n) (h1 : n ≤ 100000) (hlc : 16 ≤ lc) {w : World} [hk : HB w zk 33 (refL (seedN i) L 16 lc (pubN i) (u : Int)).toArray] [hL : HR w L (cellsOf (leavesS (seedN i)))] :
    Calls Tryz.prog 7 #[.string ⟨#[97]⟩, .pointer (some ⟨zk, 0, none⟩), .int .i64 n] w (RpPost w zk i u L lc n) := by
  have kb := build_rp (n % 8) n
  have hand := i64_and7 n
  have HOK := Lib.hid (rp_ok n h0 h1)
  have hp4 := path_16 (seedN i) u hu
  have hbl := rpM_len n
  obtain ⟨B, hB⟩ : ∃ B, B = rpM n := ⟨_, rfl⟩
  have HBQ := Lib.hid hB
  have HBE : Hid (B = encAll [5] ++ (encRow [97] ++ (encRow [] ++ (zeroH.l ++ encAll [n % 8, n])))) := Lib.hid hB
  rw [← hB] at hbl
  have HBL := Lib.hid hbl
  unfold RpPost
  rw [← hB]
  clear hB hbl
  go_enter Tryz.func7, Tryz.ntmps7
  go_wp2_with (first | ((with_reducible apply wpl_build); (exact kb _)) | ((with_reducible apply (wpl_alloc (dst := some 6))); intro z6 wz6 _ _ _))
  refine (rEncodeReport_calls ⟨#[97]⟩ ⟨#[]⟩ zeroH (n % 8) n [97] [] rfl rfl (by decide) (by decide) _).mono ?_
  rw [← HBE.out]
  rintro e w2 ⟨st2, hq⟩
  rw [if_pos HOK.out] at hq
  obtain ⟨M, nb, cb, rfl, hnb, hM, hnM⟩ := hq
  have hnw : NewA w M := NewA.monoS hnM
  have hcb : nb ≤ cb := by
    rcases hM.out.form with ⟨_, h2, h3, _⟩ | ⟨g, cur, _, _, h2, _⟩
    · omega
    · exact h2
  have HNB := Lib.hid hnb
  have HHL : Hid (B.length = nb) := Lib.hid hnb.symm
  have hn9 : nb ≤ 100000 := by
    have := HBL.out
    omega
  have o6M : OffA (only z6) M := inferInstance
  clear hnb hnM
  go_wp2_with fail
  refine (rksign_calls (zk := zk) (used := (u : Int)) HHL.out hn9 hlc (by omega) (by omega)).mono ?_
  rw [hp4]
  rintro e w7 ⟨B7, b7, A7, c7, rfl, st7, _, hnB, hnA, hS7, hP7⟩
  obtain ⟨S7, hS⟩ : ∃ S, S = signS (seedN i) u B := ⟨_, rfl⟩
  obtain ⟨P7, hP⟩ : ∃ Pa, Pa = pathA (leavesS (seedN i)) u := ⟨_, rfl⟩
  rw [← hS] at hS7
  rw [← hP] at hP7
  have HSL7 : S7.length = 36 := by rw [hS, sign_36]
  have HPL7 : P7.length = 4 := by rw [hP]; exact hp4
  have HS7 := Lib.hid hS
  have HP7 := Lib.hid hP
  have kb7 := run_mark ⟨pubN i, u, B7, b7, S7, A7, c7, P7⟩
  have kc7 := run_oneM ⟨pubN i, u, B7, b7, S7, A7, c7, P7⟩
  have kbE : ∀ (z : Nat) w, (Instr.build 37 #[(0, .slice M nb cb), (1, .slice (some ⟨z, 0, none⟩) 1 1)]).run Tryz.prog w = .ok (.agg #[.slice M nb cb, .slice (some ⟨z, 0, none⟩) 1 1]) w := fun _ _ => by kernel_rfl
  simp only [HSL7, HPL7] at kb7
  have nB9 : NewA w B7 := NewA.monoS hnB
  have nA9 : NewA w A7 := NewA.monoS hnA
  have o6B : OffA (only z6) B7 := inferInstance
  have o6A : OffA (only z6) A7 := inferInstance
  clear hS hP hnB hnA
  go_wp2_with (first | ((with_reducible apply (wpl_alloc (dst := some 9))); intro z9 wz9 _ _ _) | ((with_reducible apply wpl_storerow); (exact rfl); (exact rfl); infer_instance; infer_instance; (first | (with_reducible assumption) | (with_reducible exact H32.size _) | (with_reducible exact enc_sz _ rfl) | kernel_rfl); (first | (with_reducible assumption) | (with_reducible exact H32.size _) | (with_reducible exact enc_sz _ rfl) | kernel_rfl); (first | (with_reducible exact u8s_one _) | (with_reducible assumption) | (with_reducible exact enc_one _) | kernel_rfl); intro ws _ _))
  refine wp_region_N ((only z6)) (by kernel_rfl) (fun wd _ _ => ?_)
  refine' takeH (i := 0) (v := _) rfl (by kernel_rfl) (by kernel_rfl) (by kernel_rfl) (fun _ _ _ h => h) (yields_of (by rfl) (fun w' _ => ?_)) inferInstance ?_
  rotate_left
  · (go_simp; try with_reducible rfl)
  try simp only [Act.put, sA]; try simp only [sB, sC]
  refine' takeH (i := 1) (v := _) rfl (by kernel_rfl) (by kernel_rfl) (by kernel_rfl) (fun _ _ _ h => h) (yields_of (by rfl) (fun w' _ => ?_)) inferInstance ?_
  rotate_left
  · (go_simp; try with_reducible rfl)
  try simp only [Act.put, sA]; try simp only [sB, sC]
  refine' takeH (i := 2) (v := _) rfl (by kernel_rfl) (by kernel_rfl) (by kernel_rfl) (fun _ _ _ h => h) (yields_of (by rfl) (fun w' _ => ?_)) inferInstance ?_
  rotate_left
  · (go_simp; try with_reducible rfl)
  try simp only [Act.put, sA]; try simp only [sB, sC]
  refine' takeH (i := 3) (v := _) rfl (by kernel_rfl) (by kernel_rfl) (by kernel_rfl) (fun _ _ _ h => h) (yields_of (by rfl) (fun w' _ => ?_)) inferInstance ?_
  rotate_left
  · (go_simp; try with_reducible rfl)
  try simp only [Act.put, sA]; try simp only [sB, sC]
  refine' takeH (i := 4) (v := _) rfl (by kernel_rfl) (by kernel_rfl) (by kernel_rfl) (fun _ _ _ h => h) (yields_of (by rfl) (fun w' _ => ?_)) inferInstance ?_
  rotate_left
  · ((with_reducible apply (ev_loadpartH2 (t := 26) (k := 33))); (exact rfl); infer_instance; infer_instance; (exact ref_pub))
  try simp only [Act.put, sA]; try simp only [sB, sC]
  refine' takeH (i := 5) (v := _) rfl (by kernel_rfl) (by kernel_rfl) (by kernel_rfl) (fun _ _ _ h => h) (yields_of (by rfl) (fun w' _ => ?_)) inferInstance ?_
  rotate_left
  · ((with_reducible apply ev_loadrow); (exact rfl); infer_instance; infer_instance; (first | (with_reducible assumption) | (with_reducible exact H32.size _) | (with_reducible exact enc_sz _ rfl) | kernel_rfl))
  try simp only [Act.put, sA]; try simp only [sB, sC]
  refine' takeH (i := 6) (v := _) rfl (by kernel_rfl) (by kernel_rfl) (by kernel_rfl) (fun _ _ _ h => h) (yields_of (by rfl) (fun w' _ => ?_)) inferInstance ?_
  rotate_left
  · ((with_reducible apply ev_build); exact kb7 _)
  try simp only [Act.put, sA]; try simp only [sB, sC]
  refine goH (i := 7) (by kernel_rfl) rfl (fun K_ hK_ => ?_)
  rw [if_pos (by kernel_rfl)]
  refine wpr_of_list ?_
  (first | ((with_reducible apply (stop_dst (dst := some 32))); (try simp only [Act.put, sA, sB, sC]); ((with_reducible apply (wpl_build (dst := some 32))); (exact kb7 _))) | ((with_reducible apply (stop_dst (dst := some 33))); (try simp only [Act.put, sA, sB, sC]); ((with_reducible apply (wpl_bslice (dst := some 33))); (exact kc7 _); intro zm wb _ _ _)) | ((with_reducible apply wpl_build); (exact kbE _ _)))
  refine wpList_nil ?_
  unfold onlyN
  refine hK_.out _ _ inferInstance (fun _ => ?_)
  clear hK_ K_
  try simp only [Act.put, sA]; try simp only [sB, sC]
  refine' takeH (i := 8) (v := _) rfl (by kernel_rfl) (by kernel_rfl) (by kernel_rfl) (fun _ _ _ h => h) (yields_of (by rfl) (fun w' _ => ?_)) inferInstance ?_
  rotate_left
  · ((with_reducible apply ev_build); exact kbE _ _)
  try simp only [Act.put, sA]; try simp only [sB, sC]
  refine goH (i := 9) (by kernel_rfl) rfl (fun K_ hK_ => ?_)
  rw [if_pos (by kernel_rfl)]
  refine wpr_of_list ?_
  (first | ((with_reducible apply (stop_dst (dst := some 32))); (try simp only [Act.put, sA, sB, sC]); ((with_reducible apply (wpl_build (dst := some 32))); (exact kb7 _))) | ((with_reducible apply (stop_dst (dst := some 33))); (try simp only [Act.put, sA, sB, sC]); ((with_reducible apply (wpl_bslice (dst := some 33))); (exact kc7 _); intro zm wb _ _ _)) | ((with_reducible apply wpl_build); (exact kbE _ _)) | ((with_reducible apply wpl_storerow); (exact rfl); (exact rfl); infer_instance; infer_instance; (first | (with_reducible assumption) | (with_reducible exact H32.size _) | (with_reducible exact enc_sz _ rfl) | kernel_rfl); (first | (with_reducible assumption) | (with_reducible exact H32.size _) | (with_reducible exact enc_sz _ rfl) | kernel_rfl); (first | (with_reducible exact u8s_one _) | (with_reducible assumption) | (with_reducible exact enc_one _) | kernel_rfl); intro ws _ _) | ((with_reducible apply wpl_storecell); (exact rfl); (exact rfl); infer_instance; (exact rfl); (first | (with_reducible assumption) | omega | (focus (simp; done)) | (focus (simp; omega; done)) | decide); intro ws _ _) | ((with_reducible apply (wpl_storehash (t := 26))); (exact rfl); (exact rfl); infer_instance; infer_instance; (first | (with_reducible assumption) | omega | (focus (simp; done)) | (focus (simp; omega; done)) | decide); intro ws _ _) | ((with_reducible apply (wpl_storeint (t := 3))); (exact rfl); (exact rfl); infer_instance; (first | (with_reducible assumption) | omega); intro ws _ _) | ((with_reducible apply (wpl_storebyte (t := 5))); (exact rfl); (exact rfl); infer_instance; (first | (with_reducible assumption) | omega | (focus (simp; done)) | (focus (simp; omega; done)) | decide); (constructor <;> omega); intro ws _ _))
  refine wpList_nil ?_
  unfold onlyN
  refine hK_.out _ _ inferInstance (fun _ => ?_)
  clear hK_ K_
  try simp only [Act.put]
  refine wpAnyH_done (by kernel_rfl) ?_ _
  all_goals
    have hAm : HR ws (some ⟨zm, 0, none⟩) (cellsOf [(⟨pubN i, u, B7, b7, S7, A7, c7, P7⟩ : MarkR)]) := by
      have h1 : HB ws zm 67 (RowC.enc (⟨pubN i, u, B7, b7, S7, A7, c7, P7⟩ : MarkR)).toArray := inferInstance
      have h2 := HR.ofBlkL h1
      rwa [show cellsOf [(⟨pubN i, u, B7, b7, S7, A7, c7, P7⟩ : MarkR)] = (RowC.enc (⟨pubN i, u, B7, b7, S7, A7, c7, P7⟩ : MarkR)).toArray.toList by simp [cellsOf]]
    have hB7 : HR ws B7 (cellsOf S7) := inferInstance
    have hA7 : HR ws A7 (cellsOf P7) := inferInstance
    have hmk : markOf ⟨pubN i, u, B7, b7, S7, A7, c7, P7⟩ = sigAt B i u := by
      rw [markOf, HS7.out, HP7.out]
      rfl
    have hnm : NewA w (some ⟨zm, 0, none⟩) := ⟨fun ad e => by
      injection e with e
      subst e
      show w.heap.size ≤ zm
      rw [(inferInstance : Born _ zm).eq]
      exact (inferInstance : SzLe w _).out⟩
    have HFIN : Hid (B.length = nb ∧ nb ≤ cb ∧ MarkIn ws ⟨pubN i, u, B7, b7, S7, A7, c7, P7⟩ ∧ markOf ⟨pubN i, u, B7, b7, S7, A7, c7, P7⟩ = sigAt B i u) := Lib.hid ⟨HHL.out, hcb, ⟨hB7.out, hA7.out⟩, hmk⟩
    clear hmk
    go_wp2_with fail
    refine ret_row rfl rfl (n := 2) rfl rfl ?_
    exact ⟨M, nb, cb, some ⟨zm, 0, none⟩, ⟨pubN i, u, B7, b7, S7, A7, c7, P7⟩, rfl, stepC, inferInstance, inferInstance, hAm, hnw, hnm, nB9, nA9, HFIN⟩
end Go.Proofs.YtmnapacibpnodaaGreat
