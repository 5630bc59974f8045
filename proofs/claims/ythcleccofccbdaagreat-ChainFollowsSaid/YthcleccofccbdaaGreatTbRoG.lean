/- RoG -/
import Derived.Test.YthcleccofccbdaaGreatTbRoF
open Go Go.RowKit
namespace Go.Proofs.YthcleccofccbdaaGreat
/-- what is decoded -/
def rtM (b : List UInt8) : Int × Int × List (List H32 × Int) × Int := if rtOk b then (rtV b, rtX b, kK (rtS b) 4, 0) else (0, 0, noK.map KR.m, 2)
def DecRt (b : List UInt8) (w : World) : Ending → World → Prop := fun e w' => Step nowhere w w' ∧ ∃ v x K err, e = .returned (.tuple #[.agg (rtL v x K).toArray, .int .i64 err]) ∧ Hid (K.length = 4 ∧ (v, x, K.map KR.m, err) = rtM b) ∧ Hid (KsIn w w' K)
theorem rootOk_m (v e : Int) (K : List KR) : rootB v e (K.map KR.m) = rootOk v e K := by
  rw [rootB, rootOk, List.all_map]
  rfl
set_option maxRecDepth 100000 in
set_option maxHeartbeats 3200000 in
theorem decRoot_calls {A : Option Addr} {n c : Nat} {b : List UInt8} {w : World} [hr : HR w A (bs b)] (hl : b.length = n) (hn : n ≤ 140737488351232) :
    Calls Tryz.prog 58 #[.int .i64 1, .slice A n c, .func (.func 56) #[] #[], .func (.func 59) #[] #[]] w (DecRt b w) := by
  obtain ⟨S, hS⟩ : ∃ S, S = kindS 1 b := ⟨_, rfl⟩
  obtain ⟨W, hW⟩ : ∃ W, W = wholeB (kAt (S.at 2) 4) := ⟨_, rfl⟩
  obtain ⟨V, hV⟩ : ∃ V, V = S.num.1 := ⟨_, rfl⟩
  obtain ⟨X, hX⟩ : ∃ X, X = (S.at 1).num.1 := ⟨_, rfl⟩
  obtain ⟨I, hI⟩ : ∃ I, I = rootB V X (kK (S.at 2) 4) := ⟨_, rfl⟩
  have hSl : S.b.length ≤ 140737488351232 := by
    have := kindS_le 1 b
    rw [← hS] at this
    omega
  have hM : rtM b = if W && I then ((V : Int), (X : Int), kK (S.at 2) 4, (0 : Int)) else (0, 0, noK.map KR.m, 2) := by
    rw [rtM, rtOk, rtV, rtX, rtS, ← hS, ← hW, ← hV, ← hX, ← hI]
  have HM := Lib.hid hM
  have HRR := Lib.hid hr.out
  have HS := Lib.hid hS
  have HW := Lib.hid hW
  have HI := Lib.hid hI
  have HV := Lib.hid hV
  have HX := Lib.hid hX
  have HLE := Lib.hid hl
  unfold DecRt
  clear hS hW hI hV hX hM
  go_enter Tryz.func58, Tryz.ntmps58
  go_wp2_with (first | ((with_reducible apply (wpl_alloc (dst := some 8))); intro zo wzo _ _ _))
  refine (NewReader_calls A n c b _ (HRR.out.later (stepN (w0 := w)).chg) HLE.out (by omega)).mono ?_
  rintro e w2 ⟨g, d, rfl, h2, c2, hg, hd⟩
  have st2 : Step nowhere _ w2 := ⟨c2.out⟩
  have hgw : w.heap.size ≤ g := Nat.le_trans (inferInstance : SzLe w wzo).out hg
  have hdw : w.heap.size ≤ d := Nat.le_trans (inferInstance : SzLe w wzo).out hd
  have hzol := (inferInstance : HB wzo zo 45 (rtL 0 0 noK).toArray).out.lt
  have hzo : w.heap.size ≤ zo := Nat.le_of_eq (inferInstance : Born w zo).eq.symm
  have ozg : OffB (only g) zo := ⟨fun e => by have e' : zo = g := e; omega⟩
  have ag : Above w (only g) := ⟨fun k h => by have h' : k = g := h; omega⟩
  go_wp2_with fail
  refine (Num_calls g d _ w2 h2.out (by show b.length ≤ _; have := HLE.out; omega)).mono ?_
  rintro e w3 ⟨rfl, h3, c3⟩
  have st3 : Step (only g) w2 w3 := ⟨c3.out⟩
  obtain ⟨q, hq⟩ : ∃ q, q = (⟨b, false⟩ : RS).num.1 := ⟨_, rfl⟩
  rw [← hq]
  clear c2 c3 h2
  by_cases hk : q = 1
  focus
    have HSS : Hid (RdrAt w3 g d S) := Lib.hid (by
      rw [HS.out, kindS, if_pos (by rw [← hq]; exact hk)]
      exact h3.out)
    have hqI : (q : Int) = 1 := by omega
    have hb3 : zo < w3.heap.size := Nat.lt_of_lt_of_le hzol (inferInstance : SzLe wzo w3).out
    have hs3 : w.heap.size ≤ w3.heap.size := (inferInstance : SzLe w w3).out
    clear h3 hq hk
    rw [hqI]
    clear hqI
    go_wp2_with fail
    refine (takeRoot_calls HSS.out hSl).mono ?_
    clear HSS
    generalize w3 = wB at *
  rotate_left
  focus
    have HSS0 : Hid (S = RS.bad) := Lib.hid (by rw [HS.out, kindS, if_neg (by rw [← hq]; exact hk)])
    have hqI : ((q : Int) == 1) = false := by simp; omega
    have hqJ : (q : Int) < 1 ∨ 1 < (q : Int) := by omega
    have H3 := h3
    clear h3 hq hk
    go_wp2_with fail
    refine (Bad_calls g d _ _ H3.out).mono ?_
    rintro e w3b ⟨rfl, h3b, c3b⟩
    have st3b : Step (only g) w3 w3b := ⟨c3b.out⟩
    have HSS : Hid (RdrAt w3b g d S) := Lib.hid (by rw [HSS0.out]; exact h3b.out)
    have hb3 : zo < w3b.heap.size := Nat.lt_of_lt_of_le hzol (inferInstance : SzLe wzo w3b).out
    have hs3 : w.heap.size ≤ w3b.heap.size := (inferInstance : SzLe w w3b).out
    clear h3b c3b H3
    go_wp2_with fail
    refine (takeRoot_calls HSS.out hSl).mono ?_
    clear HSS HSS0 hqI hqJ
    generalize w3b = wB at *
  rotate_left
  all_goals
    rw [← HV.out, ← HX.out]
    rintro e w4 ⟨K, rfl, st4, h4, hK4, hKs⟩
    have hlK := rtL_len V X K hK4.out.1
    have hoK := rtL_one V X K
    have ho4 : HB w4 zo 45 (rtL 0 0 noK).toArray := inferInstance
    have nw4 : Nw w w4 := inferInstance
    go_wp2_with (first | ((with_reducible apply (wpl_alloc (dst := some 11))); intro zt wzt _ _ _) | ((with_reducible apply wpl_storerow); (exact rfl); (exact rfl); infer_instance; infer_instance; (first | (with_reducible assumption) | (with_reducible exact H32.size _) | kernel_rfl); (first | (with_reducible assumption) | (with_reducible exact H32.size _) | kernel_rfl); (first | (with_reducible exact u8s_one _) | (with_reducible assumption) | kernel_rfl); intro ws _ _))
    have hzt4 : w4.heap.size ≤ zt := Nat.le_of_eq (inferInstance : Born w4 zt).eq.symm
    have hs4 : wB.heap.size ≤ w4.heap.size := st4.chg.size
    have izt : Into w4 (only zt) (only zo) := ⟨fun x hx h => by have h' : x = zt := h; omega⟩
    have hts : HB ws zt 45 (rtL V X K).toArray := inferInstance
    refine (Whole_calls g d (kAt (S.at 2) 4) _ (h4.out.chg (inferInstance : Nw w4 _).out (fun h => h) (fun h => h)) (by have h5 := kAt_le (S.at 2) 4; have h6 := S.at_le 2; omega)).mono ?_
    have e6 : (!(kAt (S.at 2) 4).e && decide ((kAt (S.at 2) 4).b = [])) = W := by rw [HW.out]; rfl
    rw [e6]
    rintro e w6 ⟨rfl, rfl⟩
    clear e6
    cases W
    case false =>
      go_wp2_with (first | ((with_reducible apply wpl_storerow); (exact rfl); (exact rfl); infer_instance; infer_instance; (exact rfl); (exact rfl); (exact rtL_one _ _ _); intro ws _ _) | ((with_reducible apply wpl_loadrow); (exact rfl); infer_instance; infer_instance; (exact rfl)) | ((with_reducible apply (wpl_alloc (dst := some 12))); intro zz wzz _ _ _))
      refine ret_row_ rfl rfl rfl (n := 10) rfl rfl ⟨stepN, 0, 0, noK, 2, rfl, Lib.hid ⟨rfl, HM.out.symm⟩, Lib.hid (KsIn.none _ _)⟩
    case true =>
      have n6 : Nw w4 w6 := inferInstance
      go_wp2_with (first | ((with_reducible apply wpl_loadrow); (exact rfl); (exact hts); infer_instance; (exact hlK)) | ((with_reducible apply (wpl_guard (op := .load _ _))); (exact rfl)))
      refine (isRoot_calls V X K hK4.out.1 (fun k hk => KIn.chg (hKs.out k hk).1 n6.out (fun _ _ h => h))).mono ?_
      rw [show rootOk V X K = I by rw [← rootOk_m, hK4.out.2, HI.out]]
      rintro e w7 ⟨rfl, _⟩
      cases I
      case false =>
        go_wp2_with (first | ((with_reducible apply wpl_storerow); (exact rfl); (exact rfl); infer_instance; infer_instance; (exact rfl); (exact rfl); (exact rtL_one _ _ _); intro ws _ _) | ((with_reducible apply wpl_loadrow); (exact rfl); infer_instance; infer_instance; (exact rfl)) | ((with_reducible apply (wpl_alloc (dst := some 12))); intro zz wzz _ _ _))
        refine ret_row_ rfl rfl rfl (n := 10) rfl rfl ⟨stepN, 0, 0, noK, 2, rfl, Lib.hid ⟨rfl, HM.out.symm⟩, Lib.hid (KsIn.none _ _)⟩
      case true =>
        have hts7 : HB w7 zt 45 (rtL V X K).toArray := inferInstance
        have ho7 : HB w7 zo 45 (rtL 0 0 noK).toArray := inferInstance
        go_wp2_with (first | ((with_reducible apply wpl_loadrow); (exact rfl); (exact hts7); infer_instance; (exact hlK)) | ((with_reducible apply wpl_storerow); (exact rfl); (exact rfl); infer_instance; infer_instance; (first | (with_reducible assumption) | (with_reducible exact H32.size _) | kernel_rfl); (first | (with_reducible assumption) | (with_reducible exact H32.size _) | kernel_rfl); (first | (with_reducible exact u8s_one _) | (with_reducible assumption) | kernel_rfl); intro ws _ _))
        refine ret_row_ rfl rfl rfl (n := 10) hlK rfl ⟨stepN, V, X, K, 0, rfl, Lib.hid ⟨hK4.out.1, ?_⟩, Lib.hid ?_⟩
        · rw [hK4.out.2]; exact HM.out.symm
        · exact KsIn.first (w1 := wB) (hKs.out.chg (inferInstance : Ch (only zo) w4 ws).out (fun x h => by have h' : x = zo := h; omega)) hs3
set_option maxRecDepth 100000 in
set_option maxHeartbeats 1600000 in
theorem DecodeRoot_calls {A : Option Addr} {n c : Nat} {b : List UInt8} {w : World} [hr : HR w A (bs b)] (hl : b.length = n) (hn : n ≤ 140737488351232) :
    Calls Tryz.prog 16 #[.slice A n c] w (DecRt b w) := by
  unfold DecRt
  go_enter Tryz.func16, Tryz.ntmps16
  go_wp2_with (first | ((with_reducible apply (wpl_alloc (dst := some 2))); intro zo wzo _ _ _))
  have hzol := (inferInstance : HB wzo zo 45 (rtL 0 0 noK).toArray).out.lt
  refine (decRoot_calls (b := b) hl hn).mono ?_
  rintro e w2 ⟨_, v, x, K, err, rfl, hK, hKs⟩
  have hlK := rtL_len v x K hK.out.1
  have hoK := rtL_one v x K
  have ho2 : HB w2 zo 45 (rtL 0 0 noK).toArray := inferInstance
  have hsz := (inferInstance : SzLe w wzo).out
  go_wp2_with (first | ((with_reducible apply wpl_storerow); (exact rfl); (exact rfl); infer_instance; infer_instance; (first | (with_reducible assumption) | (with_reducible exact H32.size _) | kernel_rfl); (first | (with_reducible assumption) | (with_reducible exact H32.size _) | kernel_rfl); (first | (with_reducible exact u8s_one _) | (with_reducible assumption) | kernel_rfl); intro ws _ _))
  refine ret_row_ rfl rfl rfl (n := 10) hlK rfl ⟨stepN, v, x, K, err, rfl, hK, Lib.hid ?_⟩
  exact KsIn.first (w1 := wzo) (hKs.out.chg (inferInstance : Step (only zo) w2 ws).chg (fun x h => by have h' : x = zo := h; omega)) hsz
end Go.Proofs.YthcleccofccbdaaGreat
