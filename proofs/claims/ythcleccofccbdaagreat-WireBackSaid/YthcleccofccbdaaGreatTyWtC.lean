/- WtC -/
import Derived.Test.YthcleccofccbdaaGreatTyRrC
open Go Go.RowKit
namespace Go.Proofs.YthcleccofccbdaaGreat
/-- what is left behind the kind -/
def kindS (kind : Nat) (b : List UInt8) : RS := if (⟨b, false⟩ : RS).num.1 = kind then (⟨b, false⟩ : RS).num.2 else RS.bad
theorem kindS_le (kind : Nat) (b : List UInt8) : (kindS kind b).b.length ≤ b.length := by
  unfold kindS
  split
  · exact RS.num_le ⟨b, false⟩
  · exact Nat.zero_le _
def wholeB (s : RS) : Bool := !s.e && decide (s.b = [])
theorem tR_le (s : RS) : (tR s).b.length ≤ s.b.length := Nat.le_trans ((s.at 3).raw_l 32) (s.at_le 3)
def tOk (b : List UInt8) : Bool := wholeB (tR (kindS 2 b)) && timB (tV (kindS 2 b)) (tE (kindS 2 b)) (tS (kindS 2 b))
/-- what is decoded -/
def timD (b : List UInt8) : Array Value := (timL (tV (kindS 2 b)) (tE (kindS 2 b)) (tS (kindS 2 b)) (tH (kindS 2 b))).toArray
def DecT (b : List UInt8) (w : World) : Ending → World → Prop := fun e w' => Step nowhere w w' ∧ e = .returned (if tOk b then .tuple #[.agg (timD b), .int .i64 0] else .tuple #[.agg (timL 0 0 0 zeroH).toArray, .int .i64 2])
set_option maxRecDepth 100000 in
set_option maxHeartbeats 1600000 in
theorem decTime_calls {A : Option Addr} {n c : Nat} {b : List UInt8} {w : World} [hr : HR w A (bs b)] (hl : b.length = n) (hn : n ≤ 140737488351232) :
    Calls Tryz.prog 60 #[.int .i64 2, .slice A n c, .func (.func 61) #[] #[], .func (.func 62) #[] #[]] w (DecT b w) := by
  obtain ⟨S, hS⟩ : ∃ S, S = kindS 2 b := ⟨_, rfl⟩
  obtain ⟨W, hW⟩ : ∃ W, W = wholeB (tR S) := ⟨_, rfl⟩
  obtain ⟨I, hI⟩ : ∃ I, I = timB (tV S) (tE S) (tS S) := ⟨_, rfl⟩
  have hSl : S.b.length ≤ 140737488351232 := by
    have := kindS_le 2 b
    rw [← hS] at this
    omega
  have hok : tOk b = (W && I) := by rw [tOk, ← hS, hW, hI]
  have hD : timD b = (timL (tV S) (tE S) (tS S) (tH S)).toArray := by rw [timD, ← hS]
  obtain ⟨V, hV⟩ : ∃ V, V = tV S := ⟨_, rfl⟩
  obtain ⟨E, hE⟩ : ∃ E, E = tE S := ⟨_, rfl⟩
  obtain ⟨N, hN⟩ : ∃ N, N = tS S := ⟨_, rfl⟩
  obtain ⟨H, hH⟩ : ∃ H, H = tH S := ⟨_, rfl⟩
  rw [← hV, ← hE, ← hN] at hI
  rw [← hV, ← hE, ← hN, ← hH] at hD
  have HRR := Lib.hid hr.out
  have HS := Lib.hid hS
  have HW := Lib.hid hW
  have HI := Lib.hid hI
  have HV := Lib.hid hV
  have HE := Lib.hid hE
  have HN := Lib.hid hN
  have HH := Lib.hid hH
  have HLE := Lib.hid hl
  unfold DecT
  rw [hok, hD]
  clear hS hW hI hV hE hN hH hok hD
  go_enter Tryz.func60, Tryz.ntmps60
  go_wp2_with (first | ((with_reducible apply (wpl_alloc (dst := some 8))); intro zo wzo _ _ _))
  refine (NewReader_calls A n c b _ (HRR.out.later (stepN (w0 := w)).chg) HLE.out (by omega)).mono ?_
  rintro e w2 ⟨g, d, rfl, h2, c2, hg, hd⟩
  have st2 : Step nowhere _ w2 := ⟨c2.out⟩
  have hgw : w.heap.size ≤ g := Nat.le_trans (inferInstance : SzLe w wzo).out hg
  have hdw : w.heap.size ≤ d := Nat.le_trans (inferInstance : SzLe w wzo).out hd
  have hzol := (inferInstance : HB wzo zo 49 (timL 0 0 0 zeroH).toArray).out.lt
  have ozg : OffB (only g) zo := ⟨fun e => by have e' : zo = g := e; omega⟩
  have ag : Above w (only g) := ⟨fun k h => by have h' : k = g := h; omega⟩
  go_wp2_with fail
  refine (Num_calls g d _ w2 h2.out (by show b.length ≤ _; have := HLE.out; omega)).mono ?_
  rintro e w3 ⟨rfl, h3, c3⟩
  have st3 : Step (only g) w2 w3 := ⟨c3.out⟩
  obtain ⟨q, hq⟩ : ∃ q, q = (⟨b, false⟩ : RS).num.1 := ⟨_, rfl⟩
  rw [← hq]
  clear c2 c3 h2
  by_cases hk : q = 2
  · have HSS : Hid (RdrAt w3 g d S) := Lib.hid (by
      rw [HS.out, kindS, if_pos (by rw [← hq]; exact hk)]
      exact h3.out)
    have hqI : (q : Int) = 2 := by omega
    clear h3 hq hk
    rw [hqI]
    clear hqI
    go_wp2_with fail
    refine (takeTime_calls HSS.out hSl).mono ?_
    rw [← HV.out, ← HE.out, ← HN.out, ← HH.out]
    rintro e w4 ⟨rfl, st4, h4⟩
    have HR4 := Lib.hid h4
    clear h4
    go_wp2_with (first | ((with_reducible apply wpl_storerow); (exact rfl); (exact rfl); infer_instance; infer_instance; (exact timL_len _ _ _ _); (exact timL_len _ _ _ _); (exact timL_one _ _ _ _); intro ws _ _) | ((with_reducible apply (wpl_alloc (dst := some 11))); intro zt wzt _ _ _))
    refine (Whole_calls g d (tR S) _ (HR4.out.chg (inferInstance : Nw w4 _).out (fun h => h) (fun h => h)) (by have := tR_le S; omega)).mono ?_
    have e6 : (!(tR S).e && decide ((tR S).b = [])) = W := by rw [HW.out]; rfl
    rw [e6]
    rintro e w6 ⟨rfl, rfl⟩
    clear e6
    cases W
    case false =>
      go_wp2_with (first | ((with_reducible apply wpl_storerow); (exact rfl); (exact rfl); infer_instance; infer_instance; (exact timL_len _ _ _ _); (exact timL_len _ _ _ _); (exact timL_one _ _ _ _); intro ws _ _) | ((with_reducible apply wpl_loadrow); (exact rfl); infer_instance; infer_instance; (exact timL_len _ _ _ _)) | ((with_reducible apply (wpl_alloc (dst := some 12))); intro zz wzz _ _ _))
      refine ret_row_ rfl rfl rfl (n := 35) (timL_len _ _ _ _) rfl ?_
      exact ⟨stepN, rfl⟩
    case true =>
      go_wp2_with (first | ((with_reducible apply wpl_loadrow); (exact rfl); infer_instance; infer_instance; (exact timL_len _ _ _ _)) | ((with_reducible apply (wpl_guard (op := .load _ _))); (exact rfl)))
      refine (isTime_calls V E N H _).mono ?_
      rw [← HI.out]
      rintro e w7 ⟨rfl, _⟩
      cases I
      case false =>
        go_wp2_with (first | ((with_reducible apply wpl_storerow); (exact rfl); (exact rfl); infer_instance; infer_instance; (exact timL_len _ _ _ _); (exact timL_len _ _ _ _); (exact timL_one _ _ _ _); intro ws _ _) | ((with_reducible apply wpl_loadrow); (exact rfl); infer_instance; infer_instance; (exact timL_len _ _ _ _)) | ((with_reducible apply (wpl_alloc (dst := some 12))); intro zz wzz _ _ _))
        refine ret_row_ rfl rfl rfl (n := 35) (timL_len _ _ _ _) rfl ?_
        exact ⟨stepN, rfl⟩
      case true =>
        go_wp2_with (first | ((with_reducible apply wpl_storerow); (exact rfl); (exact rfl); infer_instance; infer_instance; (exact timL_len _ _ _ _); (exact timL_len _ _ _ _); (exact timL_one _ _ _ _); intro ws _ _) | ((with_reducible apply wpl_loadrow); (exact rfl); infer_instance; infer_instance; (exact timL_len _ _ _ _)))
        refine ret_row_ rfl rfl rfl (n := 35) (timL_len _ _ _ _) rfl ?_
        exact ⟨stepN, rfl⟩
  · have HSS0 : Hid (S = RS.bad) := Lib.hid (by rw [HS.out, kindS, if_neg (by rw [← hq]; exact hk)])
    have hqI : ((q : Int) == 2) = false := by simp; omega
    have hqJ : (q : Int) < 2 ∨ 2 < (q : Int) := by omega
    have H3 := h3
    clear h3 hq hk
    go_wp2_with fail
    refine (Bad_calls g d _ _ H3.out).mono ?_
    rintro e w3b ⟨rfl, h3b, c3b⟩
    have st3b : Step (only g) w3 w3b := ⟨c3b.out⟩
    have HSS : Hid (RdrAt w3b g d S) := Lib.hid (by rw [HSS0.out]; exact h3b.out)
    clear h3b c3b H3
    go_wp2_with fail
    refine (takeTime_calls HSS.out hSl).mono ?_
    rw [← HV.out, ← HE.out, ← HN.out, ← HH.out]
    rintro e w4 ⟨rfl, st4, h4⟩
    have HR4 := Lib.hid h4
    clear h4
    go_wp2_with (first | ((with_reducible apply wpl_storerow); (exact rfl); (exact rfl); infer_instance; infer_instance; (exact timL_len _ _ _ _); (exact timL_len _ _ _ _); (exact timL_one _ _ _ _); intro ws _ _) | ((with_reducible apply (wpl_alloc (dst := some 11))); intro zt wzt _ _ _))
    refine (Whole_calls g d (tR S) _ (HR4.out.chg (inferInstance : Nw w4 _).out (fun h => h) (fun h => h)) (by have := tR_le S; omega)).mono ?_
    have e6 : (!(tR S).e && decide ((tR S).b = [])) = W := by rw [HW.out]; rfl
    rw [e6]
    rintro e w6 ⟨rfl, rfl⟩
    clear e6
    cases W
    case false =>
      go_wp2_with (first | ((with_reducible apply wpl_storerow); (exact rfl); (exact rfl); infer_instance; infer_instance; (exact timL_len _ _ _ _); (exact timL_len _ _ _ _); (exact timL_one _ _ _ _); intro ws _ _) | ((with_reducible apply wpl_loadrow); (exact rfl); infer_instance; infer_instance; (exact timL_len _ _ _ _)) | ((with_reducible apply (wpl_alloc (dst := some 12))); intro zz wzz _ _ _))
      refine ret_row_ rfl rfl rfl (n := 35) (timL_len _ _ _ _) rfl ?_
      exact ⟨stepN, rfl⟩
    case true =>
      go_wp2_with (first | ((with_reducible apply wpl_loadrow); (exact rfl); infer_instance; infer_instance; (exact timL_len _ _ _ _)) | ((with_reducible apply (wpl_guard (op := .load _ _))); (exact rfl)))
      refine (isTime_calls V E N H _).mono ?_
      rw [← HI.out]
      rintro e w7 ⟨rfl, _⟩
      cases I
      case false =>
        go_wp2_with (first | ((with_reducible apply wpl_storerow); (exact rfl); (exact rfl); infer_instance; infer_instance; (exact timL_len _ _ _ _); (exact timL_len _ _ _ _); (exact timL_one _ _ _ _); intro ws _ _) | ((with_reducible apply wpl_loadrow); (exact rfl); infer_instance; infer_instance; (exact timL_len _ _ _ _)) | ((with_reducible apply (wpl_alloc (dst := some 12))); intro zz wzz _ _ _))
        refine ret_row_ rfl rfl rfl (n := 35) (timL_len _ _ _ _) rfl ?_
        exact ⟨stepN, rfl⟩
      case true =>
        go_wp2_with (first | ((with_reducible apply wpl_storerow); (exact rfl); (exact rfl); infer_instance; infer_instance; (exact timL_len _ _ _ _); (exact timL_len _ _ _ _); (exact timL_one _ _ _ _); intro ws _ _) | ((with_reducible apply wpl_loadrow); (exact rfl); infer_instance; infer_instance; (exact timL_len _ _ _ _)))
        refine ret_row_ rfl rfl rfl (n := 35) (timL_len _ _ _ _) rfl ?_
        exact ⟨stepN, rfl⟩
set_option maxRecDepth 100000 in
theorem DecodeTime_calls {A : Option Addr} {n c : Nat} {b : List UInt8} {w : World} [hr : HR w A (bs b)] (hl : b.length = n) (hn : n ≤ 140737488351232) :
    Calls Tryz.prog 17 #[.slice A n c] w (DecT b w) := by
  obtain ⟨O, hO⟩ : ∃ O, O = tOk b := ⟨_, rfl⟩
  obtain ⟨D, hD⟩ : ∃ D, D = timD b := ⟨_, rfl⟩
  have hDl : D.size = 35 := by rw [hD]; exact timL_len _ _ _ _
  have hDo : D.all (·.oneCell') = true := by rw [hD]; exact timL_one _ _ _ _
  have HO1 := Lib.hid hO
  have HD1 := Lib.hid hD
  have HLE := Lib.hid hl
  unfold DecT
  rw [← hO, ← hD]
  clear hO hD hl
  go_enter Tryz.func17, Tryz.ntmps17
  go_wp2_with (first | ((with_reducible apply (wpl_alloc (dst := some 2))); intro zo wzo _ _ _))
  refine (decTime_calls HLE.out hn).mono ?_
  rintro e w2 ⟨_, h2⟩
  rw [← HO1.out, ← HD1.out] at h2
  cases O
  case false =>
    obtain rfl : e = _ := h2
    go_wp2_with (first | ((with_reducible apply wpl_storerow); (exact rfl); (exact rfl); infer_instance; infer_instance; (exact timL_len _ _ _ _); (exact timL_len _ _ _ _); (exact timL_one _ _ _ _); intro ws _ _))
    refine ret_row_ rfl rfl rfl (n := 35) (timL_len _ _ _ _) rfl ?_
    exact ⟨stepN, rfl⟩
  case true =>
    obtain rfl : e = _ := h2
    go_wp2_with (first | ((with_reducible apply wpl_storerow); (exact rfl); (exact rfl); infer_instance; infer_instance; (exact hDl); (exact timL_len _ _ _ _); (exact hDo); intro ws _ _))
    refine ret_row_ rfl rfl rfl (n := 35) hDl rfl ?_
    exact ⟨stepN, rfl⟩
end Go.Proofs.YthcleccofccbdaaGreat
