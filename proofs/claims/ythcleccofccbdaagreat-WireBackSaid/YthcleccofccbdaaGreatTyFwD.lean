/- SnD, FwD -/
import Derived.Test.YthcleccofccbdaaGreatTyTgM
import Derived.Test.YthcleccofccbdaaGreatTyWtC
import Derived.Test.YthcleccofccbdaaGreatTyFwB
import Derived.Test.YthcleccofccbdaaGreatTyRoJ
section
open Go Go.RowKit
namespace Go.Proofs.YthcleccofccbdaaGreat
/-- what is decoded -/
def snM (b : List UInt8) : Int × Int × List PinR × Int := if snOk b then (snV b, snX b, snP b, 0) else (0, 0, [], 2)
def DecSn (b : List UInt8) (w : World) : Ending → World → Prop := fun e w' => Step nowhere w w' ∧ ∃ v x A n c P err, e = .returned (.tuple #[.agg #[.int .i64 v, .int .i64 x, .slice A n c], .int .i64 err]) ∧ Hid ((v, x, P, err) = snM b ∧ P.length = n ∧ n ≤ c ∧ n ≤ 16) ∧ Hid (Rd w' A (cellsOf P)) ∧ NewA w A
set_option maxRecDepth 100000 in
set_option maxHeartbeats 3200000 in
theorem decSnap_calls {A : Option Addr} {n c : Nat} {b : List UInt8} {w : World} [hr : HR w A (bs b)] (hl : b.length = n) (hn : n ≤ 140737488351232) :
    Calls Tryz.prog 65 #[.int .i64 3, .slice A n c, .func (.func 66) #[] #[], .func (.func 67) #[] #[]] w (DecSn b w) := by
  obtain ⟨S, hS⟩ : ∃ S, S = kindS 3 b := ⟨_, rfl⟩
  obtain ⟨W, hW⟩ : ∃ W, W = wholeB (lstS pinTk 16 (S.at 2)) := ⟨_, rfl⟩
  obtain ⟨V, hV⟩ : ∃ V, V = S.num.1 := ⟨_, rfl⟩
  obtain ⟨X, hX⟩ : ∃ X, X = (S.at 1).num.1 := ⟨_, rfl⟩
  obtain ⟨P, hP⟩ : ∃ P, P = lstL pinTk 16 (S.at 2) := ⟨_, rfl⟩
  obtain ⟨I, hI⟩ : ∃ I, I = snapOk V X P := ⟨_, rfl⟩
  have hSl : S.b.length ≤ 140737488351232 := by
    have := kindS_le 3 b
    rw [← hS] at this
    omega
  have hM : snM b = if W && I then ((V : Int), (X : Int), P, (0 : Int)) else (0, 0, [], 2) := by
    rw [snM, snOk, snR, snP, snV, snX, snS, ← hS, ← hW, ← hV, ← hX, ← hP, ← hI]
  have HM := Lib.hid hM
  have HRR := Lib.hid hr.out
  have HS := Lib.hid hS
  have HW := Lib.hid hW
  have HI := Lib.hid hI
  have HV := Lib.hid hV
  have HX := Lib.hid hX
  have HP := Lib.hid hP
  have HLE := Lib.hid hl
  unfold DecSn
  clear hS hW hI hV hX hM hP
  go_enter Tryz.func65, Tryz.ntmps65
  go_wp2_with (first | ((with_reducible apply (wpl_alloc (dst := some 8))); intro zo wzo _ _ _))
  refine (NewReader_calls A n c b _ (HRR.out.later (stepN (w0 := w)).chg) HLE.out (by omega)).mono ?_
  rintro e w2 ⟨g, d, rfl, h2, c2, hg, hd⟩
  have st2 : Step nowhere _ w2 := ⟨c2.out⟩
  have hgw : w.heap.size ≤ g := Nat.le_trans (inferInstance : SzLe w wzo).out hg
  have hdw : w.heap.size ≤ d := Nat.le_trans (inferInstance : SzLe w wzo).out hd
  have hzol := (inferInstance : HB wzo zo 52 #[.int .i64 0, .int .i64 0, .slice none 0 0]).out.lt
  have hzo : w.heap.size ≤ zo := Nat.le_of_eq (inferInstance : Born w zo).eq.symm
  have ozg : OffB (only g) zo := ⟨fun e => by have e' : zo = g := e; omega⟩
  have ag : Above w (only g) := ⟨fun k h => by have h' : k = g := h; omega⟩
  go_wp2_with fail
  refine (Num_calls g d _ w2 h2.out (by show b.length ≤ _; have := HLE.out; omega)).mono ?_
  rintro e w3 ⟨rfl, h3, c3⟩
  have st3 : Step (only g) w2 w3 := ⟨c3.out⟩
  obtain ⟨q, hq⟩ : ∃ q, q = (⟨b, false⟩ : RS).num.1 := ⟨_, rfl⟩
  rw [← hq]
  clear c2 c3 h2
  by_cases hk : q = 3
  focus
    have HSS : Hid (RdrAt w3 g d S) := Lib.hid (by
      rw [HS.out, kindS, if_pos (by rw [← hq]; exact hk)]
      exact h3.out)
    have hqI : (q : Int) = 3 := by omega
    have hb3 : zo < w3.heap.size := Nat.lt_of_lt_of_le hzol (inferInstance : SzLe wzo w3).out
    have hs3 : w.heap.size ≤ w3.heap.size := (inferInstance : SzLe w w3).out
    clear h3 hq hk
    rw [hqI]
    clear hqI
    go_wp2_with fail
    refine (takeSnap_calls HSS.out hSl).mono ?_
    clear HSS
    generalize w3 = wB at *
  rotate_left
  focus
    have HSS0 : Hid (S = RS.bad) := Lib.hid (by rw [HS.out, kindS, if_neg (by rw [← hq]; exact hk)])
    have hqI : ((q : Int) == 3) = false := by simp; omega
    have hqJ : (q : Int) < 3 ∨ 3 < (q : Int) := by omega
    have H3 := h3
    clear h3 hq hk
    go_wp2_with fail
    refine (Bad_calls g d _ _ H3.out).mono ?_
    rintro e w3b ⟨rfl, h3b, c3b⟩
    have st3b : Step (only g) w3 w3b := ⟨c3b.out⟩
    have HSS : Hid (RdrAt w3b g d S) := Lib.hid (by rw [HSS0.out]; exact h3b.out)
    have hb3 : zo < w3b.heap.size := Nat.lt_of_lt_of_le hzol (inferInstance : SzLe wzo w3b).out
    have hs3 : w.heap.size ≤ w3b.heap.size := (inferInstance : SzLe w w3b).out
    clear h3b c3b H3
    go_wp2_with fail
    refine (takeSnap_calls HSS.out hSl).mono ?_
    clear HSS HSS0 hqI hqJ
    generalize w3b = wB at *
  rotate_left
  all_goals
    rw [← HV.out, ← HX.out, ← HP.out]
    rintro e w4 ⟨A4, n4, c4, rfl, st4, h4, hr4, hA4, hn4⟩
    have ho4 : HB w4 zo 52 #[.int .i64 0, .int .i64 0, .slice none 0 0] := inferInstance
    have nw4 : Nw w w4 := inferInstance
    go_wp2_with (first | ((with_reducible apply (wpl_alloc (dst := some 11))); intro zt wzt _ _ _) | ((with_reducible apply wpl_storerow); (exact rfl); (exact rfl); infer_instance; infer_instance; (first | (with_reducible assumption) | (with_reducible exact H32.size _) | kernel_rfl); (first | (with_reducible assumption) | (with_reducible exact H32.size _) | kernel_rfl); (first | (with_reducible exact u8s_one _) | (with_reducible assumption) | kernel_rfl); intro ws _ _))
    have hzt4 : w4.heap.size ≤ zt := Nat.le_of_eq (inferInstance : Born w4 zt).eq.symm
    have hs4 : wB.heap.size ≤ w4.heap.size := st4.chg.size
    have izt : Into w4 (only zt) (only zo) := ⟨fun x hx h => by have h' : x = zt := h; omega⟩
    have hts : HB ws zt 52 #[.int .i64 V, .int .i64 X, .slice A4 n4 c4] := inferInstance
    refine (Whole_calls g d (lstS pinTk 16 (S.at 2)) _ (h4.out.chg (inferInstance : Nw w4 _).out (fun h => h) (fun h => h)) (by have h5 := pinTakes.lstS_le 16 (S.at 2); have h6 := S.at_le 2; omega)).mono ?_
    have e6 : (!(lstS pinTk 16 (S.at 2)).e && decide ((lstS pinTk 16 (S.at 2)).b = [])) = W := by rw [HW.out]; rfl
    rw [e6]
    rintro e w6 ⟨rfl, rfl⟩
    clear e6
    cases W
    case false =>
      go_wp2_with (first | ((with_reducible apply (wpl_alloc (dst := some 12))); intro zz wzz _ _ _) | ((with_reducible apply wpl_loadrow); (exact rfl); infer_instance; infer_instance; (first | (with_reducible assumption) | (with_reducible exact H32.size _) | kernel_rfl)) | ((with_reducible apply wpl_storerow); (exact rfl); (exact rfl); infer_instance; infer_instance; (first | (with_reducible assumption) | (with_reducible exact H32.size _) | kernel_rfl); (first | (with_reducible assumption) | (with_reducible exact H32.size _) | kernel_rfl); (first | (with_reducible exact u8s_one _) | (with_reducible assumption) | kernel_rfl); intro ws _ _))
      refine ret_row_ rfl rfl rfl (n := 3) rfl rfl ⟨stepN, 0, 0, none, 0, 0, [], 2, rfl, Lib.hid ⟨HM.out.symm, rfl, Nat.le_refl _, Nat.zero_le _⟩, Lib.hid (Rd.nil _ _), newA_none _⟩
    case true =>
      have hr6 : HR w6 A4 (cellsOf P) := inferInstance
      have n6 : Nw w4 w6 := inferInstance
      go_wp2_with (first | ((with_reducible apply (wpl_guard (op := .load _ _))); (exact rfl)) | ((with_reducible apply wpl_loadrow); (exact rfl); infer_instance; infer_instance; (first | (with_reducible assumption) | (with_reducible exact H32.size _) | kernel_rfl)))
      refine (isSnap_calls V X (P := P) hn4.out.1 (by have := hn4.out.2.2; omega)).mono ?_
      rw [← HI.out]
      rintro e w7 ⟨rfl, _⟩
      cases I
      case false =>
        go_wp2_with (first | ((with_reducible apply (wpl_alloc (dst := some 12))); intro zz wzz _ _ _) | ((with_reducible apply wpl_loadrow); (exact rfl); infer_instance; infer_instance; (first | (with_reducible assumption) | (with_reducible exact H32.size _) | kernel_rfl)) | ((with_reducible apply wpl_storerow); (exact rfl); (exact rfl); infer_instance; infer_instance; (first | (with_reducible assumption) | (with_reducible exact H32.size _) | kernel_rfl); (first | (with_reducible assumption) | (with_reducible exact H32.size _) | kernel_rfl); (first | (with_reducible exact u8s_one _) | (with_reducible assumption) | kernel_rfl); intro ws _ _))
        refine ret_row_ rfl rfl rfl (n := 3) rfl rfl ⟨stepN, 0, 0, none, 0, 0, [], 2, rfl, Lib.hid ⟨HM.out.symm, rfl, Nat.le_refl _, Nat.zero_le _⟩, Lib.hid (Rd.nil _ _), newA_none _⟩
      case true =>
        have hts7 : HB w7 zt 52 #[.int .i64 V, .int .i64 X, .slice A4 n4 c4] := inferInstance
        have ho7 : HB w7 zo 52 #[.int .i64 0, .int .i64 0, .slice none 0 0] := inferInstance
        have hr7 : Rd w7 A4 (cellsOf P) := hr4.out.chg (inferInstance : Nw w4 w7).out (fun _ _ _ h => h)
        have HR7 := Lib.hid hr7
        clear hr7 hr6
        go_wp2_with (first | ((with_reducible apply wpl_loadrow); (exact rfl); infer_instance; infer_instance; (first | (with_reducible assumption) | (with_reducible exact H32.size _) | kernel_rfl)) | ((with_reducible apply wpl_storerow); (exact rfl); (exact rfl); infer_instance; infer_instance; (first | (with_reducible assumption) | (with_reducible exact H32.size _) | kernel_rfl); (first | (with_reducible assumption) | (with_reducible exact H32.size _) | kernel_rfl); (first | (with_reducible exact u8s_one _) | (with_reducible assumption) | kernel_rfl); intro ws _ _))
        refine ret_row_ rfl rfl rfl (n := 3) rfl rfl ⟨stepN, V, X, A4, n4, c4, P, 0, rfl, Lib.hid ⟨HM.out.symm, hn4.out.1, hn4.out.2.1, hn4.out.2.2⟩, Lib.hid ?_, ⟨fun ad e => Nat.le_trans hs3 (hA4.out ad e)⟩⟩
        exact HR7.out.chg (inferInstance : Step (only zo) w7 ws).chg (fun _ ad e h => by
          have h' : ad.block = zo := h
          have := hA4.out ad e
          omega)
set_option maxRecDepth 100000 in
set_option maxHeartbeats 1600000 in
theorem DecodeSnap_calls {A : Option Addr} {n c : Nat} {b : List UInt8} {w : World} [hr : HR w A (bs b)] (hl : b.length = n) (hn : n ≤ 140737488351232) :
    Calls Tryz.prog 21 #[.slice A n c] w (DecSn b w) := by
  unfold DecSn
  go_enter Tryz.func21, Tryz.ntmps21
  go_wp2_with (first | ((with_reducible apply (wpl_alloc (dst := some 2))); intro zo wzo _ _ _))
  have hzol := (inferInstance : HB wzo zo 52 #[.int .i64 0, .int .i64 0, .slice none 0 0]).out.lt
  refine (decSnap_calls (b := b) hl hn).mono ?_
  rintro e w2 ⟨_, v, x, A2, n2, c2, P, err, rfl, hP, hR, hA⟩
  have ho2 : HB w2 zo 52 #[.int .i64 0, .int .i64 0, .slice none 0 0] := inferInstance
  have hsz := (inferInstance : SzLe w wzo).out
  go_wp2_with (first | ((with_reducible apply wpl_storerow); (exact rfl); (exact rfl); infer_instance; infer_instance; (first | (with_reducible assumption) | (with_reducible exact H32.size _) | kernel_rfl); (first | (with_reducible assumption) | (with_reducible exact H32.size _) | kernel_rfl); (first | (with_reducible exact u8s_one _) | (with_reducible assumption) | kernel_rfl); intro ws _ _))
  refine ret_row_ rfl rfl rfl (n := 3) rfl rfl ⟨stepN, v, x, A2, n2, c2, P, err, rfl, hP, Lib.hid ?_, ⟨fun ad e => Nat.le_trans hsz (hA.out ad e)⟩⟩
  exact hR.out.chg (inferInstance : Step (only zo) w2 ws).chg (fun _ ad e h => by
    have h' : ad.block = zo := h
    have := hA.out ad e
    omega)
end Go.Proofs.YthcleccofccbdaaGreat
end
section
open Go Go.RowKit
namespace Go.Proofs.YthcleccofccbdaaGreat
theorem kind_bad {k j : Nat} (h : j ≤ 4611686018427387904) (hk : j ≠ k) (r : List UInt8) : kindS k (encAll [(j : Int)] ++ r) = RS.bad := by
  have hn := numI_fwd (v := (j : Int)) (by omega) (by omega) r
  unfold kindS
  rw [hn, Int.toNat_natCast, if_neg hk]
theorem at3_fwd {v e0 s : Int} (hv : 0 ≤ v ∧ v ≤ 1073741824) (he : 0 ≤ e0 ∧ e0 ≤ 1073741824) (hs : 0 ≤ s ∧ s ≤ 1073741824) (r : List UInt8) : (⟨encAll [v, e0, s] ++ r, false⟩ : RS).num.1 = v.toNat ∧ ((⟨encAll [v, e0, s] ++ r, false⟩ : RS).at 1).num.1 = e0.toNat ∧ ((⟨encAll [v, e0, s] ++ r, false⟩ : RS).at 2).num.1 = s.toNat ∧ (⟨encAll [v, e0, s] ++ r, false⟩ : RS).at 3 = ⟨r, false⟩ := by
  have e : encAll [v, e0, s] ++ r = encAll [v, e0] ++ (encAll [s] ++ r) := by
    rw [show [v, e0, s] = [v, e0] ++ [s] from rfl, encAll_app, List.append_assoc]
  obtain ⟨h1, h2, h3⟩ := at2_fwd hv he (encAll [s] ++ r)
  have h4 := numI_fwd (v := s) hs.1 (by omega) r
  rw [← e] at h1 h2 h3
  refine ⟨h1, h2, by rw [h3, h4], ?_⟩
  show ((⟨encAll [v, e0, s] ++ r, false⟩ : RS).at 2).num.2 = _
  rw [h3, h4]
theorem timB_in {v e s : Int} (h : timB v e s = true) : (1 ≤ v ∧ v ≤ 1073741824) ∧ (0 ≤ e ∧ e ≤ 1073741824) ∧ (1 ≤ s ∧ s ≤ 1073741824) := by
  unfold timB at h
  rw [Bool.and_eq_true, Bool.and_eq_true] at h
  exact ⟨verB_in h.1.1, numB_in h.1.2, verB_in h.2⟩
theorem tim_fwd {v e s : Int} (h : timB v e s = true) (hh : H32) : tOk (timE v e s hh) = true ∧ timD (timE v e s hh) = (timL v e s hh).toArray := by
  obtain ⟨h1, h2, h3⟩ := timB_in h
  have q : timE v e s hh = encAll [((2 : Nat) : Int)] ++ (encAll [v, e, s] ++ (hh.l ++ [])) := by simp [timE]
  have hk : kindS 2 (timE v e s hh) = ⟨encAll [v, e, s] ++ (hh.l ++ []), false⟩ := by rw [q, kind_fwd (k := 2) (by decide)]
  obtain ⟨a1, a2, a3, a4⟩ := at3_fwd (v := v) (e0 := e) (s := s) ⟨by omega, h1.2⟩ h2 ⟨by omega, h3.2⟩ (hh.l ++ [])
  have b1 : (tV (kindS 2 (timE v e s hh)) : Int) = v := by rw [hk, tV, a1]; omega
  have b2 : (tE (kindS 2 (timE v e s hh)) : Int) = e := by rw [hk, tE, a2]; omega
  have b3 : (tS (kindS 2 (timE v e s hh)) : Int) = s := by rw [hk, tS, a3]; omega
  have b4 : tH (kindS 2 (timE v e s hh)) = hh := by rw [hk, tH, a4, hsh_fwd]
  have b5 : tR (kindS 2 (timE v e s hh)) = ⟨[], false⟩ := by rw [hk, tR, a4, raw_fwd]
  constructor
  · unfold tOk
    rw [b1, b2, b3, b5, h]
    rfl
  · unfold timD
    rw [b1, b2, b3, b4]
theorem tOk_other {j : Nat} (h : j ≤ 4611686018427387904) (hk : j ≠ 2) (r : List UInt8) : tOk (encAll [(j : Int)] ++ r) = false := by
  unfold tOk
  rw [kind_bad h hk]
  rfl
theorem snOk_other {j : Nat} (h : j ≤ 4611686018427387904) (hk : j ≠ 3) (r : List UInt8) : snOk (encAll [(j : Int)] ++ r) = false := by
  unfold snOk snR snS
  rw [kind_bad h hk]
  rfl
theorem repB_in {l m : List UInt8} {c k : Int} (h : repB l m c k = true) : l.length ≤ 12 ∧ m.length ≤ 12 ∧ (0 ≤ c ∧ c ≤ 1073741824) ∧ (0 ≤ k ∧ k ≤ 1073741824) := by
  unfold repB at h
  rw [Bool.and_eq_true, Bool.and_eq_true, Bool.and_eq_true] at h
  exact ⟨nameL_le h.1.1.1, nameE_le h.1.1.2, numB_in h.1.2, numB_in h.2⟩
theorem rep_fwd {l m : List UInt8} {c k : Int} (h : repB l m c k = true) (hh : H32) : rOk (repE l m hh c k) = true ∧ repD (repE l m hh c k) = (repL (strL l) (strL m) hh c k).toArray := by
  obtain ⟨h1, h2, h3, h4⟩ := repB_in h
  have q : repE l m hh c k = encAll [((5 : Nat) : Int)] ++ (encRow l ++ (encRow m ++ (hh.l ++ (encAll [c, k] ++ [])))) := by simp [repE]
  have hk : kindS 5 (repE l m hh c k) = ⟨encRow l ++ (encRow m ++ (hh.l ++ (encAll [c, k] ++ []))), false⟩ := by rw [q, kind_fwd (k := 5) (by decide)]
  have r1 := row_fwd l (encRow m ++ (hh.l ++ (encAll [c, k] ++ []))) (by omega)
  have r2 := row_fwd m (hh.l ++ (encAll [c, k] ++ [])) (by omega)
  obtain ⟨a1, a2, a3⟩ := at2_fwd (v := c) (e0 := k) h3 h4 []
  have b1 : rU (kindS 5 (repE l m hh c k)) = l := by rw [hk, rU, r1]
  have b2 : rN (kindS 5 (repE l m hh c k)) = m := by rw [hk, rN, r1, r2]
  have b3 : rS2 (kindS 5 (repE l m hh c k)) = ⟨hh.l ++ (encAll [c, k] ++ []), false⟩ := by rw [hk, rS2, r1, r2]
  have b4 : rH (kindS 5 (repE l m hh c k)) = hh := by rw [rH, b3, hsh_fwd]
  have b5 : rS3 (kindS 5 (repE l m hh c k)) = ⟨encAll [c, k] ++ [], false⟩ := by rw [rS3, b3, raw_fwd]
  have b6 : (rC (kindS 5 (repE l m hh c k)) : Int) = c := by rw [rC, b5, a1]; omega
  have b7 : (rK (kindS 5 (repE l m hh c k)) : Int) = k := by rw [rK, b5, a2]; omega
  have b8 : rR (kindS 5 (repE l m hh c k)) = ⟨[], false⟩ := by rw [rR, b5, a3]
  constructor
  · unfold rOk
    rw [b1, b2, b6, b7, b8, h]
    rfl
  · unfold repD
    rw [b1, b2, b4, b6, b7]
theorem snapOk_in {v e : Int} {P : List PinR} (h : snapOk v e P = true) : (1 ≤ v ∧ v ≤ 1073741824) ∧ (0 ≤ e ∧ e ≤ 1073741824) ∧ P.length ≤ 16 ∧ ∀ p ∈ P, pinOk p = true := by
  unfold snapOk at h
  rw [Bool.and_eq_true, Bool.and_eq_true, Bool.and_eq_true, Bool.and_eq_true, decide_eq_true_eq] at h
  exact ⟨verB_in h.1.1.1.1, numB_in h.1.1.1.2, h.1.1.2, List.all_eq_true.1 h.1.2⟩
theorem pin_fwd {p : PinR} (h : pinOk p = true) (r : List UInt8) : pinTk ⟨pinE p ++ r, false⟩ = (p, ⟨r, false⟩) := by
  unfold pinOk at h
  rw [Bool.and_eq_true] at h
  have h1 := nameL_le h.1
  have h2 := verB_in h.2
  have e : pinE p ++ r = encRow p.l ++ (encAll [p.v] ++ r) := by simp [pinE]
  have s1 := row_fwd p.l (encAll [p.v] ++ r) (by omega)
  have s2 := numI_fwd (v := p.v) (by omega) (by omega) r
  unfold pinTk
  rw [e, s1, s2]
  have hz : (p.v.toNat : Int) = p.v := Int.toNat_of_nonneg (by omega)
  simp only [hz]
theorem snap_fwd {v e : Int} {P : List PinR} (h : snapOk v e P = true) : snM (snapE v e P) = (v, e, P, 0) := by
  obtain ⟨h1, h2, h3, h4⟩ := snapOk_in h
  have q : snapE v e P = encAll [((3 : Nat) : Int)] ++ (encAll [v, e] ++ (encAll [(P.length : Int)] ++ (P.flatMap pinE ++ []))) := by simp [snapE, pinsE]
  have hk : kindS 3 (snapE v e P) = ⟨encAll [v, e] ++ (encAll [(P.length : Int)] ++ (P.flatMap pinE ++ [])), false⟩ := by rw [q, kind_fwd (k := 3) (by decide)]
  obtain ⟨a1, a2, a3⟩ := at2_fwd (v := v) (e0 := e) ⟨by omega, h1.2⟩ h2 (encAll [(P.length : Int)] ++ (P.flatMap pinE ++ []))
  obtain ⟨l1, l2⟩ := lst_fwd (tk := pinTk) (ef := pinE) 16 P h3 (by omega) (fun x hx r => pin_fwd (h4 x hx) r) []
  have b1 : (snV (snapE v e P) : Int) = v := by rw [snV, hk, a1]; omega
  have b2 : (snX (snapE v e P) : Int) = e := by rw [snX, hk, a2]; omega
  have b3 : snS (snapE v e P) = ⟨encAll [(P.length : Int)] ++ (P.flatMap pinE ++ []), false⟩ := by rw [snS, hk, a3]
  have b4 : snP (snapE v e P) = P := by rw [snP, b3, l1]
  have b5 : snR (snapE v e P) = ⟨[], false⟩ := by rw [snR, b3, l2]
  have ho : snOk (snapE v e P) = true := by
    unfold snOk
    rw [b1, b2, b4, b5, h]
    rfl
  rw [snM, if_pos ho, b1, b2, b4]
theorem keys_fwd (K : List (List H32 × Int)) (hK : ∀ k ∈ K, isB k.1 k.2 = true) (r : List UInt8) : ∀ m, m ≤ K.length → kAt ⟨keysB K ++ r, false⟩ m = ⟨keysB (K.drop m) ++ r, false⟩ ∧ kK ⟨keysB K ++ r, false⟩ m = K.take m
  | 0, _ => ⟨rfl, rfl⟩
  | m + 1, hm => by
    obtain ⟨h1, h2⟩ := keys_fwd K hK r m (by omega)
    have hd : K.drop m = K[m] :: K.drop (m + 1) := List.drop_eq_getElem_cons (by omega)
    obtain ⟨g1, g2, g3⟩ := isB_in (hK K[m] (List.getElem_mem _))
    have e : keysB (K.drop m) ++ r = keyB K[m].1 K[m].2 ++ (keysB (K.drop (m + 1)) ++ r) := by
      rw [hd, keysB, List.flatMap_cons, List.append_assoc]
      rfl
    obtain ⟨k1, k2, k3⟩ := key_fwd K[m].1 K[m].2 g1 (by omega) (by omega) (keysB (K.drop (m + 1)) ++ r)
    have hz : (K[m].2.toNat : Int) = K[m].2 := Int.toNat_of_nonneg (by omega)
    constructor
    · rw [kAt, h1, e, k3]
    · rw [kK, h2, h1, e, k1, k2, hz]
      exact List.take_append_getElem (by omega)
theorem root_fwd {v e : Int} {K : List (List H32 × Int)} (h : rootB v e K = true) (h4 : K.length = 4) : rtM (rootE v e K) = (v, e, K, 0) := by
  have h0 := h
  unfold rootB at h0
  rw [Bool.and_eq_true, Bool.and_eq_true] at h0
  have h1 := verB_in h0.1.1
  have h2 := numB_in h0.1.2
  have h3 := List.all_eq_true.1 h0.2
  have q : rootE v e K = encAll [((1 : Nat) : Int)] ++ (encAll [v, e] ++ (keysB K ++ [])) := by simp [rootE]
  have hk : kindS 1 (rootE v e K) = ⟨encAll [v, e] ++ (keysB K ++ []), false⟩ := by rw [q, kind_fwd (k := 1) (by decide)]
  obtain ⟨a1, a2, a3⟩ := at2_fwd (v := v) (e0 := e) ⟨by omega, h1.2⟩ h2 (keysB K ++ [])
  obtain ⟨l1, l2⟩ := keys_fwd K (fun k hk => h3 k hk) [] 4 (by omega)
  have b1 : (rtV (rootE v e K) : Int) = v := by rw [rtV, hk, a1]; omega
  have b2 : (rtX (rootE v e K) : Int) = e := by rw [rtX, hk, a2]; omega
  have b3 : rtS (rootE v e K) = ⟨keysB K ++ [], false⟩ := by rw [rtS, hk, a3]
  have b4 : kK (rtS (rootE v e K)) 4 = K := by rw [b3, l2, List.take_of_length_le (by omega)]
  have b5 : kAt (rtS (rootE v e K)) 4 = ⟨[], false⟩ := by
    rw [b3, l1, List.drop_of_length_le (by omega)]
    rfl
  have ho : rtOk (rootE v e K) = true := by
    unfold rtOk
    rw [b1, b2, b4, b5, h]
    rfl
  rw [rtM, if_pos ho, b1, b2, b4]
end Go.Proofs.YthcleccofccbdaaGreat
end
