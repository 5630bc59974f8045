/- SnD -/
import Derived.Test.YthcleccofccbdaaTmSnC
import Derived.Test.YthcleccofccbdaaTmRdD
open Go Go.RowKit
namespace Go.Proofs.Ythcleccofccbdaa
/-- what is decoded -/
def snM (b : List UInt8) : Int × Int × List PinR × Int := if snOk b then (snV b, snX b, snP b, 0) else (0, 0, [], 2)
def DecSn (b : List UInt8) (w : World) : Ending → World → Prop := fun e w' => Step nowhere w w' ∧ ∃ v x A n c P err, e = .returned (.tuple #[.agg #[.int .i64 v, .int .i64 x, .slice A n c], .int .i64 err]) ∧ Hid ((v, x, P, err) = snM b ∧ P.length = n ∧ n ≤ c ∧ n ≤ 16) ∧ Hid (Rd w' A (cellsOf P)) ∧ NewA w A
set_option maxRecDepth 100000 in
set_option maxHeartbeats 3200000 in
theorem decSnap_calls {A : Option Addr} {n c : Nat} {b : List UInt8} {w : World} [hr : HR w A (bs b)] (hl : b.length = n) (hn : n ≤ 140737488351232) :
    Calls Try.prog 64 #[.int .i64 3, .slice A n c, .func (.func 59) #[] #[], .func (.func 65) #[] #[]] w (DecSn b w) := by
  obtain ⟨S, hS⟩ : ∃ S, S = kindS 3 b := ⟨_, rfl⟩
  obtain ⟨W, hW⟩ : ∃ W, W = wholeB (lstS pinTk 16 (S.at 2)) := ⟨_, rfl⟩
  obtain ⟨V, hV⟩ : ∃ V, V = S.num.1 := ⟨_, rfl⟩
  obtain ⟨X, hX⟩ : ∃ X, X = (S.at 1).num.1 := ⟨_, rfl⟩
  obtain ⟨P, hP⟩ : ∃ P, P = lstL pinTk 16 (S.at 2) := ⟨_, rfl⟩
  obtain ⟨I, hI⟩ : ∃ I, I = snapOk V X P := ⟨_, rfl⟩
  have hSl : S.b.length ≤ 140737488351232 := by
    have := kindS_le 3 b
    rw [← hS] at this
    omega
  have hM : snM b = if W && I then ((V : Int), (X : Int), P, (0 : Int)) else (0, 0, [], 2) := by
    rw [snM, snOk, snR, snP, snV, snX, snS, ← hS, ← hW, ← hV, ← hX, ← hP, ← hI]
  have HM := Lib.hid hM
  have HRR := Lib.hid hr.out
  have HS := Lib.hid hS
  have HW := Lib.hid hW
  have HI := Lib.hid hI
  have HV := Lib.hid hV
  have HX := Lib.hid hX
  have HP := Lib.hid hP
  have HLE := Lib.hid hl
  unfold DecSn
  clear hS hW hI hV hX hM hP
  go_enter Try.func64, Try.ntmps64
  go_wp2_with (first | go_skip | ((with_reducible apply (wpl_alloc (dst := some 8))); intro zo wzo _ _ _) | ((with_reducible apply wpl_alloc); intro z wz _ _ _) | ((with_reducible apply (wpl_guard (op := .load _ _))); (exact rfl)) | ((with_reducible apply wpl_loadrow); (exact rfl); infer_instance; infer_instance; (first | (with_reducible assumption) | (with_reducible exact H32.size _) | kernel_rfl)) | ((with_reducible apply wpl_loadcellN); (exact rfl); infer_instance; (exact rfl)) | ((with_reducible apply wpl_storerow); (exact rfl); (exact rfl); infer_instance; infer_instance; (first | (with_reducible assumption) | (with_reducible exact H32.size _) | kernel_rfl); (first | (with_reducible assumption) | (with_reducible exact H32.size _) | kernel_rfl); (first | (with_reducible exact u8s_one _) | (with_reducible assumption) | kernel_rfl); intro ws _ _) | ((with_reducible apply wpl_storecell); (exact rfl); (exact rfl); infer_instance; (exact rfl); (first | (with_reducible assumption) | omega | (focus (simp; done)) | (focus (simp; omega; done)) | decide); intro ws _ _))
  refine (NewReader_calls A n c b _ (HRR.out.later (stepN (w0 := w)).chg) HLE.out (by omega)).mono ?_
  rintro e w2 ⟨g, d, rfl, h2, c2, hg, hd⟩
  have st2 : Step nowhere _ w2 := ⟨c2.out⟩
  have hgw : w.heap.size ≤ g := Nat.le_trans (inferInstance : SzLe w wzo).out hg
  have hdw : w.heap.size ≤ d := Nat.le_trans (inferInstance : SzLe w wzo).out hd
  have hzol := (inferInstance : HB wzo zo 44 #[.int .i64 0, .int .i64 0, .slice none 0 0]).out.lt
  have hzo : w.heap.size ≤ zo := Nat.le_of_eq (inferInstance : Born w zo).eq.symm
  have ozg : OffB (only g) zo := ⟨fun e => by have e' : zo = g := e; omega⟩
  have ag : Above w (only g) := ⟨fun k h => by have h' : k = g := h; omega⟩
  go_wp2_with fail
  refine (Num_calls g d _ w2 h2.out (by show b.length ≤ _; have := HLE.out; omega)).mono ?_
  rintro e w3 ⟨rfl, h3, c3⟩
  have st3 : Step (only g) w2 w3 := ⟨c3.out⟩
  obtain ⟨q, hq⟩ : ∃ q, q = (⟨b, false⟩ : RS).num.1 := ⟨_, rfl⟩
  rw [← hq]
  clear c2 c3 h2
  by_cases hk : q = 3
  focus
    have HSS : Hid (RdrAt w3 g d S) := Lib.hid (by
      rw [HS.out, kindS, if_pos (by rw [← hq]; exact hk)]
      exact h3.out)
    have hqI : (q : Int) = 3 := by omega
    have hb3 : zo < w3.heap.size := Nat.lt_of_lt_of_le hzol (inferInstance : SzLe wzo w3).out
    have hs3 : w.heap.size ≤ w3.heap.size := (inferInstance : SzLe w w3).out
    clear h3 hq hk
    rw [hqI]
    clear hqI
    go_wp2_with (first | go_skip | ((with_reducible apply wpl_alloc); intro z wz _ _ _) | ((with_reducible apply (wpl_guard (op := .load _ _))); (exact rfl)) | ((with_reducible apply wpl_loadrow); (exact rfl); infer_instance; infer_instance; (first | (with_reducible assumption) | (with_reducible exact H32.size _) | kernel_rfl)) | ((with_reducible apply wpl_loadcellN); (exact rfl); infer_instance; (exact rfl)) | ((with_reducible apply wpl_storerow); (exact rfl); (exact rfl); infer_instance; infer_instance; (first | (with_reducible assumption) | (with_reducible exact H32.size _) | kernel_rfl); (first | (with_reducible assumption) | (with_reducible exact H32.size _) | kernel_rfl); (first | (with_reducible exact u8s_one _) | (with_reducible assumption) | kernel_rfl); intro ws _ _) | ((with_reducible apply wpl_storecell); (exact rfl); (exact rfl); infer_instance; (exact rfl); (first | (with_reducible assumption) | omega | (focus (simp; done)) | (focus (simp; omega; done)) | decide); intro ws _ _))
    refine (takeSnap_calls HSS.out hSl).mono ?_
    clear HSS
    generalize w3 = wB at *
  rotate_left
  focus
    have HSS0 : Hid (S = RS.bad) := Lib.hid (by rw [HS.out, kindS, if_neg (by rw [← hq]; exact hk)])
    have hqI : ((q : Int) == 3) = false := by simp; omega
    have hqJ : (q : Int) < 3 ∨ 3 < (q : Int) := by omega
    have H3 := h3
    clear h3 hq hk
    go_wp2_with (first | go_skip | ((with_reducible apply wpl_alloc); intro z wz _ _ _) | ((with_reducible apply (wpl_guard (op := .load _ _))); (exact rfl)) | ((with_reducible apply wpl_loadrow); (exact rfl); infer_instance; infer_instance; (first | (with_reducible assumption) | (with_reducible exact H32.size _) | kernel_rfl)) | ((with_reducible apply wpl_loadcellN); (exact rfl); infer_instance; (exact rfl)) | ((with_reducible apply wpl_storerow); (exact rfl); (exact rfl); infer_instance; infer_instance; (first | (with_reducible assumption) | (with_reducible exact H32.size _) | kernel_rfl); (first | (with_reducible assumption) | (with_reducible exact H32.size _) | kernel_rfl); (first | (with_reducible exact u8s_one _) | (with_reducible assumption) | kernel_rfl); intro ws _ _) | ((with_reducible apply wpl_storecell); (exact rfl); (exact rfl); infer_instance; (exact rfl); (first | (with_reducible assumption) | omega | (focus (simp; done)) | (focus (simp; omega; done)) | decide); intro ws _ _))
    refine (Bad_calls g d _ _ H3.out).mono ?_
    rintro e w3b ⟨rfl, h3b, c3b⟩
    have st3b : Step (only g) w3 w3b := ⟨c3b.out⟩
    have HSS : Hid (RdrAt w3b g d S) := Lib.hid (by rw [HSS0.out]; exact h3b.out)
    have hb3 : zo < w3b.heap.size := Nat.lt_of_lt_of_le hzol (inferInstance : SzLe wzo w3b).out
    have hs3 : w.heap.size ≤ w3b.heap.size := (inferInstance : SzLe w w3b).out
    clear h3b c3b H3
    go_wp2_with (first | go_skip | ((with_reducible apply wpl_alloc); intro z wz _ _ _) | ((with_reducible apply (wpl_guard (op := .load _ _))); (exact rfl)) | ((with_reducible apply wpl_loadrow); (exact rfl); infer_instance; infer_instance; (first | (with_reducible assumption) | (with_reducible exact H32.size _) | kernel_rfl)) | ((with_reducible apply wpl_loadcellN); (exact rfl); infer_instance; (exact rfl)) | ((with_reducible apply wpl_storerow); (exact rfl); (exact rfl); infer_instance; infer_instance; (first | (with_reducible assumption) | (with_reducible exact H32.size _) | kernel_rfl); (first | (with_reducible assumption) | (with_reducible exact H32.size _) | kernel_rfl); (first | (with_reducible exact u8s_one _) | (with_reducible assumption) | kernel_rfl); intro ws _ _) | ((with_reducible apply wpl_storecell); (exact rfl); (exact rfl); infer_instance; (exact rfl); (first | (with_reducible assumption) | omega | (focus (simp; done)) | (focus (simp; omega; done)) | decide); intro ws _ _))
    refine (takeSnap_calls HSS.out hSl).mono ?_
    clear HSS HSS0 hqI hqJ
    generalize w3b = wB at *
  rotate_left
  all_goals
    rw [← HV.out, ← HX.out, ← HP.out]
    rintro e w4 ⟨A4, n4, c4, rfl, st4, h4, hr4, hA4, hn4⟩
    have ho4 : HB w4 zo 44 #[.int .i64 0, .int .i64 0, .slice none 0 0] := inferInstance
    have nw4 : Nw w w4 := inferInstance
    go_wp2_with (first | go_skip | ((with_reducible apply (wpl_alloc (dst := some 11))); intro zt wzt _ _ _) | ((with_reducible apply wpl_alloc); intro z wz _ _ _) | ((with_reducible apply (wpl_guard (op := .load _ _))); (exact rfl)) | ((with_reducible apply wpl_loadrow); (exact rfl); infer_instance; infer_instance; (first | (with_reducible assumption) | (with_reducible exact H32.size _) | kernel_rfl)) | ((with_reducible apply wpl_loadcellN); (exact rfl); infer_instance; (exact rfl)) | ((with_reducible apply wpl_storerow); (exact rfl); (exact rfl); infer_instance; infer_instance; (first | (with_reducible assumption) | (with_reducible exact H32.size _) | kernel_rfl); (first | (with_reducible assumption) | (with_reducible exact H32.size _) | kernel_rfl); (first | (with_reducible exact u8s_one _) | (with_reducible assumption) | kernel_rfl); intro ws _ _) | ((with_reducible apply wpl_storecell); (exact rfl); (exact rfl); infer_instance; (exact rfl); (first | (with_reducible assumption) | omega | (focus (simp; done)) | (focus (simp; omega; done)) | decide); intro ws _ _))
    have hzt4 : w4.heap.size ≤ zt := Nat.le_of_eq (inferInstance : Born w4 zt).eq.symm
    have hs4 : wB.heap.size ≤ w4.heap.size := st4.chg.size
    have izt : Into w4 (only zt) (only zo) := ⟨fun x hx h => by have h' : x = zt := h; omega⟩
    have hts : HB ws zt 44 #[.int .i64 V, .int .i64 X, .slice A4 n4 c4] := inferInstance
    refine (Whole_calls g d (lstS pinTk 16 (S.at 2)) _ (h4.out.chg (inferInstance : Nw w4 _).out (fun h => h) (fun h => h)) (by have h5 := pinTakes.lstS_le 16 (S.at 2); have h6 := S.at_le 2; omega)).mono ?_
    have e6 : (!(lstS pinTk 16 (S.at 2)).e && decide ((lstS pinTk 16 (S.at 2)).b = [])) = W := by rw [HW.out]; rfl
    rw [e6]
    rintro e w6 ⟨rfl, rfl⟩
    clear e6
    cases W
    case false =>
      go_wp2_with (first | go_skip | ((with_reducible apply (wpl_alloc (dst := some 12))); intro zz wzz _ _ _) | ((with_reducible apply wpl_alloc); intro z wz _ _ _) | ((with_reducible apply (wpl_guard (op := .load _ _))); (exact rfl)) | ((with_reducible apply wpl_loadrow); (exact rfl); infer_instance; infer_instance; (first | (with_reducible assumption) | (with_reducible exact H32.size _) | kernel_rfl)) | ((with_reducible apply wpl_loadcellN); (exact rfl); infer_instance; (exact rfl)) | ((with_reducible apply wpl_storerow); (exact rfl); (exact rfl); infer_instance; infer_instance; (first | (with_reducible assumption) | (with_reducible exact H32.size _) | kernel_rfl); (first | (with_reducible assumption) | (with_reducible exact H32.size _) | kernel_rfl); (first | (with_reducible exact u8s_one _) | (with_reducible assumption) | kernel_rfl); intro ws _ _) | ((with_reducible apply wpl_storecell); (exact rfl); (exact rfl); infer_instance; (exact rfl); (first | (with_reducible assumption) | omega | (focus (simp; done)) | (focus (simp; omega; done)) | decide); intro ws _ _))
      refine ret_row_ rfl rfl rfl (n := 3) rfl rfl ⟨stepN, 0, 0, none, 0, 0, [], 2, rfl, Lib.hid ⟨HM.out.symm, rfl, Nat.le_refl _, Nat.zero_le _⟩, Lib.hid (Rd.nil _ _), newA_none _⟩
    case true =>
      have hr6 : HR w6 A4 (cellsOf P) := inferInstance
      have n6 : Nw w4 w6 := inferInstance
      go_wp2_with (first | go_skip | ((with_reducible apply wpl_alloc); intro z wz _ _ _) | ((with_reducible apply (wpl_guard (op := .load _ _))); (exact rfl)) | ((with_reducible apply wpl_loadrow); (exact rfl); infer_instance; infer_instance; (first | (with_reducible assumption) | (with_reducible exact H32.size _) | kernel_rfl)) | ((with_reducible apply wpl_loadcellN); (exact rfl); infer_instance; (exact rfl)) | ((with_reducible apply wpl_storerow); (exact rfl); (exact rfl); infer_instance; infer_instance; (first | (with_reducible assumption) | (with_reducible exact H32.size _) | kernel_rfl); (first | (with_reducible assumption) | (with_reducible exact H32.size _) | kernel_rfl); (first | (with_reducible exact u8s_one _) | (with_reducible assumption) | kernel_rfl); intro ws _ _) | ((with_reducible apply wpl_storecell); (exact rfl); (exact rfl); infer_instance; (exact rfl); (first | (with_reducible assumption) | omega | (focus (simp; done)) | (focus (simp; omega; done)) | decide); intro ws _ _))
      refine (isSnap_calls V X (P := P) hn4.out.1 (by have := hn4.out.2.2; omega)).mono ?_
      rw [← HI.out]
      rintro e w7 ⟨rfl, _⟩
      cases I
      case false =>
        go_wp2_with (first | go_skip | ((with_reducible apply (wpl_alloc (dst := some 12))); intro zz wzz _ _ _) | ((with_reducible apply wpl_alloc); intro z wz _ _ _) | ((with_reducible apply (wpl_guard (op := .load _ _))); (exact rfl)) | ((with_reducible apply wpl_loadrow); (exact rfl); infer_instance; infer_instance; (first | (with_reducible assumption) | (with_reducible exact H32.size _) | kernel_rfl)) | ((with_reducible apply wpl_loadcellN); (exact rfl); infer_instance; (exact rfl)) | ((with_reducible apply wpl_storerow); (exact rfl); (exact rfl); infer_instance; infer_instance; (first | (with_reducible assumption) | (with_reducible exact H32.size _) | kernel_rfl); (first | (with_reducible assumption) | (with_reducible exact H32.size _) | kernel_rfl); (first | (with_reducible exact u8s_one _) | (with_reducible assumption) | kernel_rfl); intro ws _ _) | ((with_reducible apply wpl_storecell); (exact rfl); (exact rfl); infer_instance; (exact rfl); (first | (with_reducible assumption) | omega | (focus (simp; done)) | (focus (simp; omega; done)) | decide); intro ws _ _))
        refine ret_row_ rfl rfl rfl (n := 3) rfl rfl ⟨stepN, 0, 0, none, 0, 0, [], 2, rfl, Lib.hid ⟨HM.out.symm, rfl, Nat.le_refl _, Nat.zero_le _⟩, Lib.hid (Rd.nil _ _), newA_none _⟩
      case true =>
        have hts7 : HB w7 zt 44 #[.int .i64 V, .int .i64 X, .slice A4 n4 c4] := inferInstance
        have ho7 : HB w7 zo 44 #[.int .i64 0, .int .i64 0, .slice none 0 0] := inferInstance
        have hr7 : Rd w7 A4 (cellsOf P) := hr4.out.chg (inferInstance : Nw w4 w7).out (fun _ _ _ h => h)
        have HR7 := Lib.hid hr7
        clear hr7 hr6
        go_wp2_with (first | go_skip | ((with_reducible apply wpl_alloc); intro z wz _ _ _) | ((with_reducible apply (wpl_guard (op := .load _ _))); (exact rfl)) | ((with_reducible apply wpl_loadrow); (exact rfl); infer_instance; infer_instance; (first | (with_reducible assumption) | (with_reducible exact H32.size _) | kernel_rfl)) | ((with_reducible apply wpl_loadcellN); (exact rfl); infer_instance; (exact rfl)) | ((with_reducible apply wpl_storerow); (exact rfl); (exact rfl); infer_instance; infer_instance; (first | (with_reducible assumption) | (with_reducible exact H32.size _) | kernel_rfl); (first | (with_reducible assumption) | (with_reducible exact H32.size _) | kernel_rfl); (first | (with_reducible exact u8s_one _) | (with_reducible assumption) | kernel_rfl); intro ws _ _) | ((with_reducible apply wpl_storecell); (exact rfl); (exact rfl); infer_instance; (exact rfl); (first | (with_reducible assumption) | omega | (focus (simp; done)) | (focus (simp; omega; done)) | decide); intro ws _ _))
        refine ret_row_ rfl rfl rfl (n := 3) rfl rfl ⟨stepN, V, X, A4, n4, c4, P, 0, rfl, Lib.hid ⟨HM.out.symm, hn4.out.1, hn4.out.2.1, hn4.out.2.2⟩, Lib.hid ?_, ⟨fun ad e => Nat.le_trans hs3 (hA4.out ad e)⟩⟩
        exact HR7.out.chg (inferInstance : Step (only zo) w7 ws).chg (fun _ ad e h => by
          have h' : ad.block = zo := h
          have := hA4.out ad e
          omega)
set_option maxRecDepth 100000 in
set_option maxHeartbeats 1600000 in
theorem DecodeSnap_calls {A : Option Addr} {n c : Nat} {b : List UInt8} {w : World} [hr : HR w A (bs b)] (hl : b.length = n) (hn : n ≤ 140737488351232) :
    Calls Try.prog 20 #[.slice A n c] w (DecSn b w) := by
  unfold DecSn
  go_enter Try.func20, Try.ntmps20
  go_wp2_with (first | ((with_reducible apply (wpl_alloc (dst := some 2))); intro zo wzo _ _ _) | ((with_reducible apply wpl_alloc); intro z wz _ _ _) | ((with_reducible apply wpl_storerow); (exact rfl); (exact rfl); infer_instance; infer_instance; (first | (with_reducible assumption) | (with_reducible exact H32.size _) | kernel_rfl); (first | (with_reducible assumption) | (with_reducible exact H32.size _) | kernel_rfl); (first | (with_reducible exact u8s_one _) | (with_reducible assumption) | kernel_rfl); intro ws _ _) | ((with_reducible apply wpl_storecell); (exact rfl); (exact rfl); infer_instance; (exact rfl); (first | (with_reducible assumption) | omega | (focus (simp; done)) | (focus (simp; omega; done)) | decide); intro ws _ _))
  have hzol := (inferInstance : HB wzo zo 44 #[.int .i64 0, .int .i64 0, .slice none 0 0]).out.lt
  refine (decSnap_calls (b := b) hl hn).mono ?_
  rintro e w2 ⟨_, v, x, A2, n2, c2, P, err, rfl, hP, hR, hA⟩
  have ho2 : HB w2 zo 44 #[.int .i64 0, .int .i64 0, .slice none 0 0] := inferInstance
  have hsz := (inferInstance : SzLe w wzo).out
  go_wp2_with (first | ((with_reducible apply wpl_alloc); intro z wz _ _ _) | ((with_reducible apply wpl_storerow); (exact rfl); (exact rfl); infer_instance; infer_instance; (first | (with_reducible assumption) | (with_reducible exact H32.size _) | kernel_rfl); (first | (with_reducible assumption) | (with_reducible exact H32.size _) | kernel_rfl); (first | (with_reducible exact u8s_one _) | (with_reducible assumption) | kernel_rfl); intro ws _ _) | ((with_reducible apply wpl_storecell); (exact rfl); (exact rfl); infer_instance; (exact rfl); (first | (with_reducible assumption) | omega | (focus (simp; done)) | (focus (simp; omega; done)) | decide); intro ws _ _))
  refine ret_row_ rfl rfl rfl (n := 3) rfl rfl ⟨stepN, v, x, A2, n2, c2, P, err, rfl, hP, Lib.hid ?_, ⟨fun ad e => Nat.le_trans hsz (hA.out ad e)⟩⟩
  exact hR.out.chg (inferInstance : Step (only zo) w2 ws).chg (fun _ ad e h => by
    have h' : ad.block = zo := h
    have := hA.out ad e
    omega)
end Go.Proofs.Ythcleccofccbdaa
