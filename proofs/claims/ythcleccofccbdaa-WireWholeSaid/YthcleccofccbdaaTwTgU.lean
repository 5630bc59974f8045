/- TgU -/
import Derived.Test.YthcleccofccbdaaTwTgS
import Derived.Test.YthcleccofccbdaaTwTgK
import Derived.Test.YthcleccofccbdaaTwWtC
open Go Go.RowKit
namespace Go.Proofs.Ythcleccofccbdaa
def dlOkM (x : DlM) : Bool := nameL x.1 && isB x.2.1.1 x.2.1.2 && nameE x.2.2.1
def tgsOkM (nm : List UInt8) (v e0 : Int) (P : List TargetR) (M : List DlM) : Bool := nameL nm && verB v && numB e0 && decide (P.length ≤ 16) && P.all tgOk && riseT P P.length && decide (M.length ≤ 16) && M.all dlOkM && allS (M.map Prod.fst) M.length
theorem tgsOk_m (nm : List UInt8) (v e0 : Int) (P : List TargetR) (D : List DeleR) : tgsOk nm v e0 P D = tgsOkM nm v e0 P (D.map DeleR.m) := by
  unfold tgsOk tgsOkM
  rw [List.length_map, List.all_map, List.map_map]
  rfl
/-- the state behind the targets, behind all -/
def tgR1 (b : List UInt8) : RS := lstS tgTk 16 (tgsS (kindS 4 b))
def tgR2 (b : List UInt8) : RS := lstS dlTk 16 (tgR1 b)
def tgN (b : List UInt8) : List UInt8 := (kindS 4 b).row.1
def tgVv (b : List UInt8) : Nat := (kindS 4 b).row.2.num.1
def tgX (b : List UInt8) : Nat := ((kindS 4 b).row.2.at 1).num.1
def tgP (b : List UInt8) : List TargetR := lstL tgTk 16 (tgsS (kindS 4 b))
def tgD (b : List UInt8) : List DlM := lstL dlTk 16 (tgR1 b)
def tgsOkB (b : List UInt8) : Bool := wholeB (tgR2 b) && tgsOkM (tgN b) (tgVv b) (tgX b) (tgP b) (tgD b)
/-- what is decoded -/
def tgM (b : List UInt8) : List UInt8 × Int × Int × List TargetR × List DlM × Int := if tgsOkB b then (tgN b, (tgVv b : Int), (tgX b : Int), tgP b, tgD b, 0) else ([], 0, 0, [], [], 2)
def DecTg (b : List UInt8) (w : World) : Ending → World → Prop := fun e w' => Step nowhere w w' ∧ ∃ nm v x A n c C m q P D err, e = .returned (.tuple #[.agg #[.string (strL nm), .int .i64 v, .int .i64 x, .slice A n c, .slice C m q], .int .i64 err]) ∧ Hid ((nm, v, x, P, D.map DeleR.m, err) = tgM b ∧ (P.length = n ∧ n ≤ c ∧ n ≤ 16) ∧ D.length = m ∧ m ≤ q ∧ m ≤ 16) ∧ Hid (Rd w' A (cellsOf P) ∧ Rd w' C (cellsOf D) ∧ ∀ x ∈ D, DIn w' x ∧ NewA w x.k.A) ∧ NewA w A ∧ NewA w C
set_option maxRecDepth 100000 in
set_option maxHeartbeats 3200000 in
theorem decTgs_calls {A : Option Addr} {n c : Nat} {b : List UInt8} {w : World} [hr : HR w A (bs b)] (hl : b.length = n) (hn : n ≤ 140737488351232) :
    Calls Try.prog 86 #[.int .i64 4, .slice A n c, .func (.func 84) #[] #[], .func (.func 87) #[] #[]] w (DecTg b w) := by
  obtain ⟨S, hS⟩ : ∃ S, S = kindS 4 b := ⟨_, rfl⟩
  obtain ⟨W, hW⟩ : ∃ W, W = wholeB (lstS dlTk 16 (lstS tgTk 16 (tgsS S))) := ⟨_, rfl⟩
  obtain ⟨NM, hNM⟩ : ∃ V, V = S.row.1 := ⟨_, rfl⟩
  obtain ⟨V, hV⟩ : ∃ V, V = S.row.2.num.1 := ⟨_, rfl⟩
  obtain ⟨X, hX⟩ : ∃ X, X = (S.row.2.at 1).num.1 := ⟨_, rfl⟩
  obtain ⟨P, hP⟩ : ∃ P, P = lstL tgTk 16 (tgsS S) := ⟨_, rfl⟩
  obtain ⟨M, hMM⟩ : ∃ M, M = lstL dlTk 16 (lstS tgTk 16 (tgsS S)) := ⟨_, rfl⟩
  obtain ⟨I, hI⟩ : ∃ I, I = tgsOkM NM V X P M := ⟨_, rfl⟩
  have hSl : S.b.length ≤ 140737488351232 := by
    have := kindS_le 4 b
    rw [← hS] at this
    omega
  have hM : tgM b = if W && I then (NM, (V : Int), (X : Int), P, M, (0 : Int)) else ([], 0, 0, [], [], 2) := by
    rw [tgM, tgsOkB, tgR2, tgD, tgR1, tgP, tgVv, tgX, tgN, ← hS, ← hW, ← hNM, ← hV, ← hX, ← hP, ← hMM, ← hI]
  have HNM := Lib.hid hNM
  have HMM := Lib.hid hMM
  have HM := Lib.hid hM
  have HRR := Lib.hid hr.out
  have HS := Lib.hid hS
  have HW := Lib.hid hW
  have HI := Lib.hid hI
  have HV := Lib.hid hV
  have HX := Lib.hid hX
  have HP := Lib.hid hP
  have HLE := Lib.hid hl
  unfold DecTg
  clear hS hW hI hV hX hM hP hNM hMM
  go_enter Try.func86, Try.ntmps86
  go_wp2_with (first | go_skip | ((with_reducible apply (wpl_alloc (dst := some 8))); intro zo wzo _ _ _) | ((with_reducible apply wpl_alloc); intro z wz _ _ _) | ((with_reducible apply (wpl_guard (op := .load _ _))); (exact rfl)) | ((with_reducible apply wpl_loadrow); (exact rfl); infer_instance; infer_instance; (first | (with_reducible assumption) | (with_reducible exact H32.size _) | (with_reducible exact enc_sz _ rfl) | kernel_rfl)) | ((with_reducible apply wpl_loadcellN); (exact rfl); infer_instance; (exact rfl)) | ((with_reducible apply wpl_storerow); (exact rfl); (exact rfl); infer_instance; infer_instance; (first | (with_reducible assumption) | (with_reducible exact H32.size _) | (with_reducible exact enc_sz _ rfl) | kernel_rfl); (first | (with_reducible assumption) | (with_reducible exact H32.size _) | (with_reducible exact enc_sz _ rfl) | kernel_rfl); (first | (with_reducible exact u8s_one _) | (with_reducible assumption) | (with_reducible exact enc_one _) | kernel_rfl); intro ws _ _) | ((with_reducible apply wpl_storecell); (exact rfl); (exact rfl); infer_instance; (exact rfl); (first | (with_reducible assumption) | omega | (focus (simp; done)) | (focus (simp; omega; done)) | decide); intro ws _ _))
  refine (NewReader_calls A n c b _ (HRR.out.later (stepN (w0 := w)).chg) HLE.out (by omega)).mono ?_
  rintro e w2 ⟨g, d, rfl, h2, c2, hg, hd⟩
  have st2 : Step nowhere _ w2 := ⟨c2.out⟩
  have hgw : w.heap.size ≤ g := Nat.le_trans (inferInstance : SzLe w wzo).out hg
  have hdw : w.heap.size ≤ d := Nat.le_trans (inferInstance : SzLe w wzo).out hd
  have hzol := (inferInstance : HB wzo zo 71 #[.string ⟨#[]⟩, .int .i64 0, .int .i64 0, .slice none 0 0, .slice none 0 0]).out.lt
  have hzo : w.heap.size ≤ zo := Nat.le_of_eq (inferInstance : Born w zo).eq.symm
  have ozg : OffB (only g) zo := ⟨fun e => by have e' : zo = g := e; omega⟩
  have ag : Above w (only g) := ⟨fun k h => by have h' : k = g := h; omega⟩
  go_wp2_with fail
  refine (Num_calls g d _ w2 h2.out (by show b.length ≤ _; have := HLE.out; omega)).mono ?_
  rintro e w3 ⟨rfl, h3, c3⟩
  have st3 : Step (only g) w2 w3 := ⟨c3.out⟩
  obtain ⟨q, hq⟩ : ∃ q, q = (⟨b, false⟩ : RS).num.1 := ⟨_, rfl⟩
  rw [← hq]
  clear c2 c3 h2
  by_cases hk : q = 4
  focus
    have HSS : Hid (RdrAt w3 g d S) := Lib.hid (by
      rw [HS.out, kindS, if_pos (by rw [← hq]; exact hk)]
      exact h3.out)
    have hqI : (q : Int) = 4 := by omega
    have hb3 : zo < w3.heap.size := Nat.lt_of_lt_of_le hzol (inferInstance : SzLe wzo w3).out
    have hs3 : w.heap.size ≤ w3.heap.size := (inferInstance : SzLe w w3).out
    clear h3 hq hk
    rw [hqI]
    clear hqI
    go_wp2_with (first | go_skip | ((with_reducible apply wpl_alloc); intro z wz _ _ _) | ((with_reducible apply (wpl_guard (op := .load _ _))); (exact rfl)) | ((with_reducible apply wpl_loadrow); (exact rfl); infer_instance; infer_instance; (first | (with_reducible assumption) | (with_reducible exact H32.size _) | (with_reducible exact enc_sz _ rfl) | kernel_rfl)) | ((with_reducible apply wpl_loadcellN); (exact rfl); infer_instance; (exact rfl)) | ((with_reducible apply wpl_storerow); (exact rfl); (exact rfl); infer_instance; infer_instance; (first | (with_reducible assumption) | (with_reducible exact H32.size _) | (with_reducible exact enc_sz _ rfl) | kernel_rfl); (first | (with_reducible assumption) | (with_reducible exact H32.size _) | (with_reducible exact enc_sz _ rfl) | kernel_rfl); (first | (with_reducible exact u8s_one _) | (with_reducible assumption) | (with_reducible exact enc_one _) | kernel_rfl); intro ws _ _) | ((with_reducible apply wpl_storecell); (exact rfl); (exact rfl); infer_instance; (exact rfl); (first | (with_reducible assumption) | omega | (focus (simp; done)) | (focus (simp; omega; done)) | decide); intro ws _ _))
    refine (takeTargets_calls HSS.out hSl).mono ?_
    clear HSS
    generalize w3 = wB at *
  rotate_left
  focus
    have HSS0 : Hid (S = RS.bad) := Lib.hid (by rw [HS.out, kindS, if_neg (by rw [← hq]; exact hk)])
    have hqI : ((q : Int) == 4) = false := by simp; omega
    have hqJ : (q : Int) < 4 ∨ 4 < (q : Int) := by omega
    have H3 := h3
    clear h3 hq hk
    go_wp2_with (first | go_skip | ((with_reducible apply wpl_alloc); intro z wz _ _ _) | ((with_reducible apply (wpl_guard (op := .load _ _))); (exact rfl)) | ((with_reducible apply wpl_loadrow); (exact rfl); infer_instance; infer_instance; (first | (with_reducible assumption) | (with_reducible exact H32.size _) | (with_reducible exact enc_sz _ rfl) | kernel_rfl)) | ((with_reducible apply wpl_loadcellN); (exact rfl); infer_instance; (exact rfl)) | ((with_reducible apply wpl_storerow); (exact rfl); (exact rfl); infer_instance; infer_instance; (first | (with_reducible assumption) | (with_reducible exact H32.size _) | (with_reducible exact enc_sz _ rfl) | kernel_rfl); (first | (with_reducible assumption) | (with_reducible exact H32.size _) | (with_reducible exact enc_sz _ rfl) | kernel_rfl); (first | (with_reducible exact u8s_one _) | (with_reducible assumption) | (with_reducible exact enc_one _) | kernel_rfl); intro ws _ _) | ((with_reducible apply wpl_storecell); (exact rfl); (exact rfl); infer_instance; (exact rfl); (first | (with_reducible assumption) | omega | (focus (simp; done)) | (focus (simp; omega; done)) | decide); intro ws _ _))
    refine (Bad_calls g d _ _ H3.out).mono ?_
    rintro e w3b ⟨rfl, h3b, c3b⟩
    have st3b : Step (only g) w3 w3b := ⟨c3b.out⟩
    have HSS : Hid (RdrAt w3b g d S) := Lib.hid (by rw [HSS0.out]; exact h3b.out)
    have hb3 : zo < w3b.heap.size := Nat.lt_of_lt_of_le hzol (inferInstance : SzLe wzo w3b).out
    have hs3 : w.heap.size ≤ w3b.heap.size := (inferInstance : SzLe w w3b).out
    clear h3b c3b H3
    go_wp2_with (first | go_skip | ((with_reducible apply wpl_alloc); intro z wz _ _ _) | ((with_reducible apply (wpl_guard (op := .load _ _))); (exact rfl)) | ((with_reducible apply wpl_loadrow); (exact rfl); infer_instance; infer_instance; (first | (with_reducible assumption) | (with_reducible exact H32.size _) | (with_reducible exact enc_sz _ rfl) | kernel_rfl)) | ((with_reducible apply wpl_loadcellN); (exact rfl); infer_instance; (exact rfl)) | ((with_reducible apply wpl_storerow); (exact rfl); (exact rfl); infer_instance; infer_instance; (first | (with_reducible assumption) | (with_reducible exact H32.size _) | (with_reducible exact enc_sz _ rfl) | kernel_rfl); (first | (with_reducible assumption) | (with_reducible exact H32.size _) | (with_reducible exact enc_sz _ rfl) | kernel_rfl); (first | (with_reducible exact u8s_one _) | (with_reducible assumption) | (with_reducible exact enc_one _) | kernel_rfl); intro ws _ _) | ((with_reducible apply wpl_storecell); (exact rfl); (exact rfl); infer_instance; (exact rfl); (first | (with_reducible assumption) | omega | (focus (simp; done)) | (focus (simp; omega; done)) | decide); intro ws _ _))
    refine (takeTargets_calls HSS.out hSl).mono ?_
    clear HSS HSS0 hqI hqJ
    generalize w3b = wB at *
  rotate_left
  all_goals
    rw [← HNM.out, ← HV.out, ← HX.out, ← HP.out, ← HMM.out]
    rintro e w4 ⟨A4, n4, c4, C4, m4, q4, D, rfl, st4, h4, hr4, hA4, hc4, hC4, hm4, hk4, hn4, hd4⟩
    have ho4 : HB w4 zo 71 #[.string ⟨#[]⟩, .int .i64 0, .int .i64 0, .slice none 0 0, .slice none 0 0] := inferInstance
    have nw4 : Nw w w4 := inferInstance
    go_wp2_with (first | go_skip | ((with_reducible apply (wpl_alloc (dst := some 11))); intro zt wzt _ _ _) | ((with_reducible apply wpl_alloc); intro z wz _ _ _) | ((with_reducible apply (wpl_guard (op := .load _ _))); (exact rfl)) | ((with_reducible apply wpl_loadrow); (exact rfl); infer_instance; infer_instance; (first | (with_reducible assumption) | (with_reducible exact H32.size _) | (with_reducible exact enc_sz _ rfl) | kernel_rfl)) | ((with_reducible apply wpl_loadcellN); (exact rfl); infer_instance; (exact rfl)) | ((with_reducible apply wpl_storerow); (exact rfl); (exact rfl); infer_instance; infer_instance; (first | (with_reducible assumption) | (with_reducible exact H32.size _) | (with_reducible exact enc_sz _ rfl) | kernel_rfl); (first | (with_reducible assumption) | (with_reducible exact H32.size _) | (with_reducible exact enc_sz _ rfl) | kernel_rfl); (first | (with_reducible exact u8s_one _) | (with_reducible assumption) | (with_reducible exact enc_one _) | kernel_rfl); intro ws _ _) | ((with_reducible apply wpl_storecell); (exact rfl); (exact rfl); infer_instance; (exact rfl); (first | (with_reducible assumption) | omega | (focus (simp; done)) | (focus (simp; omega; done)) | decide); intro ws _ _))
    have hzt4 : w4.heap.size ≤ zt := Nat.le_of_eq (inferInstance : Born w4 zt).eq.symm
    have hs4 : wB.heap.size ≤ w4.heap.size := st4.chg.size
    have izt : Into w4 (only zt) (only zo) := ⟨fun x hx h => by have h' : x = zt := h; omega⟩
    have hts : HB ws zt 71 #[.string (strL NM), .int .i64 V, .int .i64 X, .slice A4 n4 c4, .slice C4 m4 q4] := inferInstance
    refine (Whole_calls g d (lstS dlTk 16 (lstS tgTk 16 (tgsS S))) _ (h4.out.chg (inferInstance : Nw w4 _).out (fun h => h) (fun h => h)) (by have h5 := tgTakes.lstS_le 16 (tgsS S); have h6 := dlTakes.lstS_le 16 (lstS tgTk 16 (tgsS S)); have h7 : (tgsS S).b.length ≤ S.row.2.b.length := S.row.2.at_le 2; have h8 := RS.row_le S; omega)).mono ?_
    have e6 : (!(lstS dlTk 16 (lstS tgTk 16 (tgsS S))).e && decide ((lstS dlTk 16 (lstS tgTk 16 (tgsS S))).b = [])) = W := by rw [HW.out]; rfl
    rw [e6]
    rintro e w6 ⟨rfl, rfl⟩
    clear e6
    cases W
    case false =>
      go_wp2_with (first | go_skip | ((with_reducible apply (wpl_alloc (dst := some 12))); intro zz wzz _ _ _) | ((with_reducible apply wpl_alloc); intro z wz _ _ _) | ((with_reducible apply (wpl_guard (op := .load _ _))); (exact rfl)) | ((with_reducible apply wpl_loadrow); (exact rfl); infer_instance; infer_instance; (first | (with_reducible assumption) | (with_reducible exact H32.size _) | (with_reducible exact enc_sz _ rfl) | kernel_rfl)) | ((with_reducible apply wpl_loadcellN); (exact rfl); infer_instance; (exact rfl)) | ((with_reducible apply wpl_storerow); (exact rfl); (exact rfl); infer_instance; infer_instance; (first | (with_reducible assumption) | (with_reducible exact H32.size _) | (with_reducible exact enc_sz _ rfl) | kernel_rfl); (first | (with_reducible assumption) | (with_reducible exact H32.size _) | (with_reducible exact enc_sz _ rfl) | kernel_rfl); (first | (with_reducible exact u8s_one _) | (with_reducible assumption) | (with_reducible exact enc_one _) | kernel_rfl); intro ws _ _) | ((with_reducible apply wpl_storecell); (exact rfl); (exact rfl); infer_instance; (exact rfl); (first | (with_reducible assumption) | omega | (focus (simp; done)) | (focus (simp; omega; done)) | decide); intro ws _ _))
      refine ret_row_ rfl rfl rfl (n := 5) rfl rfl ⟨stepN, [], 0, 0, none, 0, 0, none, 0, 0, [], [], 2, rfl, Lib.hid ⟨HM.out.symm, ⟨rfl, Nat.le_refl _, Nat.zero_le _⟩, rfl, Nat.le_refl _, Nat.zero_le _⟩, Lib.hid ⟨Rd.nil _ _, Rd.nil _ _, fun x hx => by cases hx⟩, newA_none _, newA_none _⟩
    case true =>
      have hr6 : HR w6 A4 (cellsOf P) := inferInstance
      have n6 : Nw w4 w6 := inferInstance
      go_wp2_with (first | go_skip | ((with_reducible apply wpl_alloc); intro z wz _ _ _) | ((with_reducible apply (wpl_guard (op := .load _ _))); (exact rfl)) | ((with_reducible apply wpl_loadrow); (exact rfl); infer_instance; infer_instance; (first | (with_reducible assumption) | (with_reducible exact H32.size _) | (with_reducible exact enc_sz _ rfl) | kernel_rfl)) | ((with_reducible apply wpl_loadcellN); (exact rfl); infer_instance; (exact rfl)) | ((with_reducible apply wpl_storerow); (exact rfl); (exact rfl); infer_instance; infer_instance; (first | (with_reducible assumption) | (with_reducible exact H32.size _) | (with_reducible exact enc_sz _ rfl) | kernel_rfl); (first | (with_reducible assumption) | (with_reducible exact H32.size _) | (with_reducible exact enc_sz _ rfl) | kernel_rfl); (first | (with_reducible exact u8s_one _) | (with_reducible assumption) | (with_reducible exact enc_one _) | kernel_rfl); intro ws _ _) | ((with_reducible apply wpl_storecell); (exact rfl); (exact rfl); infer_instance; (exact rfl); (first | (with_reducible assumption) | omega | (focus (simp; done)) | (focus (simp; omega; done)) | decide); intro ws _ _))
      have hc6 : HR w6 C4 (cellsOf D) := inferInstance
      refine (isTargets_calls NM V X (P := P) (D := D) hn4.out.1 hd4.out.1 (by have := hn4.out.2.2; omega) (by have := hd4.out.2.2; omega) (fun k hk => DIn.w (KIn.chg (hk4.out k hk).1 n6.out (fun _ _ h => h)))).mono ?_
      rw [tgsOk_m, hm4.out, ← HI.out]
      rintro e w7 ⟨rfl, _⟩
      cases I
      case false =>
        go_wp2_with (first | go_skip | ((with_reducible apply (wpl_alloc (dst := some 12))); intro zz wzz _ _ _) | ((with_reducible apply wpl_alloc); intro z wz _ _ _) | ((with_reducible apply (wpl_guard (op := .load _ _))); (exact rfl)) | ((with_reducible apply wpl_loadrow); (exact rfl); infer_instance; infer_instance; (first | (with_reducible assumption) | (with_reducible exact H32.size _) | (with_reducible exact enc_sz _ rfl) | kernel_rfl)) | ((with_reducible apply wpl_loadcellN); (exact rfl); infer_instance; (exact rfl)) | ((with_reducible apply wpl_storerow); (exact rfl); (exact rfl); infer_instance; infer_instance; (first | (with_reducible assumption) | (with_reducible exact H32.size _) | (with_reducible exact enc_sz _ rfl) | kernel_rfl); (first | (with_reducible assumption) | (with_reducible exact H32.size _) | (with_reducible exact enc_sz _ rfl) | kernel_rfl); (first | (with_reducible exact u8s_one _) | (with_reducible assumption) | (with_reducible exact enc_one _) | kernel_rfl); intro ws _ _) | ((with_reducible apply wpl_storecell); (exact rfl); (exact rfl); infer_instance; (exact rfl); (first | (with_reducible assumption) | omega | (focus (simp; done)) | (focus (simp; omega; done)) | decide); intro ws _ _))
        refine ret_row_ rfl rfl rfl (n := 5) rfl rfl ⟨stepN, [], 0, 0, none, 0, 0, none, 0, 0, [], [], 2, rfl, Lib.hid ⟨HM.out.symm, ⟨rfl, Nat.le_refl _, Nat.zero_le _⟩, rfl, Nat.le_refl _, Nat.zero_le _⟩, Lib.hid ⟨Rd.nil _ _, Rd.nil _ _, fun x hx => by cases hx⟩, newA_none _, newA_none _⟩
      case true =>
        have hts7 : HB w7 zt 71 #[.string (strL NM), .int .i64 V, .int .i64 X, .slice A4 n4 c4, .slice C4 m4 q4] := inferInstance
        have ho7 : HB w7 zo 71 #[.string ⟨#[]⟩, .int .i64 0, .int .i64 0, .slice none 0 0, .slice none 0 0] := inferInstance
        have n47 : Nw w4 w7 := inferInstance
        go_wp2_with (first | go_skip | ((with_reducible apply wpl_alloc); intro z wz _ _ _) | ((with_reducible apply (wpl_guard (op := .load _ _))); (exact rfl)) | ((with_reducible apply wpl_loadrow); (exact rfl); infer_instance; infer_instance; (first | (with_reducible assumption) | (with_reducible exact H32.size _) | (with_reducible exact enc_sz _ rfl) | kernel_rfl)) | ((with_reducible apply wpl_loadcellN); (exact rfl); infer_instance; (exact rfl)) | ((with_reducible apply wpl_storerow); (exact rfl); (exact rfl); infer_instance; infer_instance; (first | (with_reducible assumption) | (with_reducible exact H32.size _) | (with_reducible exact enc_sz _ rfl) | kernel_rfl); (first | (with_reducible assumption) | (with_reducible exact H32.size _) | (with_reducible exact enc_sz _ rfl) | kernel_rfl); (first | (with_reducible exact u8s_one _) | (with_reducible assumption) | (with_reducible exact enc_one _) | kernel_rfl); intro ws _ _) | ((with_reducible apply wpl_storecell); (exact rfl); (exact rfl); infer_instance; (exact rfl); (first | (with_reducible assumption) | omega | (focus (simp; done)) | (focus (simp; omega; done)) | decide); intro ws _ _))
        have hcF : Chg (only zo) w7 ws := (inferInstance : Step (only zo) w7 ws).chg
        refine ret_row_ rfl rfl rfl (n := 5) rfl rfl ⟨stepN, NM, V, X, A4, n4, c4, C4, m4, q4, P, D, 0, rfl, Lib.hid ⟨by rw [hm4.out]; exact HM.out.symm, hn4.out, hd4.out⟩, Lib.hid ⟨?_, ?_, fun x hx => ⟨?_, ⟨fun ad e => Nat.le_trans hs3 ((hk4.out x hx).2.out ad e)⟩⟩⟩, ⟨fun ad e => Nat.le_trans hs3 (hA4.out ad e)⟩, ⟨fun ad e => Nat.le_trans hs3 (hC4.out ad e)⟩⟩
        · exact (hr4.out.chg n47.out (fun _ _ _ h => h)).chg hcF (fun _ ad e h => by
            have h' : ad.block = zo := h
            have := hA4.out ad e
            omega)
        · exact (hc4.out.chg n47.out (fun _ _ _ h => h)).chg hcF (fun _ ad e h => by
            have h' : ad.block = zo := h
            have := hC4.out ad e
            omega)
        · exact (KIn.chg (hk4.out x hx).1 n47.out (fun _ _ h => h)).chg hcF (fun y ⟨_, ad, e, h9⟩ h => by
            have h' : y = zo := h
            have := (hk4.out x hx).2.out ad e
            omega)
set_option maxRecDepth 100000 in
set_option maxHeartbeats 1600000 in
theorem DecodeTargets_calls {A : Option Addr} {n c : Nat} {b : List UInt8} {w : World} [hr : HR w A (bs b)] (hl : b.length = n) (hn : n ≤ 140737488351232) :
    Calls Try.prog 34 #[.slice A n c] w (DecTg b w) := by
  unfold DecTg
  go_enter Try.func34, Try.ntmps34
  go_wp2_with (first | ((with_reducible apply (wpl_alloc (dst := some 2))); intro zo wzo _ _ _) | ((with_reducible apply wpl_alloc); intro z wz _ _ _) | ((with_reducible apply wpl_storerow); (exact rfl); (exact rfl); infer_instance; infer_instance; (first | (with_reducible assumption) | (with_reducible exact H32.size _) | (with_reducible exact enc_sz _ rfl) | kernel_rfl); (first | (with_reducible assumption) | (with_reducible exact H32.size _) | (with_reducible exact enc_sz _ rfl) | kernel_rfl); (first | (with_reducible exact u8s_one _) | (with_reducible assumption) | (with_reducible exact enc_one _) | kernel_rfl); intro ws _ _) | ((with_reducible apply wpl_storecell); (exact rfl); (exact rfl); infer_instance; (exact rfl); (first | (with_reducible assumption) | omega | (focus (simp; done)) | (focus (simp; omega; done)) | decide); intro ws _ _))
  have hzol := (inferInstance : HB wzo zo 71 #[.string ⟨#[]⟩, .int .i64 0, .int .i64 0, .slice none 0 0, .slice none 0 0]).out.lt
  refine (decTgs_calls (b := b) hl hn).mono ?_
  rintro e w2 ⟨_, nm, v, x, A2, n2, c2, C2, m2, q2, P, D, err, rfl, hP, hR, hA, hC⟩
  have ho2 : HB w2 zo 71 #[.string ⟨#[]⟩, .int .i64 0, .int .i64 0, .slice none 0 0, .slice none 0 0] := inferInstance
  have hsz := (inferInstance : SzLe w wzo).out
  go_wp2_with (first | ((with_reducible apply wpl_alloc); intro z wz _ _ _) | ((with_reducible apply wpl_storerow); (exact rfl); (exact rfl); infer_instance; infer_instance; (first | (with_reducible assumption) | (with_reducible exact H32.size _) | (with_reducible exact enc_sz _ rfl) | kernel_rfl); (first | (with_reducible assumption) | (with_reducible exact H32.size _) | (with_reducible exact enc_sz _ rfl) | kernel_rfl); (first | (with_reducible exact u8s_one _) | (with_reducible assumption) | (with_reducible exact enc_one _) | kernel_rfl); intro ws _ _) | ((with_reducible apply wpl_storecell); (exact rfl); (exact rfl); infer_instance; (exact rfl); (first | (with_reducible assumption) | omega | (focus (simp; done)) | (focus (simp; omega; done)) | decide); intro ws _ _))
  have hcF : Chg (only zo) w2 ws := (inferInstance : Step (only zo) w2 ws).chg
  refine ret_row_ rfl rfl rfl (n := 5) rfl rfl ⟨stepN, nm, v, x, A2, n2, c2, C2, m2, q2, P, D, err, rfl, hP, Lib.hid ⟨?_, ?_, fun x hx => ⟨?_, ⟨fun ad e => Nat.le_trans hsz ((hR.out.2.2 x hx).2.out ad e)⟩⟩⟩, ⟨fun ad e => Nat.le_trans hsz (hA.out ad e)⟩, ⟨fun ad e => Nat.le_trans hsz (hC.out ad e)⟩⟩
  · exact hR.out.1.chg hcF (fun _ ad e h => by
      have h' : ad.block = zo := h
      have := hA.out ad e
      omega)
  · exact hR.out.2.1.chg hcF (fun _ ad e h => by
      have h' : ad.block = zo := h
      have := hC.out ad e
      omega)
  · exact (hR.out.2.2 x hx).1.chg hcF (fun y ⟨_, ad, e, h9⟩ h => by
      have h' : y = zo := h
      have := (hR.out.2.2 x hx).2.out ad e
      omega)
end Go.Proofs.Ythcleccofccbdaa
