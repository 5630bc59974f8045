/- TgU, FwA -/
import Derived.Test.YthcleccofccbdaaGreatTyTgS
import Derived.Test.YthcleccofccbdaaGreatTyFwE
import Derived.Test.YthcleccofccbdaaGreatTyWtC
section
open Go Go.RowKit
namespace Go.Proofs.YthcleccofccbdaaGreat
def dlOkM (x : DlM) : Bool := nameL x.1 && isB x.2.1.1 x.2.1.2 && nameE x.2.2.1
def tgsOkM (nm : List UInt8) (v e0 : Int) (P : List TargetR) (M : List DlM) : Bool := nameL nm && verB v && numB e0 && decide (P.length ≤ 16) && P.all tgOk && riseT P P.length && decide (M.length ≤ 16) && M.all dlOkM && allS (M.map Prod.fst) M.length
theorem tgsOk_m (nm : List UInt8) (v e0 : Int) (P : List TargetR) (D : List DeleR) : tgsOk nm v e0 P D = tgsOkM nm v e0 P (D.map DeleR.m) := by
  unfold tgsOk tgsOkM
  rw [List.length_map, List.all_map, List.map_map]
  rfl
/-- the state behind the targets, behind all -/
def tgR1 (b : List UInt8) : RS := lstS tgTk 16 (tgsS (kindS 4 b))
def tgR2 (b : List UInt8) : RS := lstS dlTk 16 (tgR1 b)
def tgN (b : List UInt8) : List UInt8 := (kindS 4 b).row.1
def tgVv (b : List UInt8) : Nat := (kindS 4 b).row.2.num.1
def tgX (b : List UInt8) : Nat := ((kindS 4 b).row.2.at 1).num.1
def tgP (b : List UInt8) : List TargetR := lstL tgTk 16 (tgsS (kindS 4 b))
def tgD (b : List UInt8) : List DlM := lstL dlTk 16 (tgR1 b)
def tgsOkB (b : List UInt8) : Bool := wholeB (tgR2 b) && tgsOkM (tgN b) (tgVv b) (tgX b) (tgP b) (tgD b)
/-- what is decoded -/
def tgM (b : List UInt8) : List UInt8 × Int × Int × List TargetR × List DlM × Int := if tgsOkB b then (tgN b, (tgVv b : Int), (tgX b : Int), tgP b, tgD b, 0) else ([], 0, 0, [], [], 2)
def DecTg (b : List UInt8) (w : World) : Ending → World → Prop := fun e w' => Step nowhere w w' ∧ ∃ nm v x A n c C m q P D err, e = .returned (.tuple #[.agg #[.string (strL nm), .int .i64 v, .int .i64 x, .slice A n c, .slice C m q], .int .i64 err]) ∧ Hid ((nm, v, x, P, D.map DeleR.m, err) = tgM b ∧ (P.length = n ∧ n ≤ c ∧ n ≤ 16) ∧ D.length = m ∧ m ≤ q ∧ m ≤ 16) ∧ Hid (Rd w' A (cellsOf P) ∧ Rd w' C (cellsOf D) ∧ ∀ x ∈ D, DIn w' x ∧ NewA w x.k.A) ∧ NewA w A ∧ NewA w C
set_option maxRecDepth 100000 in
set_option maxHeartbeats 3200000 in
theorem decTgs_calls {A : Option Addr} {n c : Nat} {b : List UInt8} {w : World} [hr : HR w A (bs b)] (hl : b.length = n) (hn : n ≤ 140737488351232) :
    Calls Tryz.prog 42 #[.int .i64 4, .slice A n c, .func (.func 35) #[] #[], .func (.func 43) #[] #[]] w (DecTg b w) := by
  obtain ⟨S, hS⟩ : ∃ S, S = kindS 4 b := ⟨_, rfl⟩
  obtain ⟨W, hW⟩ : ∃ W, W = wholeB (lstS dlTk 16 (lstS tgTk 16 (tgsS S))) := ⟨_, rfl⟩
  obtain ⟨NM, hNM⟩ : ∃ V, V = S.row.1 := ⟨_, rfl⟩
  obtain ⟨V, hV⟩ : ∃ V, V = S.row.2.num.1 := ⟨_, rfl⟩
  obtain ⟨X, hX⟩ : ∃ X, X = (S.row.2.at 1).num.1 := ⟨_, rfl⟩
  obtain ⟨P, hP⟩ : ∃ P, P = lstL tgTk 16 (tgsS S) := ⟨_, rfl⟩
  obtain ⟨M, hMM⟩ : ∃ M, M = lstL dlTk 16 (lstS tgTk 16 (tgsS S)) := ⟨_, rfl⟩
  obtain ⟨I, hI⟩ : ∃ I, I = tgsOkM NM V X P M := ⟨_, rfl⟩
  have hSl : S.b.length ≤ 140737488351232 := by
    have := kindS_le 4 b
    rw [← hS] at this
    omega
  have hM : tgM b = if W && I then (NM, (V : Int), (X : Int), P, M, (0 : Int)) else ([], 0, 0, [], [], 2) := by
    rw [tgM, tgsOkB, tgR2, tgD, tgR1, tgP, tgVv, tgX, tgN, ← hS, ← hW, ← hNM, ← hV, ← hX, ← hP, ← hMM, ← hI]
  have HNM := Lib.hid hNM
  have HMM := Lib.hid hMM
  have HM := Lib.hid hM
  have HRR := Lib.hid hr.out
  have HS := Lib.hid hS
  have HW := Lib.hid hW
  have HI := Lib.hid hI
  have HV := Lib.hid hV
  have HX := Lib.hid hX
  have HP := Lib.hid hP
  have HLE := Lib.hid hl
  unfold DecTg
  clear hS hW hI hV hX hM hP hNM hMM
  go_enter Tryz.func42, Tryz.ntmps42
  go_wp2_with (first | ((with_reducible apply (wpl_alloc (dst := some 8))); intro zo wzo _ _ _))
  refine (NewReader_calls A n c b _ (HRR.out.later (stepN (w0 := w)).chg) HLE.out (by omega)).mono ?_
  rintro e w2 ⟨g, d, rfl, h2, c2, hg, hd⟩
  have st2 : Step nowhere _ w2 := ⟨c2.out⟩
  have hgw : w.heap.size ≤ g := Nat.le_trans (inferInstance : SzLe w wzo).out hg
  have hdw : w.heap.size ≤ d := Nat.le_trans (inferInstance : SzLe w wzo).out hd
  have hzol := (inferInstance : HB wzo zo 25 #[.string ⟨#[]⟩, .int .i64 0, .int .i64 0, .slice none 0 0, .slice none 0 0]).out.lt
  have hzo : w.heap.size ≤ zo := Nat.le_of_eq (inferInstance : Born w zo).eq.symm
  have ozg : OffB (only g) zo := ⟨fun e => by have e' : zo = g := e; omega⟩
  have ag : Above w (only g) := ⟨fun k h => by have h' : k = g := h; omega⟩
  go_wp2_with fail
  refine (Num_calls g d _ w2 h2.out (by show b.length ≤ _; have := HLE.out; omega)).mono ?_
  rintro e w3 ⟨rfl, h3, c3⟩
  have st3 : Step (only g) w2 w3 := ⟨c3.out⟩
  obtain ⟨q, hq⟩ : ∃ q, q = (⟨b, false⟩ : RS).num.1 := ⟨_, rfl⟩
  rw [← hq]
  clear c2 c3 h2
  by_cases hk : q = 4
  focus
    have HSS : Hid (RdrAt w3 g d S) := Lib.hid (by
      rw [HS.out, kindS, if_pos (by rw [← hq]; exact hk)]
      exact h3.out)
    have hqI : (q : Int) = 4 := by omega
    have hb3 : zo < w3.heap.size := Nat.lt_of_lt_of_le hzol (inferInstance : SzLe wzo w3).out
    have hs3 : w.heap.size ≤ w3.heap.size := (inferInstance : SzLe w w3).out
    clear h3 hq hk
    rw [hqI]
    clear hqI
    go_wp2_with fail
    refine (takeTargets_calls HSS.out hSl).mono ?_
    clear HSS
    generalize w3 = wB at *
  rotate_left
  focus
    have HSS0 : Hid (S = RS.bad) := Lib.hid (by rw [HS.out, kindS, if_neg (by rw [← hq]; exact hk)])
    have hqI : ((q : Int) == 4) = false := by simp; omega
    have hqJ : (q : Int) < 4 ∨ 4 < (q : Int) := by omega
    have H3 := h3
    clear h3 hq hk
    go_wp2_with fail
    refine (Bad_calls g d _ _ H3.out).mono ?_
    rintro e w3b ⟨rfl, h3b, c3b⟩
    have st3b : Step (only g) w3 w3b := ⟨c3b.out⟩
    have HSS : Hid (RdrAt w3b g d S) := Lib.hid (by rw [HSS0.out]; exact h3b.out)
    have hb3 : zo < w3b.heap.size := Nat.lt_of_lt_of_le hzol (inferInstance : SzLe wzo w3b).out
    have hs3 : w.heap.size ≤ w3b.heap.size := (inferInstance : SzLe w w3b).out
    clear h3b c3b H3
    go_wp2_with fail
    refine (takeTargets_calls HSS.out hSl).mono ?_
    clear HSS HSS0 hqI hqJ
    generalize w3b = wB at *
  rotate_left
  all_goals
    rw [← HNM.out, ← HV.out, ← HX.out, ← HP.out, ← HMM.out]
    rintro e w4 ⟨A4, n4, c4, C4, m4, q4, D, rfl, st4, h4, hr4, hA4, hc4, hC4, hm4, hk4, hn4, hd4⟩
    have ho4 : HB w4 zo 25 #[.string ⟨#[]⟩, .int .i64 0, .int .i64 0, .slice none 0 0, .slice none 0 0] := inferInstance
    have nw4 : Nw w w4 := inferInstance
    go_wp2_with (first | ((with_reducible apply (wpl_alloc (dst := some 11))); intro zt wzt _ _ _) | ((with_reducible apply wpl_storerow); (exact rfl); (exact rfl); infer_instance; infer_instance; (first | (with_reducible assumption) | (with_reducible exact H32.size _) | (with_reducible exact enc_sz _ rfl) | kernel_rfl); (first | (with_reducible assumption) | (with_reducible exact H32.size _) | (with_reducible exact enc_sz _ rfl) | kernel_rfl); (first | (with_reducible exact u8s_one _) | (with_reducible assumption) | (with_reducible exact enc_one _) | kernel_rfl); intro ws _ _))
    have hzt4 : w4.heap.size ≤ zt := Nat.le_of_eq (inferInstance : Born w4 zt).eq.symm
    have hs4 : wB.heap.size ≤ w4.heap.size := st4.chg.size
    have izt : Into w4 (only zt) (only zo) := ⟨fun x hx h => by have h' : x = zt := h; omega⟩
    have hts : HB ws zt 25 #[.string (strL NM), .int .i64 V, .int .i64 X, .slice A4 n4 c4, .slice C4 m4 q4] := inferInstance
    refine (Whole_calls g d (lstS dlTk 16 (lstS tgTk 16 (tgsS S))) _ (h4.out.chg (inferInstance : Nw w4 _).out (fun h => h) (fun h => h)) (by have h5 := tgTakes.lstS_le 16 (tgsS S); have h6 := dlTakes.lstS_le 16 (lstS tgTk 16 (tgsS S)); have h7 : (tgsS S).b.length ≤ S.row.2.b.length := S.row.2.at_le 2; have h8 := RS.row_le S; omega)).mono ?_
    have e6 : (!(lstS dlTk 16 (lstS tgTk 16 (tgsS S))).e && decide ((lstS dlTk 16 (lstS tgTk 16 (tgsS S))).b = [])) = W := by rw [HW.out]; rfl
    rw [e6]
    rintro e w6 ⟨rfl, rfl⟩
    clear e6
    cases W
    case false =>
      go_wp2_with (first | ((with_reducible apply (wpl_alloc (dst := some 12))); intro zz wzz _ _ _) | ((with_reducible apply wpl_loadrow); (exact rfl); infer_instance; infer_instance; (first | (with_reducible assumption) | (with_reducible exact H32.size _) | (with_reducible exact enc_sz _ rfl) | kernel_rfl)) | ((with_reducible apply wpl_storerow); (exact rfl); (exact rfl); infer_instance; infer_instance; (first | (with_reducible assumption) | (with_reducible exact H32.size _) | (with_reducible exact enc_sz _ rfl) | kernel_rfl); (first | (with_reducible assumption) | (with_reducible exact H32.size _) | (with_reducible exact enc_sz _ rfl) | kernel_rfl); (first | (with_reducible exact u8s_one _) | (with_reducible assumption) | (with_reducible exact enc_one _) | kernel_rfl); intro ws _ _))
      refine ret_row_ rfl rfl rfl (n := 5) rfl rfl ⟨stepN, [], 0, 0, none, 0, 0, none, 0, 0, [], [], 2, rfl, Lib.hid ⟨HM.out.symm, ⟨rfl, Nat.le_refl _, Nat.zero_le _⟩, rfl, Nat.le_refl _, Nat.zero_le _⟩, Lib.hid ⟨Rd.nil _ _, Rd.nil _ _, fun x hx => by cases hx⟩, newA_none _, newA_none _⟩
    case true =>
      have hr6 : HR w6 A4 (cellsOf P) := inferInstance
      have n6 : Nw w4 w6 := inferInstance
      go_wp2_with (first | ((with_reducible apply (wpl_guard (op := .load _ _))); (exact rfl)) | ((with_reducible apply wpl_loadrow); (exact rfl); infer_instance; infer_instance; (first | (with_reducible assumption) | (with_reducible exact H32.size _) | (with_reducible exact enc_sz _ rfl) | kernel_rfl)))
      have hc6 : HR w6 C4 (cellsOf D) := inferInstance
      refine (isTargets_calls NM V X (P := P) (D := D) hn4.out.1 hd4.out.1 (by have := hn4.out.2.2; omega) (by have := hd4.out.2.2; omega) (fun k hk => DIn.w (KIn.chg (hk4.out k hk).1 n6.out (fun _ _ h => h)))).mono ?_
      rw [tgsOk_m, hm4.out, ← HI.out]
      rintro e w7 ⟨rfl, _⟩
      cases I
      case false =>
        go_wp2_with (first | ((with_reducible apply (wpl_alloc (dst := some 12))); intro zz wzz _ _ _) | ((with_reducible apply wpl_loadrow); (exact rfl); infer_instance; infer_instance; (first | (with_reducible assumption) | (with_reducible exact H32.size _) | (with_reducible exact enc_sz _ rfl) | kernel_rfl)) | ((with_reducible apply wpl_storerow); (exact rfl); (exact rfl); infer_instance; infer_instance; (first | (with_reducible assumption) | (with_reducible exact H32.size _) | (with_reducible exact enc_sz _ rfl) | kernel_rfl); (first | (with_reducible assumption) | (with_reducible exact H32.size _) | (with_reducible exact enc_sz _ rfl) | kernel_rfl); (first | (with_reducible exact u8s_one _) | (with_reducible assumption) | (with_reducible exact enc_one _) | kernel_rfl); intro ws _ _))
        refine ret_row_ rfl rfl rfl (n := 5) rfl rfl ⟨stepN, [], 0, 0, none, 0, 0, none, 0, 0, [], [], 2, rfl, Lib.hid ⟨HM.out.symm, ⟨rfl, Nat.le_refl _, Nat.zero_le _⟩, rfl, Nat.le_refl _, Nat.zero_le _⟩, Lib.hid ⟨Rd.nil _ _, Rd.nil _ _, fun x hx => by cases hx⟩, newA_none _, newA_none _⟩
      case true =>
        have hts7 : HB w7 zt 25 #[.string (strL NM), .int .i64 V, .int .i64 X, .slice A4 n4 c4, .slice C4 m4 q4] := inferInstance
        have ho7 : HB w7 zo 25 #[.string ⟨#[]⟩, .int .i64 0, .int .i64 0, .slice none 0 0, .slice none 0 0] := inferInstance
        have n47 : Nw w4 w7 := inferInstance
        go_wp2_with (first | ((with_reducible apply wpl_loadrow); (exact rfl); infer_instance; infer_instance; (first | (with_reducible assumption) | (with_reducible exact H32.size _) | (with_reducible exact enc_sz _ rfl) | kernel_rfl)) | ((with_reducible apply wpl_storerow); (exact rfl); (exact rfl); infer_instance; infer_instance; (first | (with_reducible assumption) | (with_reducible exact H32.size _) | (with_reducible exact enc_sz _ rfl) | kernel_rfl); (first | (with_reducible assumption) | (with_reducible exact H32.size _) | (with_reducible exact enc_sz _ rfl) | kernel_rfl); (first | (with_reducible exact u8s_one _) | (with_reducible assumption) | (with_reducible exact enc_one _) | kernel_rfl); intro ws _ _))
        have hcF : Chg (only zo) w7 ws := (inferInstance : Step (only zo) w7 ws).chg
        refine ret_row_ rfl rfl rfl (n := 5) rfl rfl ⟨stepN, NM, V, X, A4, n4, c4, C4, m4, q4, P, D, 0, rfl, Lib.hid ⟨by rw [hm4.out]; exact HM.out.symm, hn4.out, hd4.out⟩, Lib.hid ⟨?_, ?_, fun x hx => ⟨?_, ⟨fun ad e => Nat.le_trans hs3 ((hk4.out x hx).2.out ad e)⟩⟩⟩, ⟨fun ad e => Nat.le_trans hs3 (hA4.out ad e)⟩, ⟨fun ad e => Nat.le_trans hs3 (hC4.out ad e)⟩⟩
        · exact (hr4.out.chg n47.out (fun _ _ _ h => h)).chg hcF (fun _ ad e h => by
            have h' : ad.block = zo := h
            have := hA4.out ad e
            omega)
        · exact (hc4.out.chg n47.out (fun _ _ _ h => h)).chg hcF (fun _ ad e h => by
            have h' : ad.block = zo := h
            have := hC4.out ad e
            omega)
        · exact (KIn.chg (hk4.out x hx).1 n47.out (fun _ _ h => h)).chg hcF (fun y ⟨_, ad, e, h9⟩ h => by
            have h' : y = zo := h
            have := (hk4.out x hx).2.out ad e
            omega)
set_option maxRecDepth 100000 in
set_option maxHeartbeats 1600000 in
theorem DecodeTargets_calls {A : Option Addr} {n c : Nat} {b : List UInt8} {w : World} [hr : HR w A (bs b)] (hl : b.length = n) (hn : n ≤ 140737488351232) :
    Calls Tryz.prog 9 #[.slice A n c] w (DecTg b w) := by
  unfold DecTg
  go_enter Tryz.func9, Tryz.ntmps9
  go_wp2_with (first | ((with_reducible apply (wpl_alloc (dst := some 2))); intro zo wzo _ _ _))
  have hzol := (inferInstance : HB wzo zo 25 #[.string ⟨#[]⟩, .int .i64 0, .int .i64 0, .slice none 0 0, .slice none 0 0]).out.lt
  refine (decTgs_calls (b := b) hl hn).mono ?_
  rintro e w2 ⟨_, nm, v, x, A2, n2, c2, C2, m2, q2, P, D, err, rfl, hP, hR, hA, hC⟩
  have ho2 : HB w2 zo 25 #[.string ⟨#[]⟩, .int .i64 0, .int .i64 0, .slice none 0 0, .slice none 0 0] := inferInstance
  have hsz := (inferInstance : SzLe w wzo).out
  go_wp2_with (first | ((with_reducible apply wpl_storerow); (exact rfl); (exact rfl); infer_instance; infer_instance; (first | (with_reducible assumption) | (with_reducible exact H32.size _) | (with_reducible exact enc_sz _ rfl) | kernel_rfl); (first | (with_reducible assumption) | (with_reducible exact H32.size _) | (with_reducible exact enc_sz _ rfl) | kernel_rfl); (first | (with_reducible exact u8s_one _) | (with_reducible assumption) | (with_reducible exact enc_one _) | kernel_rfl); intro ws _ _))
  have hcF : Chg (only zo) w2 ws := (inferInstance : Step (only zo) w2 ws).chg
  refine ret_row_ rfl rfl rfl (n := 5) rfl rfl ⟨stepN, nm, v, x, A2, n2, c2, C2, m2, q2, P, D, err, rfl, hP, Lib.hid ⟨?_, ?_, fun x hx => ⟨?_, ⟨fun ad e => Nat.le_trans hsz ((hR.out.2.2 x hx).2.out ad e)⟩⟩⟩, ⟨fun ad e => Nat.le_trans hsz (hA.out ad e)⟩, ⟨fun ad e => Nat.le_trans hsz (hC.out ad e)⟩⟩
  · exact hR.out.1.chg hcF (fun _ ad e h => by
      have h' : ad.block = zo := h
      have := hA.out ad e
      omega)
  · exact hR.out.2.1.chg hcF (fun _ ad e h => by
      have h' : ad.block = zo := h
      have := hC.out ad e
      omega)
  · exact (hR.out.2.2 x hx).1.chg hcF (fun y ⟨_, ad, e, h9⟩ h => by
      have h' : y = zo := h
      have := (hR.out.2.2 x hx).2.out ad e
      omega)
end Go.Proofs.YthcleccofccbdaaGreat
end
section
open Go Go.RowKit
namespace Go.Proofs.YthcleccofccbdaaGreat
theorem numI_fwd {v : Int} (h0 : 0 ≤ v) (h : v ≤ 4611686018427387904) (r : List UInt8) : (⟨encAll [v] ++ r, false⟩ : RS).num = (v.toNat, ⟨r, false⟩) := by
  have hc : clampN v = v.toNat := by unfold clampN; omega
  rw [encAll_one, hc, num_enc _ _ (by omega)]
theorem row_fwd (b r : List UInt8) (h : b.length ≤ 4611686018427387904) : (⟨encRow b ++ r, false⟩ : RS).row = (b, ⟨r, false⟩) := by
  unfold RS.row encRow
  rw [List.append_assoc, num_enc _ _ h]
  unfold RS.raw
  rw [if_neg (by
    rintro (h1 | h1 | h1)
    · cases h1
    · exact absurd h1 (by simp)
    · have h2 : ((b ++ r).length : Int) < (b.length : Int) := h1
      rw [List.length_append] at h2
      omega)]
  show ((b ++ r).take (b.length : Int).toNat, (⟨(b ++ r).drop (b.length : Int).toNat, false⟩ : RS)) = _
  rw [Int.toNat_natCast, List.take_left' rfl, List.drop_left' rfl]
theorem raw_fwd (h : H32) (r : List UInt8) : (⟨h.l ++ r, false⟩ : RS).raw 32 = (h.l, ⟨r, false⟩) := by
  unfold RS.raw
  rw [if_neg (by
    rintro (h1 | h1 | h1)
    · cases h1
    · omega
    · rw [List.length_append, h.len] at h1
      omega)]
  show ((h.l ++ r).take 32, (⟨(h.l ++ r).drop 32, false⟩ : RS)) = _
  rw [List.take_left' h.len, List.drop_left' h.len]
theorem hsh_fwd (h : H32) (r : List UInt8) : (⟨h.l ++ r, false⟩ : RS).hsh = h := by
  unfold RS.hsh
  rw [raw_fwd]
  exact H32.ext' (by rw [dif_pos (show (h.l, (⟨r, false⟩ : RS)).1.length = 32 from h.len)])
theorem hnx_fwd (h : H32) (r : List UInt8) : (⟨h.l ++ r, false⟩ : RS).hnx = ⟨r, false⟩ := by
  unfold RS.hnx
  rw [raw_fwd]
section
variable {α : Type} {tk : RS → α × RS} {ef : α → List UInt8}
theorem tkS_fwd (L : List α) (h : ∀ x ∈ L, ∀ r, tk ⟨ef x ++ r, false⟩ = (x, ⟨r, false⟩)) (r : List UInt8) : ∀ k, k ≤ L.length → tkS tk ⟨L.flatMap ef ++ r, false⟩ k = ⟨(L.drop k).flatMap ef ++ r, false⟩ ∧ tkL tk ⟨L.flatMap ef ++ r, false⟩ k = L.take k
  | 0, _ => ⟨rfl, rfl⟩
  | k + 1, hk => by
    obtain ⟨h1, h2⟩ := tkS_fwd L h r k (by omega)
    have hd : L.drop k = L[k] :: L.drop (k + 1) := List.drop_eq_getElem_cons (by omega)
    have e : tk ⟨(L.drop k).flatMap ef ++ r, false⟩ = (L[k], ⟨(L.drop (k + 1)).flatMap ef ++ r, false⟩) := by
      rw [hd, List.flatMap_cons, List.append_assoc]
      exact h _ (List.getElem_mem _) _
    constructor
    · rw [tkS, h1, e]
    · rw [tkL, h2, h1, e, List.take_append_getElem (by omega)]
theorem lst_fwd (most : Nat) (L : List α) (hm : L.length ≤ most) (h9 : L.length ≤ 4611686018427387904) (h : ∀ x ∈ L, ∀ r, tk ⟨ef x ++ r, false⟩ = (x, ⟨r, false⟩)) (r : List UInt8) :
    lstL tk most ⟨encAll [(L.length : Int)] ++ (L.flatMap ef ++ r), false⟩ = L ∧ lstS tk most ⟨encAll [(L.length : Int)] ++ (L.flatMap ef ++ r), false⟩ = ⟨r, false⟩ := by
  have hn := numI_fwd (v := (L.length : Int)) (by omega) (by omega) (L.flatMap ef ++ r)
  obtain ⟨h1, h2⟩ := tkS_fwd L h r L.length (Nat.le_refl _)
  unfold lstL lstS
  rw [hn]
  simp only [Int.toNat_natCast]
  rw [if_neg (by omega), if_neg (by omega), h1, h2]
  simp
end
theorem hS_fwd (l : List H32) (r : List UInt8) : ∀ k, k ≤ l.length → hS ⟨flatH l ++ r, false⟩ k = ⟨flatH (l.drop k) ++ r, false⟩ ∧ hN ⟨flatH l ++ r, false⟩ k = l.take k
  | 0, _ => ⟨rfl, rfl⟩
  | k + 1, hk => by
    obtain ⟨h1, h2⟩ := hS_fwd l r k (by omega)
    have hd : l.drop k = l[k] :: l.drop (k + 1) := List.drop_eq_getElem_cons (by omega)
    have e : flatH (l.drop k) ++ r = l[k].l ++ (flatH (l.drop (k + 1)) ++ r) := by
      rw [hd, ← List.append_assoc]
      rfl
    constructor
    · rw [hS, h1, e, raw_fwd]
    · rw [hN, h2, h1, e, hsh_fwd, List.take_append_getElem (by omega)]
theorem key_fwd (l : List H32) (need : Int) (hl : l.length ≤ 4) (h0 : 0 ≤ need) (h9 : need ≤ 4611686018427387904) (r : List UInt8) : kL ⟨keyB l need ++ r, false⟩ = l ∧ kD ⟨keyB l need ++ r, false⟩ = need.toNat ∧ kR ⟨keyB l need ++ r, false⟩ = ⟨r, false⟩ := by
  have e : keyB l need ++ r = encAll [(l.length : Int)] ++ (flatH l ++ (encAll [need] ++ r)) := by simp [keyB]
  have hn := numI_fwd (v := (l.length : Int)) (by omega) (by omega) (flatH l ++ (encAll [need] ++ r))
  obtain ⟨h1, h2⟩ := hS_fwd l (encAll [need] ++ r) l.length (Nat.le_refl _)
  have hM : kM ⟨keyB l need ++ r, false⟩ = ⟨encAll [need] ++ r, false⟩ := by
    unfold kM
    rw [e, hn]
    simp only [Int.toNat_natCast]
    rw [if_neg (by omega), h1]
    simp [flatH]
  refine ⟨?_, ?_, ?_⟩
  · unfold kL
    rw [e, hn]
    simp only [Int.toNat_natCast]
    rw [if_neg (by omega), h2]
    simp
  · unfold kD
    rw [hM, numI_fwd h0 h9]
  · unfold kR
    rw [hM, numI_fwd h0 h9]
theorem isB_in {l : List H32} {need : Int} (h : isB l need = true) : l.length ≤ 4 ∧ 1 ≤ need ∧ need ≤ l.length := by
  unfold isB at h
  simp only [Bool.and_eq_true, decide_eq_true_eq] at h
  exact ⟨h.1.1.1, h.1.1.2, h.1.2⟩
theorem numB_in {v : Int} (h : numB v = true) : 0 ≤ v ∧ v ≤ 1073741824 := by
  unfold numB at h
  simp only [Bool.and_eq_true, decide_eq_true_eq] at h
  exact h
theorem verB_in {v : Int} (h : verB v = true) : 1 ≤ v ∧ v ≤ 1073741824 := by
  unfold verB at h
  simp only [Bool.and_eq_true, decide_eq_true_eq] at h
  exact h
theorem tgOk_in {t : TargetR} (h : tgOk t = true) : t.l.length ≤ 12 ∧ (0 ≤ t.size ∧ t.size ≤ 512) ∧ t.hw.length ≤ 12 ∧ (0 ≤ t.ctr ∧ t.ctr ≤ 1073741824) ∧ t.ecu.length ≤ 12 := by
  unfold tgOk at h
  simp only [Bool.and_eq_true, decide_eq_true_eq] at h
  exact ⟨nameL_le h.1.1.1.1.1, ⟨h.1.1.1.1.2, h.1.1.1.2⟩, nameL_le h.1.1.2, numB_in h.1.2, nameE_le h.2⟩
theorem tg_fwd {t : TargetR} (h : tgOk t = true) (r : List UInt8) : tgTk ⟨tgE t ++ r, false⟩ = (t, ⟨r, false⟩) := by
  obtain ⟨h1, ⟨h2, h3⟩, h4, ⟨h5, h6⟩, h7⟩ := tgOk_in h
  have e : tgE t ++ r = encRow t.l ++ (encAll [t.size] ++ (t.sum.l ++ (encRow t.hw ++ (encAll [t.ctr] ++ (encRow t.ecu ++ r))))) := by simp [tgE]
  have s1 := row_fwd t.l (encAll [t.size] ++ (t.sum.l ++ (encRow t.hw ++ (encAll [t.ctr] ++ (encRow t.ecu ++ r))))) (by omega)
  have s2 := numI_fwd (v := t.size) (by omega) (by omega) (t.sum.l ++ (encRow t.hw ++ (encAll [t.ctr] ++ (encRow t.ecu ++ r))))
  have s3 := hsh_fwd t.sum (encRow t.hw ++ (encAll [t.ctr] ++ (encRow t.ecu ++ r)))
  have s4 := hnx_fwd t.sum (encRow t.hw ++ (encAll [t.ctr] ++ (encRow t.ecu ++ r)))
  have s5 := row_fwd t.hw (encAll [t.ctr] ++ (encRow t.ecu ++ r)) (by omega)
  have s6 := numI_fwd (v := t.ctr) (by omega) (by omega) (encRow t.ecu ++ r)
  have s7 := row_fwd t.ecu r (by omega)
  unfold tgTk
  rw [e, s1, s2, s3, s4, s5, s6, s7]
  cases t
  simp only [Int.toNat_of_nonneg h2, Int.toNat_of_nonneg h5] at *
theorem dlOkM_in {x : DlM} (h : dlOkM x = true) : x.1.length ≤ 12 ∧ isB x.2.1.1 x.2.1.2 = true ∧ x.2.2.1.length ≤ 12 := by
  unfold dlOkM at h
  simp only [Bool.and_eq_true] at h
  exact ⟨nameL_le h.1.1, h.1.2, nameE_le h.2⟩
theorem flag_fwd (b : Bool) (r : List UInt8) : fgV ⟨flagE b ++ r, false⟩ = b ∧ fgS ⟨flagE b ++ r, false⟩ = ⟨r, false⟩ := by
  have hn := numI_fwd (v := if b then 1 else 0) (by cases b <;> decide) (by cases b <;> decide) r
  unfold fgV fgS flagE
  rw [hn]
  cases b
  · exact ⟨rfl, rfl⟩
  · exact ⟨rfl, rfl⟩
theorem dl_fwd {x : DlM} (h : dlOkM x = true) (r : List UInt8) : dlTk ⟨dlME x ++ r, false⟩ = (x, ⟨r, false⟩) := by
  obtain ⟨h1, h2, h3⟩ := dlOkM_in h
  obtain ⟨h4, h5, h6⟩ := isB_in h2
  obtain ⟨l, ⟨ks, need⟩, pre, b⟩ := x
  dsimp only at h1 h2 h3 h4 h5 h6
  have e : dlME (l, (ks, need), pre, b) ++ r = encRow l ++ (keyB ks need ++ (encRow pre ++ (flagE b ++ r))) := by simp [dlME]
  have s1 := row_fwd l (keyB ks need ++ (encRow pre ++ (flagE b ++ r))) (by omega)
  obtain ⟨s2, s3, s4⟩ := key_fwd ks need h4 (by omega) (by omega) (encRow pre ++ (flagE b ++ r))
  have s5 := row_fwd pre (flagE b ++ r) (by omega)
  obtain ⟨s6, s7⟩ := flag_fwd b r
  unfold dlTk
  rw [e, s1, s2, s3, s4, s5, s6, s7]
  have hz : (need.toNat : Int) = need := Int.toNat_of_nonneg (by omega)
  simp only [hz]
end Go.Proofs.YthcleccofccbdaaGreat
end
