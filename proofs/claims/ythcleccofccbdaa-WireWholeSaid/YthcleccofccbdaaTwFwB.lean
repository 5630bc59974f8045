/- FwB -/
import Derived.Test.YthcleccofccbdaaTwFwA
import Derived.Test.YthcleccofccbdaaTwTgL
open Go Go.RowKit
namespace Go.Proofs.Ythcleccofccbdaa
def tgsEM (nm : List UInt8) (v e0 : Int) (P : List TargetR) (M : List DlM) : List UInt8 := encAll [4] ++ (encRow nm ++ (encAll [v, e0] ++ ((encAll [(P.length : Int)] ++ tgsE P) ++ (encAll [(M.length : Int)] ++ M.flatMap dlME))))
theorem tgsB_m (nm : List UInt8) (v e0 : Int) {n m : Nat} {P : List TargetR} {D : List DeleR} (hl : P.length = n) (hm : D.length = m) : encAll [4] ++ tgsB nm v e0 n m P D = tgsEM nm v e0 P (D.map DeleR.m) := by
  unfold tgsB tgsEM dlsE
  rw [List.length_map, hl, hm, List.flatMap_map]
  rfl
theorem tgsOkM_in {nm : List UInt8} {v e0 : Int} {P : List TargetR} {M : List DlM} (h : tgsOkM nm v e0 P M = true) : nm.length ≤ 12 ∧ (1 ≤ v ∧ v ≤ 1073741824) ∧ (0 ≤ e0 ∧ e0 ≤ 1073741824) ∧ P.length ≤ 16 ∧ (∀ t ∈ P, tgOk t = true) ∧ M.length ≤ 16 ∧ (∀ x ∈ M, dlOkM x = true) := by
  unfold tgsOkM at h
  rw [Bool.and_eq_true, Bool.and_eq_true, Bool.and_eq_true, Bool.and_eq_true, Bool.and_eq_true, Bool.and_eq_true, Bool.and_eq_true, Bool.and_eq_true, decide_eq_true_eq, decide_eq_true_eq] at h
  exact ⟨nameL_le h.1.1.1.1.1.1.1.1, verB_in h.1.1.1.1.1.1.1.2, numB_in h.1.1.1.1.1.1.2, h.1.1.1.1.1.2, List.all_eq_true.1 h.1.1.1.1.2, h.1.1.2, List.all_eq_true.1 h.1.2⟩
theorem kind_fwd {k : Nat} (h : k ≤ 4611686018427387904) (r : List UInt8) : kindS k (encAll [(k : Int)] ++ r) = ⟨r, false⟩ := by
  have hn := numI_fwd (v := (k : Int)) (by omega) (by omega) r
  unfold kindS
  rw [hn, Int.toNat_natCast, if_pos rfl]
theorem at2_fwd {v e0 : Int} (hv : 0 ≤ v ∧ v ≤ 1073741824) (he : 0 ≤ e0 ∧ e0 ≤ 1073741824) (r : List UInt8) : (⟨encAll [v, e0] ++ r, false⟩ : RS).num.1 = v.toNat ∧ ((⟨encAll [v, e0] ++ r, false⟩ : RS).at 1).num.1 = e0.toNat ∧ (⟨encAll [v, e0] ++ r, false⟩ : RS).at 2 = ⟨r, false⟩ := by
  have e : encAll [v, e0] ++ r = encAll [v] ++ (encAll [e0] ++ r) := by
    rw [show [v, e0] = [v] ++ [e0] from rfl, encAll_app, List.append_assoc]
  have h1 := numI_fwd (v := v) hv.1 (by omega) (encAll [e0] ++ r)
  have h2 := numI_fwd (v := e0) he.1 (by omega) r
  have a1 : (⟨encAll [v, e0] ++ r, false⟩ : RS).at 1 = ⟨encAll [e0] ++ r, false⟩ := by
    show (⟨encAll [v, e0] ++ r, false⟩ : RS).num.2 = _
    rw [e, h1]
  refine ⟨by rw [e, h1], by rw [a1, h2], ?_⟩
  show ((⟨encAll [v, e0] ++ r, false⟩ : RS).at 1).num.2 = _
  rw [a1, h2]
theorem tgs_fwd {nm : List UInt8} {v e0 : Int} {P : List TargetR} {M : List DlM} (h : tgsOkM nm v e0 P M = true) (r : List UInt8) : tgN (tgsEM nm v e0 P M ++ r) = nm ∧ (tgVv (tgsEM nm v e0 P M ++ r) : Int) = v ∧ (tgX (tgsEM nm v e0 P M ++ r) : Int) = e0 ∧ tgP (tgsEM nm v e0 P M ++ r) = P ∧ tgD (tgsEM nm v e0 P M ++ r) = M ∧ tgR2 (tgsEM nm v e0 P M ++ r) = ⟨r, false⟩ := by
  obtain ⟨h1, ⟨h2, h3⟩, ⟨h4, h5⟩, h6, h7, h8, h9⟩ := tgsOkM_in h
  have e : tgsEM nm v e0 P M ++ r = encAll [((4 : Nat) : Int)] ++ (encRow nm ++ (encAll [v, e0] ++ (encAll [(P.length : Int)] ++ (P.flatMap tgE ++ (encAll [(M.length : Int)] ++ (M.flatMap dlME ++ r)))))) := by simp [tgsEM, tgsE]
  obtain ⟨l1, l2⟩ := lst_fwd (tk := tgTk) (ef := tgE) 16 P h6 (by omega) (fun x hx r => tg_fwd (h7 x hx) r) (encAll [(M.length : Int)] ++ (M.flatMap dlME ++ r))
  obtain ⟨m1, m2⟩ := lst_fwd (tk := dlTk) (ef := dlME) 16 M h8 (by omega) (fun x hx r => dl_fwd (h9 x hx) r) r
  have hk := kind_fwd (k := 4) (by decide) (encRow nm ++ (encAll [v, e0] ++ (encAll [(P.length : Int)] ++ (P.flatMap tgE ++ (encAll [(M.length : Int)] ++ (M.flatMap dlME ++ r))))))
  have hr := row_fwd nm (encAll [v, e0] ++ (encAll [(P.length : Int)] ++ (P.flatMap tgE ++ (encAll [(M.length : Int)] ++ (M.flatMap dlME ++ r))))) (by omega)
  obtain ⟨a1, a2, a3⟩ := at2_fwd (v := v) (e0 := e0) ⟨by omega, h3⟩ ⟨h4, h5⟩ (encAll [(P.length : Int)] ++ (P.flatMap tgE ++ (encAll [(M.length : Int)] ++ (M.flatMap dlME ++ r))))
  have hs : tgsS (kindS 4 (tgsEM nm v e0 P M ++ r)) = ⟨encAll [(P.length : Int)] ++ (P.flatMap tgE ++ (encAll [(M.length : Int)] ++ (M.flatMap dlME ++ r))), false⟩ := by
    unfold tgsS
    rw [e, hk, hr]
    exact a3
  have h1r : tgR1 (tgsEM nm v e0 P M ++ r) = ⟨encAll [(M.length : Int)] ++ (M.flatMap dlME ++ r), false⟩ := by
    unfold tgR1
    rw [hs, l2]
  refine ⟨?_, ?_, ?_, ?_, ?_, ?_⟩
  · unfold tgN
    rw [e, hk, hr]
  · unfold tgVv
    rw [e, hk, hr]
    show (((⟨_, false⟩ : RS).num.1 : Nat) : Int) = v
    rw [a1]
    omega
  · unfold tgX
    rw [e, hk, hr]
    show ((((⟨_, false⟩ : RS).at 1).num.1 : Nat) : Int) = e0
    rw [a2]
    omega
  · unfold tgP
    rw [hs, l1]
  · unfold tgD
    rw [h1r, m1]
  · unfold tgR2
    rw [h1r, m2]
theorem tgs_back {b : List UInt8} (h : tgsOkB b = true) : tgsOkM (tgN b) (tgVv b) (tgX b) (tgP b) (tgD b) = true ∧ b = tgsEM (tgN b) (tgVv b) (tgX b) (tgP b) (tgD b) := by
  unfold tgsOkB at h
  rw [Bool.and_eq_true] at h
  refine ⟨h.2, ?_⟩
  obtain ⟨h1, h2⟩ := whole_back h.1
  obtain ⟨a1, a2, _⟩ := dlTakes.lst_back (s := tgR1 b) h1
  have h3 : (lstS dlTk 16 (tgR1 b)).b = [] := h2
  rw [h3, List.append_nil] at a2
  obtain ⟨b1, b2, _⟩ := tgTakes.lst_back (s := tgsS (kindS 4 b)) a1
  have hP : tgP b = lstL tgTk 16 (tgsS (kindS 4 b)) := rfl
  have hD : tgD b = lstL dlTk 16 (tgR1 b) := rfl
  have hR : lstS tgTk 16 (tgsS (kindS 4 b)) = tgR1 b := rfl
  rw [← hD] at a2
  rw [← hP, hR, a2] at b2
  have hN : tgN b = (kindS 4 b).row.1 := rfl
  have hV : tgVv b = (kindS 4 b).row.2.num.1 := rfl
  have hX : tgX b = ((kindS 4 b).row.2.at 1).num.1 := rfl
  have hs : tgsS (kindS 4 b) = (kindS 4 b).row.2.at 2 := rfl
  rw [hs] at b1 b2
  rw [hN, hV, hX]
  generalize tgP b = P at *
  generalize tgD b = M at *
  generalize hS : kindS 4 b = S at *
  obtain ⟨c1, c2, c3⟩ := num_back (s := S.row.2.at 1) b1
  obtain ⟨d1, d2, d3⟩ := num_back (s := S.row.2) c1
  obtain ⟨f1, f2⟩ := row_back (s := S) d1
  have hb := kind_back (k := 4) (b := b) (by rw [hS]; exact f1)
  rw [hS] at hb
  have e3 : encAll [(S.row.2.num.1 : Int), ((S.row.2.at 1).num.1 : Int)] = enc S.row.2.num.1 ++ enc (S.row.2.at 1).num.1 := by
    rw [show [(S.row.2.num.1 : Int), ((S.row.2.at 1).num.1 : Int)] = [(S.row.2.num.1 : Int)] ++ [((S.row.2.at 1).num.1 : Int)] from rfl, encAll_app, encN d3, encN c3]
  rw [tgsEM, e3, show encAll [4] = enc 4 from encN (n := 4) (by decide), hb]
  congr 1
  rw [f2]
  congr 1
  rw [d2, List.append_assoc]
  congr 1
  show (S.row.2.at 1).b = _
  rw [c2]
  congr 1
  show (S.row.2.at 2).b = _
  rw [b2]
  simp [tgsE]
theorem tgsB_ok {nm : List UInt8} {v e0 : Int} {P : List TargetR} {M : List DlM} (h : tgsOkM nm v e0 P M = true) (r : List UInt8) : tgsOkB (tgsEM nm v e0 P M ++ r) = decide (r = []) := by
  obtain ⟨h1, h2, h3, h4, h5, h6⟩ := tgs_fwd h r
  unfold tgsOkB
  rw [h1, h2, h3, h4, h5, h6, h, Bool.and_true]
  rfl
theorem tgsB_cut {nm : List UInt8} {v e0 : Int} {P : List TargetR} {M : List DlM} (h : tgsOkM nm v e0 P M = true) (m : Nat) (hm : m < (tgsEM nm v e0 P M).length) : tgsOkB ((tgsEM nm v e0 P M).take m) = false := by
  rw [← Bool.not_eq_true]
  intro hk
  obtain ⟨h1, h2⟩ := tgs_back hk
  obtain ⟨_, _, _, _, _, h6⟩ := tgs_fwd h1 ((tgsEM nm v e0 P M).drop m)
  obtain ⟨_, _, _, _, _, g6⟩ := tgs_fwd h []
  rw [← h2, List.take_append_drop] at h6
  rw [List.append_nil, h6] at g6
  have h7 : (tgsEM nm v e0 P M).drop m = [] := congrArg RS.b g6
  have h8 := congrArg List.length h7
  rw [List.length_drop] at h8
  have h9 : ([] : List UInt8).length = 0 := rfl
  omega
theorem tgM_no {b : List UInt8} : tgsOkB b = false → tgM b = ([], 0, 0, [], [], 2) := fun h => by rw [tgM, if_neg (by rw [h]; decide)]
end Go.Proofs.Ythcleccofccbdaa
