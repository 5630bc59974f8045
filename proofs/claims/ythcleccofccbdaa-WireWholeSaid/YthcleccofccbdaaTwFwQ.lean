/- FwQ -/
import Derived.Test.YthcleccofccbdaaTwFwF
import Derived.Test.YthcleccofccbdaaTwFwB
import Derived.Test.YthcleccofccbdaaTwFwP
import Derived.Test.YthcleccofccbdaaTwWnB
import Derived.Test.YthcleccofccbdaaTwRoJ
open Go Go.RowKit
namespace Go.Proofs.Ythcleccofccbdaa
instance factNilG : Fact' (([] : List UInt8).length ≤ maxLen) := ⟨Nat.zero_le _⟩
theorem run_emptyBG (w : World) : (Instr.buildSlice 28 0 #[]).run Try.prog w = .ok (.slice (some ⟨w.heap.size, 0, none⟩) 0 0) (w.alloc (.cells (u8s []) 5)) := by kernel_rfl
theorem and65535G (a : Int) : bits .and .i64 a 65535 = a % 65536 := by
  show IntKind.i64.wrap ((BitVec.ofInt 64 a &&& BitVec.ofInt 64 65535).toNat : Int) = _
  have h1 : (BitVec.ofInt 64 65535).toNat = 2 ^ 16 - 1 := by decide
  rw [BitVec.toNat_and, h1, Nat.and_two_pow_sub_one_eq_mod, BitVec.toNat_ofInt, IntKind.wrap_i64]
  omega
theorem bs_takeG (l : List UInt8) (m : Nat) : (bs l).take m = bs (l.take m) := by simp [bs]
theorem capG {w : World} {e : TypeId} {size : Nat} {A : Option Addr} {n c : Nat} {xs : List Value} (h : HO w e size A n c xs) : n ≤ c := by
  rcases h.out.form with ⟨_, h2, h3, _⟩ | ⟨g, cur, _, _, h2, _⟩
  · omega
  · exact h2
theorem tgsEM_len {nm : List UInt8} {v e0 : Int} {P : List TargetR} {D : List DeleR} (h : tgsOk nm v e0 P D = true) : 2 ≤ (tgsEM nm v e0 P (D.map DeleR.m)).length ∧ (tgsEM nm v e0 P (D.map DeleR.m)).length ≤ 100000 := by
  have hin := tgsOk_in h
  have h1 := tgsE_len P hin.2.2.1
  have h2 := dlsE_len D hin.2.2.2.2
  have h3 := nameL_le hin.1
  have h4 := encRow_len nm (by omega)
  have h5 : 1 ≤ (encAll [4]).length := by rw [encAll_one, show clampN 4 = 4 from rfl, enc_small (by decide)]; exact Nat.le_refl _
  have h6 : 1 ≤ (encRow nm).length := by
    have h7 := enc_pos nm.length
    unfold encRow
    rw [List.length_append]
    omega
  have h7 := encAll_len [4]
  have h8 := encAll_len [v, e0]
  have h9 := encAll_len [(P.length : Int)]
  have h10 := encAll_len [((D.map DeleR.m).length : Int)]
  have h11 : ((D.map DeleR.m).flatMap dlME).length = (dlsE D).length := by
    unfold dlsE
    rw [List.flatMap_map]
    rfl
  unfold tgsEM
  simp only [List.length_append, List.length_cons, List.length_nil] at *
  omega
theorem err2G {b : List UInt8} {nm : List UInt8} {v x : Int} {P : List TargetR} {M : List DlM} {err : Int} (h : (nm, v, x, P, M, err) = tgM b) (hk : tgsOkB b = false) : err = 2 := by
  rw [tgM_no hk] at h
  injection h with _ h
  injection h with _ h
  injection h with _ h
  injection h with _ h
  injection h with _ h
set_option maxRecDepth 100000 in
set_option maxHeartbeats 6400000 in
theorem wireWhole_calls (nm : List UInt8) (v e0 : Int) {Ap Cp : Option Addr} {np cp mp qp : Nat} {P : List TargetR} {D : List DeleR} {A : Option Addr} {q d : Nat} {more : List UInt8} (cut : Int) {w : World} [hrp : HR w Ap (cellsOf P)] [hrd : HR w Cp (cellsOf D)] (hpl : P.length = np) (hdl : D.length = mp) (hnp : np ≤ 1466015503700) (hmp : mp ≤ 1954687338769) (hnm : nm.length ≤ 9223372036854775807) (hP : ∀ t ∈ P, t.l.length ≤ 9223372036854775807 ∧ t.hw.length ≤ 9223372036854775807 ∧ t.ecu.length ≤ 9223372036854775807) (hD : ∀ k ∈ D, DInW w k ∧ k.l.length ≤ 9223372036854775807 ∧ k.pre.length ≤ 9223372036854775807) [hr : HR w A (bs more)] (hl : more.length = q) (hq9 : q ≤ 9223372036854775807) :
    Calls Try.prog 6 #[.agg #[.string (strL nm), .int .i64 v, .int .i64 e0, .slice Ap np cp, .slice Cp mp qp], .slice A q d, .int .i64 cut] w fun e w' => e = .returned (.bool true) ∧ Chg nowhere w w' := by
  have HLE := Lib.hid hl
  have HRR := Lib.hid hr.out
  have HPL := Lib.hid hpl
  have HDL := Lib.hid hdl
  have HPM := Lib.hid hP
  have HDM := Lib.hid hD
  have HNM := Lib.hid hnm
  have hnp9 : np ≤ 9223372036854775807 := by omega
  have hmp9 : mp ≤ 9223372036854775807 := by omega
  clear hl hpl hdl hP hD hnm
  go_enter Try.func6, Try.ntmps6
  go_wp2_with (first | go_skip | ((with_reducible apply (wpl_alloc (dst := some 3))); intro zs wzs _ _ _) | ((with_reducible apply (wpl_box_agg (dst := some 3))); (exact rfl); intro zs wzs _ _ _) | ((with_reducible apply (wpl_box_int (dst := some 3))); (exact rfl); intro zs wzs _ _ _) | ((with_reducible apply (wpl_box_slice (dst := some 3))); (exact rfl); intro zs wzs _ _ _) | ((with_reducible apply (wpl_box_str (dst := some 3))); (exact rfl); intro zs wzs _ _ _) | ((with_reducible apply (wpl_box_bool (dst := some 3))); (exact rfl); intro zs wzs _ _ _) | ((with_reducible apply (wpl_box_ptr (dst := some 3))); (exact rfl); intro zs wzs _ _ _) | ((with_reducible apply wpl_alloc); intro z wz _ _ _) | ((with_reducible apply wpl_box_agg); (exact rfl); intro z wz _ _ _) | ((with_reducible apply wpl_box_int); (exact rfl); intro z wz _ _ _) | ((with_reducible apply wpl_box_slice); (exact rfl); intro z wz _ _ _) | ((with_reducible apply wpl_box_str); (exact rfl); intro z wz _ _ _) | ((with_reducible apply wpl_box_bool); (exact rfl); intro z wz _ _ _) | ((with_reducible apply wpl_box_ptr); (exact rfl); intro z wz _ _ _) | ((with_reducible apply (wpl_guard (op := .load _ _))); (exact rfl)) | ((with_reducible apply wpl_loadrow); (exact rfl); infer_instance; infer_instance; (first | (with_reducible assumption) | (with_reducible exact H32.size _) | kernel_rfl)) | ((with_reducible apply wpl_loadcellN); (exact rfl); infer_instance; (exact rfl)) | ((with_reducible apply wpl_storerow); (exact rfl); (exact rfl); infer_instance; infer_instance; (first | (with_reducible assumption) | (with_reducible exact H32.size _) | kernel_rfl); (first | (with_reducible assumption) | (with_reducible exact H32.size _) | kernel_rfl); (first | (with_reducible exact u8s_one _) | (with_reducible assumption) | kernel_rfl); intro ws _ _) | ((with_reducible apply wpl_storecell); (exact rfl); (exact rfl); infer_instance; (exact rfl); (first | (with_reducible assumption) | omega | (focus (simp; done)) | (focus (simp; omega; done)) | decide); intro ws _ _))
  refine (heavy_calls nm v e0 (P := P) (D := D) HPL.out HDL.out hnp9 hmp9).mono ?_
  rintro e w1 ⟨⟨B, rfl⟩, _⟩
  cases B
  case true =>
    go_wp2_with (first | go_skip | ((with_reducible apply (wpl_guard (op := .call _))); (exact rfl)) | ((with_reducible apply wpl_alloc); intro z wz _ _ _) | ((with_reducible apply wpl_box_agg); (exact rfl); intro z wz _ _ _) | ((with_reducible apply wpl_box_int); (exact rfl); intro z wz _ _ _) | ((with_reducible apply wpl_box_slice); (exact rfl); intro z wz _ _ _) | ((with_reducible apply wpl_box_str); (exact rfl); intro z wz _ _ _) | ((with_reducible apply wpl_box_bool); (exact rfl); intro z wz _ _ _) | ((with_reducible apply wpl_box_ptr); (exact rfl); intro z wz _ _ _) | ((with_reducible apply (wpl_guard (op := .load _ _))); (exact rfl)) | ((with_reducible apply wpl_loadrow); (exact rfl); infer_instance; infer_instance; (first | (with_reducible assumption) | (with_reducible exact H32.size _) | kernel_rfl)) | ((with_reducible apply wpl_loadcellN); (exact rfl); infer_instance; (exact rfl)) | ((with_reducible apply wpl_storerow); (exact rfl); (exact rfl); infer_instance; infer_instance; (first | (with_reducible assumption) | (with_reducible exact H32.size _) | kernel_rfl); (first | (with_reducible assumption) | (with_reducible exact H32.size _) | kernel_rfl); (first | (with_reducible exact u8s_one _) | (with_reducible assumption) | kernel_rfl); intro ws _ _) | ((with_reducible apply wpl_storecell); (exact rfl); (exact rfl); infer_instance; (exact rfl); (first | (with_reducible assumption) | omega | (focus (simp; done)) | (focus (simp; omega; done)) | decide); intro ws _ _))
    go_ret
    exact ⟨rfl, (stepN (w0 := w)).chg⟩
  cases hok : tgsOk nm v e0 P D
  case false =>
    go_wp2_with (first | go_skip | ((with_reducible apply (wpl_guard (op := .load _ _))); (exact rfl)) | ((with_reducible apply (wpl_guard (op := .call _))); (exact rfl)) | ((with_reducible apply wpl_alloc); intro z wz _ _ _) | ((with_reducible apply wpl_box_agg); (exact rfl); intro z wz _ _ _) | ((with_reducible apply wpl_box_int); (exact rfl); intro z wz _ _ _) | ((with_reducible apply wpl_box_slice); (exact rfl); intro z wz _ _ _) | ((with_reducible apply wpl_box_str); (exact rfl); intro z wz _ _ _) | ((with_reducible apply wpl_box_bool); (exact rfl); intro z wz _ _ _) | ((with_reducible apply wpl_box_ptr); (exact rfl); intro z wz _ _ _) | ((with_reducible apply (wpl_guard (op := .load _ _))); (exact rfl)) | ((with_reducible apply wpl_loadrow); (exact rfl); infer_instance; infer_instance; (first | (with_reducible assumption) | (with_reducible exact H32.size _) | kernel_rfl)) | ((with_reducible apply wpl_loadcellN); (exact rfl); infer_instance; (exact rfl)) | ((with_reducible apply wpl_storerow); (exact rfl); (exact rfl); infer_instance; infer_instance; (first | (with_reducible assumption) | (with_reducible exact H32.size _) | kernel_rfl); (first | (with_reducible assumption) | (with_reducible exact H32.size _) | kernel_rfl); (first | (with_reducible exact u8s_one _) | (with_reducible assumption) | kernel_rfl); intro ws _ _) | ((with_reducible apply wpl_storecell); (exact rfl); (exact rfl); infer_instance; (exact rfl); (first | (with_reducible assumption) | omega | (focus (simp; done)) | (focus (simp; omega; done)) | decide); intro ws _ _))
    refine (rIsTargets_calls nm v e0 (P := P) (D := D) HPL.out HDL.out hnp hmp HNM.out HPM.out (fun k hk => ⟨DInW.nw (w0 := w) (HDM.out k hk).1, (HDM.out k hk).2⟩)).mono ?_
    rw [hok]
    rintro e w2 ⟨rfl, _⟩
    go_wp2_with (first | go_skip | ((with_reducible apply (wpl_guard (op := .load _ _))); (exact rfl)) | ((with_reducible apply (wpl_guard (op := .call _))); (exact rfl)) | ((with_reducible apply wpl_alloc); intro z wz _ _ _) | ((with_reducible apply wpl_box_agg); (exact rfl); intro z wz _ _ _) | ((with_reducible apply wpl_box_int); (exact rfl); intro z wz _ _ _) | ((with_reducible apply wpl_box_slice); (exact rfl); intro z wz _ _ _) | ((with_reducible apply wpl_box_str); (exact rfl); intro z wz _ _ _) | ((with_reducible apply wpl_box_bool); (exact rfl); intro z wz _ _ _) | ((with_reducible apply wpl_box_ptr); (exact rfl); intro z wz _ _ _) | ((with_reducible apply (wpl_guard (op := .load _ _))); (exact rfl)) | ((with_reducible apply wpl_loadrow); (exact rfl); infer_instance; infer_instance; (first | (with_reducible assumption) | (with_reducible exact H32.size _) | kernel_rfl)) | ((with_reducible apply wpl_loadcellN); (exact rfl); infer_instance; (exact rfl)) | ((with_reducible apply wpl_storerow); (exact rfl); (exact rfl); infer_instance; infer_instance; (first | (with_reducible assumption) | (with_reducible exact H32.size _) | kernel_rfl); (first | (with_reducible assumption) | (with_reducible exact H32.size _) | kernel_rfl); (first | (with_reducible exact u8s_one _) | (with_reducible assumption) | kernel_rfl); intro ws _ _) | ((with_reducible apply wpl_storecell); (exact rfl); (exact rfl); infer_instance; (exact rfl); (first | (with_reducible assumption) | omega | (focus (simp; done)) | (focus (simp; omega; done)) | decide); intro ws _ _))
    go_ret
    exact ⟨rfl, (stepN (w0 := w)).chg⟩
  go_wp2_with (first | go_skip | ((with_reducible apply (wpl_guard (op := .load _ _))); (exact rfl)) | ((with_reducible apply (wpl_guard (op := .call _))); (exact rfl)) | ((with_reducible apply wpl_alloc); intro z wz _ _ _) | ((with_reducible apply wpl_box_agg); (exact rfl); intro z wz _ _ _) | ((with_reducible apply wpl_box_int); (exact rfl); intro z wz _ _ _) | ((with_reducible apply wpl_box_slice); (exact rfl); intro z wz _ _ _) | ((with_reducible apply wpl_box_str); (exact rfl); intro z wz _ _ _) | ((with_reducible apply wpl_box_bool); (exact rfl); intro z wz _ _ _) | ((with_reducible apply wpl_box_ptr); (exact rfl); intro z wz _ _ _) | ((with_reducible apply (wpl_guard (op := .load _ _))); (exact rfl)) | ((with_reducible apply wpl_loadrow); (exact rfl); infer_instance; infer_instance; (first | (with_reducible assumption) | (with_reducible exact H32.size _) | kernel_rfl)) | ((with_reducible apply wpl_loadcellN); (exact rfl); infer_instance; (exact rfl)) | ((with_reducible apply wpl_storerow); (exact rfl); (exact rfl); infer_instance; infer_instance; (first | (with_reducible assumption) | (with_reducible exact H32.size _) | kernel_rfl); (first | (with_reducible assumption) | (with_reducible exact H32.size _) | kernel_rfl); (first | (with_reducible exact u8s_one _) | (with_reducible assumption) | kernel_rfl); intro ws _ _) | ((with_reducible apply wpl_storecell); (exact rfl); (exact rfl); infer_instance; (exact rfl); (first | (with_reducible assumption) | omega | (focus (simp; done)) | (focus (simp; omega; done)) | decide); intro ws _ _))
  refine (rIsTargets_calls nm v e0 (P := P) (D := D) HPL.out HDL.out hnp hmp HNM.out HPM.out (fun k hk => ⟨DInW.nw (w0 := w) (HDM.out k hk).1, (HDM.out k hk).2⟩)).mono ?_
  rw [hok]
  rintro e w2 ⟨rfl, _⟩
  by_cases c1 : q < 1
  · have c1I : (q : Int) < 1 := by omega
    clear c1
    go_wp2_with (first | go_skip | ((with_reducible apply (wpl_guard (op := .call _))); (exact rfl)) | ((with_reducible apply wpl_alloc); intro z wz _ _ _) | ((with_reducible apply wpl_box_agg); (exact rfl); intro z wz _ _ _) | ((with_reducible apply wpl_box_int); (exact rfl); intro z wz _ _ _) | ((with_reducible apply wpl_box_slice); (exact rfl); intro z wz _ _ _) | ((with_reducible apply wpl_box_str); (exact rfl); intro z wz _ _ _) | ((with_reducible apply wpl_box_bool); (exact rfl); intro z wz _ _ _) | ((with_reducible apply wpl_box_ptr); (exact rfl); intro z wz _ _ _) | ((with_reducible apply (wpl_guard (op := .load _ _))); (exact rfl)) | ((with_reducible apply wpl_loadrow); (exact rfl); infer_instance; infer_instance; (first | (with_reducible assumption) | (with_reducible exact H32.size _) | kernel_rfl)) | ((with_reducible apply wpl_loadcellN); (exact rfl); infer_instance; (exact rfl)) | ((with_reducible apply wpl_storerow); (exact rfl); (exact rfl); infer_instance; infer_instance; (first | (with_reducible assumption) | (with_reducible exact H32.size _) | kernel_rfl); (first | (with_reducible assumption) | (with_reducible exact H32.size _) | kernel_rfl); (first | (with_reducible exact u8s_one _) | (with_reducible assumption) | kernel_rfl); intro ws _ _) | ((with_reducible apply wpl_storecell); (exact rfl); (exact rfl); infer_instance; (exact rfl); (first | (with_reducible assumption) | omega | (focus (simp; done)) | (focus (simp; omega; done)) | decide); intro ws _ _))
    go_ret
    exact ⟨rfl, (stepN (w0 := w)).chg⟩
  have c1I : ¬ (q : Int) < 1 := by omega
  by_cases c2 : 100 < q
  · have c2I : 100 < (q : Int) := by omega
    clear c1 c2
    go_wp2_with (first | go_skip | ((with_reducible apply (wpl_guard (op := .call _))); (exact rfl)) | ((with_reducible apply wpl_alloc); intro z wz _ _ _) | ((with_reducible apply wpl_box_agg); (exact rfl); intro z wz _ _ _) | ((with_reducible apply wpl_box_int); (exact rfl); intro z wz _ _ _) | ((with_reducible apply wpl_box_slice); (exact rfl); intro z wz _ _ _) | ((with_reducible apply wpl_box_str); (exact rfl); intro z wz _ _ _) | ((with_reducible apply wpl_box_bool); (exact rfl); intro z wz _ _ _) | ((with_reducible apply wpl_box_ptr); (exact rfl); intro z wz _ _ _) | ((with_reducible apply (wpl_guard (op := .load _ _))); (exact rfl)) | ((with_reducible apply wpl_loadrow); (exact rfl); infer_instance; infer_instance; (first | (with_reducible assumption) | (with_reducible exact H32.size _) | kernel_rfl)) | ((with_reducible apply wpl_loadcellN); (exact rfl); infer_instance; (exact rfl)) | ((with_reducible apply wpl_storerow); (exact rfl); (exact rfl); infer_instance; infer_instance; (first | (with_reducible assumption) | (with_reducible exact H32.size _) | kernel_rfl); (first | (with_reducible assumption) | (with_reducible exact H32.size _) | kernel_rfl); (first | (with_reducible exact u8s_one _) | (with_reducible assumption) | kernel_rfl); intro ws _ _) | ((with_reducible apply wpl_storecell); (exact rfl); (exact rfl); infer_instance; (exact rfl); (first | (with_reducible assumption) | omega | (focus (simp; done)) | (focus (simp; omega; done)) | decide); intro ws _ _))
    go_ret
    exact ⟨rfl, (stepN (w0 := w)).chg⟩
  have c2I : ¬ 100 < (q : Int) := by omega
  have hlen := tgsEM_len hok
  have hokm : tgsOkM nm v e0 P (D.map DeleR.m) = true := by rw [← tgsOk_m]; exact hok
  obtain ⟨Y, hY⟩ : ∃ Y, Y = tgsEM nm v e0 P (D.map DeleR.m) := ⟨_, rfl⟩
  rw [← hY] at hlen
  have hbad : tgsOkB (Y ++ more) = false := by
    rw [hY, tgsB_ok hokm, decide_eq_false]
    intro h
    rw [h] at HLE
    have := HLE.out
    simp at this
    omega
  have hcut : ∀ m, m < Y.length → tgsOkB (Y.take m) = false := fun m hm => by
    rw [hY] at hm ⊢
    exact tgsB_cut hokm m hm
  have HBAD := Lib.hid hbad
  have HCUT := Lib.hid hcut
  have HY := Lib.hid hY
  have hmq : more.length = q := HLE.out
  have hdw : ∀ k ∈ D, DInW w2 k := fun k hk => DInW.nw (w0 := w) (HDM.out k hk).1
  have HDW := Lib.hid hdw
  have hEq := tgsB_m nm v e0 HPL.out HDL.out
  have HEQ := Lib.hid hEq
  have HOK := Lib.hid hok
  clear hY hdw hbad hcut hokm hEq hok
  go_wp2_with (first | go_skip | ((with_reducible apply wpl_alloc); intro z wz _ _ _) | ((with_reducible apply wpl_box_agg); (exact rfl); intro z wz _ _ _) | ((with_reducible apply wpl_box_int); (exact rfl); intro z wz _ _ _) | ((with_reducible apply wpl_box_slice); (exact rfl); intro z wz _ _ _) | ((with_reducible apply wpl_box_str); (exact rfl); intro z wz _ _ _) | ((with_reducible apply wpl_box_bool); (exact rfl); intro z wz _ _ _) | ((with_reducible apply wpl_box_ptr); (exact rfl); intro z wz _ _ _) | ((with_reducible apply (wpl_guard (op := .load _ _))); (exact rfl)) | ((with_reducible apply wpl_loadrow); (exact rfl); infer_instance; infer_instance; (first | (with_reducible assumption) | (with_reducible exact H32.size _) | kernel_rfl)) | ((with_reducible apply wpl_loadcellN); (exact rfl); infer_instance; (exact rfl)) | ((with_reducible apply wpl_storerow); (exact rfl); (exact rfl); infer_instance; infer_instance; (first | (with_reducible assumption) | (with_reducible exact H32.size _) | kernel_rfl); (first | (with_reducible assumption) | (with_reducible exact H32.size _) | kernel_rfl); (first | (with_reducible exact u8s_one _) | (with_reducible assumption) | kernel_rfl); intro ws _ _) | ((with_reducible apply wpl_storecell); (exact rfl); (exact rfl); infer_instance; (exact rfl); (first | (with_reducible assumption) | omega | (focus (simp; done)) | (focus (simp; omega; done)) | decide); intro ws _ _))
  refine (EncodeTargets_calls nm v e0 (P := P) (D := D) HPL.out HDL.out HDW.out hnp9 hmp9).mono ?_
  rw [HEQ.out, HOK.out, ← HY.out]
  rintro e w3 ⟨_, A1, n1, c1', rfl, hn1, hO1, hA1⟩
  have hcap1 : n1 ≤ c1' := capG hO1
  have hn2 : 2 ≤ n1 := by omega
  have hn9 : n1 ≤ 100000 := by omega
  have hn2I : ¬ (n1 : Int) < 2 := by omega
  have hYn : Y.length = n1 := hn1.symm
  have HN1 := Lib.hid hn1
  have hR1 : HR w3 A1 (bs Y) := ⟨hO1.out.rd⟩
  have nw3 : Nw w w3 := inferInstance
  have hm3 : HR w3 A (bs more) := nw3.hrR HRR.out
  clear hn1 hO1 hA1 hlen
  go_wp2_with (first | go_skip | ((with_reducible apply (wpl_guard (op := .call _))); (exact rfl)) | ((with_reducible apply (stop_dst (dst := some 43))); (try simp only [Act.put, sA, sB, sC]); ((with_reducible apply (wpl_bslice (dst := some 43))); (exact run_emptyBG _); intro zb wb _ _ _)) | ((with_reducible apply (stop_dst (dst := some 45))); (with_reducible apply wpl_appendB); (exact rfl); (exact rfl); infer_instance; infer_instance; infer_instance; (exact hYn); omega; intro A3 c3 wx _ hO3 _ hcap3; have hO3b : HO wx 5 1 A3 n1 c3 (bs Y) := (by simpa using hO3)) | ((with_reducible apply (stop_dst (dst := some 47))); (with_reducible apply wpl_appendB); (exact rfl); (exact rfl); infer_instance; infer_instance; infer_instance; (exact hmq); omega; intro A4 c4 wa _ hO4 _ hcap4) | ((with_reducible apply wpl_alloc); intro z wz _ _ _) | ((with_reducible apply wpl_box_agg); (exact rfl); intro z wz _ _ _) | ((with_reducible apply wpl_box_int); (exact rfl); intro z wz _ _ _) | ((with_reducible apply wpl_box_slice); (exact rfl); intro z wz _ _ _) | ((with_reducible apply wpl_box_str); (exact rfl); intro z wz _ _ _) | ((with_reducible apply wpl_box_bool); (exact rfl); intro z wz _ _ _) | ((with_reducible apply wpl_box_ptr); (exact rfl); intro z wz _ _ _) | ((with_reducible apply (wpl_guard (op := .load _ _))); (exact rfl)) | ((with_reducible apply wpl_loadrow); (exact rfl); infer_instance; infer_instance; (first | (with_reducible assumption) | (with_reducible exact H32.size _) | kernel_rfl)) | ((with_reducible apply wpl_loadcellN); (exact rfl); infer_instance; (exact rfl)) | ((with_reducible apply wpl_storerow); (exact rfl); (exact rfl); infer_instance; infer_instance; (first | (with_reducible assumption) | (with_reducible exact H32.size _) | kernel_rfl); (first | (with_reducible assumption) | (with_reducible exact H32.size _) | kernel_rfl); (first | (with_reducible exact u8s_one _) | (with_reducible assumption) | kernel_rfl); intro ws _ _) | ((with_reducible apply wpl_storecell); (exact rfl); (exact rfl); infer_instance; (exact rfl); (first | (with_reducible assumption) | omega | (focus (simp; done)) | (focus (simp; omega; done)) | decide); intro ws _ _))
  have hR4 : HR wa A4 (bs (Y ++ more)) := ⟨hO4.out.rd⟩
  have hL4 : (Y ++ more).length = n1 + q := by rw [List.length_append, hYn, hmq]
  have HL4 := Lib.hid hL4
  clear hO4 hL4
  refine (DecodeTargets_calls (b := Y ++ more) (by have := HL4.out; omega) (by omega)).mono ?_
  rintro e w4 ⟨_, m1, v1, x1, B1, k1, d1, C1, j1, q1, P1, D1, err1, rfl, hP1, _, _, _⟩
  have nw4 : Nw w w4 := inferInstance
  have nw34 : Nw w3 w4 := inferInstance
  obtain rfl : err1 = 2 := err2G hP1.out.1 HBAD.out
  clear hP1
  obtain ⟨m, hm⟩ : ∃ m, m = (cut % 65536).toNat % n1 := ⟨_, rfl⟩
  have hmn : m < n1 := by rw [hm]; exact Nat.mod_lt _ (by omega)
  have hbits : (bits .and .i64 cut 65535).tmod (n1 : Int) = (m : Int) := by
    rw [and65535G, Int.tmod_eq_emod_of_nonneg (Int.emod_nonneg _ (by decide)), hm]
    have h9 : 0 ≤ cut % 65536 := Int.emod_nonneg _ (by decide)
    rw [Int.natCast_emod, Int.toNat_of_nonneg h9]
  have hn0 : ¬ n1 = 0 := by omega
  have hmc : m ≤ c1' := by omega
  have hRt : HR w4 A1 (bs (Y.take m)) := ⟨by
    have h9 := ((inferInstance : HR w4 A1 (bs Y)).out).take m
    rwa [bs_takeG] at h9⟩
  have hlt : (Y.take m).length = m := by rw [List.length_take]; omega
  have HLT := Lib.hid hlt
  have HBT := Lib.hid (HCUT.out m (by omega))
  clear hm hlt
  go_wp2_with (first | go_skip | ((with_reducible apply wpl_sl_h); (exact rfl); (exact rfl); infer_instance; (exact hmc)) | ((with_reducible apply (wpl_alloc (dst := some 9))); intro z1 wz1 _ _ _) | ((with_reducible apply (wpl_box_agg (dst := some 9))); (exact rfl); intro z1 wz1 _ _ _) | ((with_reducible apply (wpl_box_int (dst := some 9))); (exact rfl); intro z1 wz1 _ _ _) | ((with_reducible apply (wpl_box_slice (dst := some 9))); (exact rfl); intro z1 wz1 _ _ _) | ((with_reducible apply (wpl_box_str (dst := some 9))); (exact rfl); intro z1 wz1 _ _ _) | ((with_reducible apply (wpl_box_bool (dst := some 9))); (exact rfl); intro z1 wz1 _ _ _) | ((with_reducible apply (wpl_box_ptr (dst := some 9))); (exact rfl); intro z1 wz1 _ _ _) | ((with_reducible apply wpl_alloc); intro z wz _ _ _) | ((with_reducible apply wpl_box_agg); (exact rfl); intro z wz _ _ _) | ((with_reducible apply wpl_box_int); (exact rfl); intro z wz _ _ _) | ((with_reducible apply wpl_box_slice); (exact rfl); intro z wz _ _ _) | ((with_reducible apply wpl_box_str); (exact rfl); intro z wz _ _ _) | ((with_reducible apply wpl_box_bool); (exact rfl); intro z wz _ _ _) | ((with_reducible apply wpl_box_ptr); (exact rfl); intro z wz _ _ _) | ((with_reducible apply (wpl_guard (op := .load _ _))); (exact rfl)) | ((with_reducible apply wpl_loadrow); (exact rfl); infer_instance; infer_instance; (first | (with_reducible assumption) | (with_reducible exact H32.size _) | kernel_rfl)) | ((with_reducible apply wpl_loadcellN); (exact rfl); infer_instance; (exact rfl)) | ((with_reducible apply wpl_storerow); (exact rfl); (exact rfl); infer_instance; infer_instance; (first | (with_reducible assumption) | (with_reducible exact H32.size _) | kernel_rfl); (first | (with_reducible assumption) | (with_reducible exact H32.size _) | kernel_rfl); (first | (with_reducible exact u8s_one _) | (with_reducible assumption) | kernel_rfl); intro ws _ _) | ((with_reducible apply wpl_storecell); (exact rfl); (exact rfl); infer_instance; (exact rfl); (first | (with_reducible assumption) | omega | (focus (simp; done)) | (focus (simp; omega; done)) | decide); intro ws _ _))
  refine (DecodeTargets_calls (b := Y.take m) (by have := HLT.out; omega) (by omega)).mono ?_
  rintro e w5 ⟨_, m2, v2, x2, B2, k2, d2, C2, j2, q2, P2, D2, err2, rfl, hP2, _, _, _⟩
  have nw5 : Nw w w5 := inferInstance
  obtain rfl : err2 = 2 := err2G hP2.out.1 HBT.out
  clear hP2
  go_wp2_with (first | go_skip | ((with_reducible apply (wpl_alloc (dst := some 11))); intro z2 wz2 _ _ _) | ((with_reducible apply (wpl_box_agg (dst := some 11))); (exact rfl); intro z2 wz2 _ _ _) | ((with_reducible apply (wpl_box_int (dst := some 11))); (exact rfl); intro z2 wz2 _ _ _) | ((with_reducible apply (wpl_box_slice (dst := some 11))); (exact rfl); intro z2 wz2 _ _ _) | ((with_reducible apply (wpl_box_str (dst := some 11))); (exact rfl); intro z2 wz2 _ _ _) | ((with_reducible apply (wpl_box_bool (dst := some 11))); (exact rfl); intro z2 wz2 _ _ _) | ((with_reducible apply (wpl_box_ptr (dst := some 11))); (exact rfl); intro z2 wz2 _ _ _) | ((with_reducible apply wpl_alloc); intro z wz _ _ _) | ((with_reducible apply wpl_box_agg); (exact rfl); intro z wz _ _ _) | ((with_reducible apply wpl_box_int); (exact rfl); intro z wz _ _ _) | ((with_reducible apply wpl_box_slice); (exact rfl); intro z wz _ _ _) | ((with_reducible apply wpl_box_str); (exact rfl); intro z wz _ _ _) | ((with_reducible apply wpl_box_bool); (exact rfl); intro z wz _ _ _) | ((with_reducible apply wpl_box_ptr); (exact rfl); intro z wz _ _ _) | ((with_reducible apply (wpl_guard (op := .load _ _))); (exact rfl)) | ((with_reducible apply wpl_loadrow); (exact rfl); infer_instance; infer_instance; (first | (with_reducible assumption) | (with_reducible exact H32.size _) | kernel_rfl)) | ((with_reducible apply wpl_loadcellN); (exact rfl); infer_instance; (exact rfl)) | ((with_reducible apply wpl_storerow); (exact rfl); (exact rfl); infer_instance; infer_instance; (first | (with_reducible assumption) | (with_reducible exact H32.size _) | kernel_rfl); (first | (with_reducible assumption) | (with_reducible exact H32.size _) | kernel_rfl); (first | (with_reducible exact u8s_one _) | (with_reducible assumption) | kernel_rfl); intro ws _ _) | ((with_reducible apply wpl_storecell); (exact rfl); (exact rfl); infer_instance; (exact rfl); (first | (with_reducible assumption) | omega | (focus (simp; done)) | (focus (simp; omega; done)) | decide); intro ws _ _))
  refine (wknown_calls _).mono ?_
  rintro e w10 ⟨rfl, _⟩
  go_wp2_with (first | go_skip | ((with_reducible apply wpl_alloc); intro z wz _ _ _) | ((with_reducible apply wpl_box_agg); (exact rfl); intro z wz _ _ _) | ((with_reducible apply wpl_box_int); (exact rfl); intro z wz _ _ _) | ((with_reducible apply wpl_box_slice); (exact rfl); intro z wz _ _ _) | ((with_reducible apply wpl_box_str); (exact rfl); intro z wz _ _ _) | ((with_reducible apply wpl_box_bool); (exact rfl); intro z wz _ _ _) | ((with_reducible apply wpl_box_ptr); (exact rfl); intro z wz _ _ _) | ((with_reducible apply (wpl_guard (op := .load _ _))); (exact rfl)) | ((with_reducible apply wpl_loadrow); (exact rfl); infer_instance; infer_instance; (first | (with_reducible assumption) | (with_reducible exact H32.size _) | kernel_rfl)) | ((with_reducible apply wpl_loadcellN); (exact rfl); infer_instance; (exact rfl)) | ((with_reducible apply wpl_storerow); (exact rfl); (exact rfl); infer_instance; infer_instance; (first | (with_reducible assumption) | (with_reducible exact H32.size _) | kernel_rfl); (first | (with_reducible assumption) | (with_reducible exact H32.size _) | kernel_rfl); (first | (with_reducible exact u8s_one _) | (with_reducible assumption) | kernel_rfl); intro ws _ _) | ((with_reducible apply wpl_storecell); (exact rfl); (exact rfl); infer_instance; (exact rfl); (first | (with_reducible assumption) | omega | (focus (simp; done)) | (focus (simp; omega; done)) | decide); intro ws _ _))
  go_ret
  exact ⟨rfl, (stepN (w0 := w)).chg⟩
end Go.Proofs.Ythcleccofccbdaa
