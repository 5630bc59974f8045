/- EnF -/
import Derived.Test.YthcleccofccbdaaTrEnE
import Derived.Test.YthcleccofccbdaaTrEnC
import Derived.Test.YthcleccofccbdaaTrRdD
open Go Go.RowKit
namespace Go.Proofs.Ythcleccofccbdaa
theorem rowL_le (s : RS) : s.row.1.length ≤ s.b.length := by
  unfold RS.row RS.raw
  split
  · exact Nat.zero_le _
  · show (s.num.2.b.take _).length ≤ _
    rw [List.length_take]
    have := RS.num_le s
    omega
theorem run_envB (M A : Option Addr) (nb cb n c : Nat) (w : World) : (Instr.build 58 #[(0, .slice M nb cb), (1, .slice A n c)]).run Try.prog w = .ok (.agg #[.slice M nb cb, .slice A n c]) w := by kernel_rfl
set_option maxRecDepth 100000 in
set_option maxHeartbeats 3200000 in
theorem takeEnv_calls {g d : Nat} {s : RS} {w : World} (hw : RdrAt w g d s) (hl : s.b.length ≤ 1000000000) :
    Calls Try.prog 74 #[.pointer (some ⟨g, 0, none⟩)] w fun e w' => ∃ M nb cb A n c, ∃ D : List MarkR, e = .returned (.agg #[.slice M nb cb, .slice A n c]) ∧ Step (only g) w w' ∧ Hid (RdrAt w' g d (lstS mkTk 4 s.row.2)) ∧ HR w' M (bs s.row.1) ∧ HR w' A (cellsOf D) ∧ NewA w M ∧ NewA w A ∧ Hid (D.map MarkR.m = lstL mkTk 4 s.row.2) ∧ Hid (∀ x ∈ D, MarkIn w' x ∧ NewA w x.A ∧ NewA w x.B) ∧ Hid (s.row.1.length = nb ∧ D.length = n ∧ n ≤ 4) := by
  have HW0 := Lib.hid hw
  have HL := Lib.hid hl
  have hgl := hw.lt
  have hdl := hw.dlt
  obtain ⟨m, hm⟩ : ∃ x, x = s.row.1 := ⟨_, rfl⟩
  obtain ⟨s1, hs1⟩ : ∃ x, x = s.row.2 := ⟨_, rfl⟩
  have e1 : s1.b.length ≤ s.b.length := by rw [hs1]; exact RS.row_le _
  have hpl : (lstS mkTk 4 s1).b.length ≤ s.b.length := Nat.le_trans (mkTakes.lstS_le 4 s1) e1
  have hdp : (lstS mkTk 4 s1).b ≠ [] → d < w.heap.size := fun h => hdl (ne_of_le hpl h)
  rw [← hm, ← hs1]
  have HM : Hid (s.row.1 = m) := Lib.hid hm.symm
  have HS1 : Hid (s.row.2 = s1) := Lib.hid hs1.symm
  clear hw hl hm hs1
  go_enter Try.func74, Try.ntmps74
  go_wp2_with (first | ((with_reducible apply (wpl_alloc (dst := some 2))); intro zo wzo _ _ _) | ((with_reducible apply wpl_alloc); intro z wz _ _ _) | ((with_reducible apply wpl_storerow); (exact rfl); (exact rfl); infer_instance; infer_instance; (first | (with_reducible assumption) | (with_reducible exact H32.size _) | (with_reducible exact enc_sz _ rfl) | kernel_rfl); (first | (with_reducible assumption) | (with_reducible exact H32.size _) | (with_reducible exact enc_sz _ rfl) | kernel_rfl); (first | (with_reducible exact u8s_one _) | (with_reducible assumption) | (with_reducible exact enc_one _) | kernel_rfl); intro ws _ _) | ((with_reducible apply wpl_storecell); (exact rfl); (exact rfl); infer_instance; (exact rfl); (first | (with_reducible assumption) | omega | (focus (simp; done)) | (focus (simp; omega; done)) | decide); intro ws _ _))
  have hzo : w.heap.size ≤ zo := Nat.le_of_eq (inferInstance : Born w zo).eq.symm
  have hzl := (inferInstance : HB wzo zo 58 #[.slice none 0 0, .slice none 0 0]).out.lt
  have hzw := (stepN (w0 := w) (w := wzo)).chg.size
  have ozo : OffB (only g) zo := ⟨fun e => by have e' : zo = g := e; omega⟩
  refine (rBytes_calls g d s _ (HW0.out.chg (stepN (w0 := w)).chg (fun h => h) (fun h => h)) (by have := HL.out; omega)).mono ?_
  rw [HM.out, HS1.out]
  rintro e w2 ⟨M, nb, cb, rfl, hnb, hO2, h2, hc2, hM2⟩
  have st2 : Step (only g) wzo w2 := ⟨hc2.out⟩
  have hz2 := st2.chg.size
  have hrM : HR w2 M (bs m) := ⟨hO2.out.rd⟩
  have oM : OffA (only g) M := ⟨fun ad e h => by have h' : ad.block = g := h; have := hM2.out ad e; omega⟩
  have oMz : OffA (only zo) M := ⟨fun ad e h => by have h' : ad.block = zo := h; have := hM2.out ad e; omega⟩
  clear hc2 hO2
  go_wp2_with (first | ((with_reducible apply wpl_alloc); intro z wz _ _ _) | ((with_reducible apply wpl_storerow); (exact rfl); (exact rfl); infer_instance; infer_instance; (first | (with_reducible assumption) | (with_reducible exact H32.size _) | (with_reducible exact enc_sz _ rfl) | kernel_rfl); (first | (with_reducible assumption) | (with_reducible exact H32.size _) | (with_reducible exact enc_sz _ rfl) | kernel_rfl); (first | (with_reducible exact u8s_one _) | (with_reducible assumption) | (with_reducible exact enc_one _) | kernel_rfl); intro ws _ _) | ((with_reducible apply wpl_storecell); (exact rfl); (exact rfl); infer_instance; (exact rfl); (first | (with_reducible assumption) | omega | (focus (simp; done)) | (focus (simp; omega; done)) | decide); intro ws _ _))
  refine (takenMk_calls h2.out (by have := HL.out; omega)).mono ?_
  rintro e w3 ⟨A, n, c, D, rfl, st3, h3, hrA, hA, hDm, hDk, hDl⟩
  have hrM3 : HR w3 M (bs m) := ⟨hrM.out.chg st3.chg (fun _ ad e h => oM.out ad e h)⟩
  have oA : OffA (only zo) A := ⟨fun ad e h => by have h' : ad.block = zo := h; have := hA.out ad e; omega⟩
  have kb := run_envB M A nb cb n c
  go_wp2_with (first | ((with_reducible apply wpl_build); (exact kb _)) | ((with_reducible apply wpl_alloc); intro z wz _ _ _) | ((with_reducible apply wpl_storerow); (exact rfl); (exact rfl); infer_instance; infer_instance; (first | (with_reducible assumption) | (with_reducible exact H32.size _) | (with_reducible exact enc_sz _ rfl) | kernel_rfl); (first | (with_reducible assumption) | (with_reducible exact H32.size _) | (with_reducible exact enc_sz _ rfl) | kernel_rfl); (first | (with_reducible exact u8s_one _) | (with_reducible assumption) | (with_reducible exact enc_one _) | kernel_rfl); intro ws _ _) | ((with_reducible apply wpl_storecell); (exact rfl); (exact rfl); infer_instance; (exact rfl); (first | (with_reducible assumption) | omega | (focus (simp; done)) | (focus (simp; omega; done)) | decide); intro ws _ _))
  have hcz : Chg (only zo) w3 ws := (inferInstance : Step (only zo) w3 ws).chg
  have hfM : HR ws M (bs m) := ⟨hrM3.out.chg hcz (fun _ ad e h => oMz.out ad e h)⟩
  have hfA : HR ws A (cellsOf D) := inferInstance
  refine ret_row rfl rfl (n := 2) rfl rfl ⟨M, nb, cb, A, n, c, D, rfl, stepC, ?_, hfM, hfA, ⟨fun ad e => Nat.le_trans hzw (hM2.out ad e)⟩, ⟨fun ad e => by have := hA.out ad e; omega⟩, hDm, Lib.hid (fun x hx => ?_), Lib.hid ⟨hnb.out.symm, hDl.out.1, hDl.out.2.2⟩⟩
  · exact Lib.hid (h3.out.far hcz (m := w.heap.size) (fun x hx => by have hx' : x = zo := hx; omega) hgl hdp)
  · obtain ⟨q1, q2⟩ := hDk.out x hx
    refine ⟨q1.chg hcz (fun y hy h => ?_), ⟨fun ad e => by have := q2.1.out ad e; omega⟩, ⟨fun ad e => by have := q2.2.out ad e; omega⟩⟩
    have h' : y = zo := h
    have := inMk_new q2 y hy
    omega
/-- what is decoded -/
def evMM (b : List UInt8) : List UInt8 × List MkM × Int := if evOk b then (evM b, evP b, 0) else ([], [], 2)
def DecEv (b : List UInt8) (w : World) : Ending → World → Prop := fun e w' => Step nowhere w w' ∧ ∃ M nb cb A n c m, ∃ D : List MarkR, ∃ err, e = .returned (.tuple #[.agg #[.slice M nb cb, .slice A n c], .int .i64 err]) ∧ Hid ((m, D.map MarkR.m, err) = evMM b ∧ m.length = nb ∧ D.length = n ∧ n ≤ 4) ∧ Hid (Rd w' M (bs m)) ∧ Hid (Rd w' A (cellsOf D)) ∧ Hid (∀ x ∈ D, MarkIn w' x ∧ NewA w x.A ∧ NewA w x.B) ∧ NewA w M ∧ NewA w A
set_option maxRecDepth 100000 in
set_option maxHeartbeats 3200000 in
theorem decEnv_calls {A : Option Addr} {n c : Nat} {b : List UInt8} {w : World} [hr : HR w A (bs b)] (hl : b.length = n) (hn : n ≤ 1000000000) :
    Calls Try.prog 73 #[.int .i64 6, .slice A n c, .func (.func 68) #[] #[], .func (.func 74) #[] #[]] w (DecEv b w) := by
  obtain ⟨S, hS⟩ : ∃ S, S = kindS 6 b := ⟨_, rfl⟩
  obtain ⟨W, hW⟩ : ∃ W, W = wholeB (lstS mkTk 4 S.row.2) := ⟨_, rfl⟩
  obtain ⟨V, hV⟩ : ∃ V, V = S.row.1 := ⟨_, rfl⟩
  obtain ⟨P, hP⟩ : ∃ P, P = lstL mkTk 4 S.row.2 := ⟨_, rfl⟩
  obtain ⟨I, hI⟩ : ∃ I, I = envOk V P := ⟨_, rfl⟩
  have hSl : S.b.length ≤ 1000000000 := by
    have := kindS_le 6 b
    rw [← hS] at this
    omega
  have hM : evMM b = if W && I then (V, P, (0 : Int)) else ([], [], 2) := by
    rw [evMM, evOk, evR, evP, evM, evS, ← hS, ← hW, ← hV, ← hP, ← hI]
  have HM := Lib.hid hM
  have HRR := Lib.hid hr.out
  have HS := Lib.hid hS
  have HW := Lib.hid hW
  have HI := Lib.hid hI
  have HV := Lib.hid hV
  have HP := Lib.hid hP
  have HLE := Lib.hid hl
  unfold DecEv
  clear hS hW hI hV hP hM
  go_enter Try.func73, Try.ntmps73
  go_wp2_with (first | go_skip | ((with_reducible apply (wpl_alloc (dst := some 8))); intro zo wzo _ _ _) | ((with_reducible apply wpl_alloc); intro z wz _ _ _) | ((with_reducible apply (wpl_guard (op := .load _ _))); (exact rfl)) | ((with_reducible apply wpl_loadrow); (exact rfl); infer_instance; infer_instance; (first | (with_reducible assumption) | (with_reducible exact H32.size _) | (with_reducible exact enc_sz _ rfl) | kernel_rfl)) | ((with_reducible apply wpl_loadcellN); (exact rfl); infer_instance; (exact rfl)) | ((with_reducible apply wpl_storerow); (exact rfl); (exact rfl); infer_instance; infer_instance; (first | (with_reducible assumption) | (with_reducible exact H32.size _) | (with_reducible exact enc_sz _ rfl) | kernel_rfl); (first | (with_reducible assumption) | (with_reducible exact H32.size _) | (with_reducible exact enc_sz _ rfl) | kernel_rfl); (first | (with_reducible exact u8s_one _) | (with_reducible assumption) | (with_reducible exact enc_one _) | kernel_rfl); intro ws _ _) | ((with_reducible apply wpl_storecell); (exact rfl); (exact rfl); infer_instance; (exact rfl); (first | (with_reducible assumption) | omega | (focus (simp; done)) | (focus (simp; omega; done)) | decide); intro ws _ _))
  refine (NewReader_calls A n c b _ (HRR.out.later (stepN (w0 := w)).chg) HLE.out (by omega)).mono ?_
  rintro e w2 ⟨g, d, rfl, h2, c2, hg, hd⟩
  have st2 : Step nowhere _ w2 := ⟨c2.out⟩
  have hgw : w.heap.size ≤ g := Nat.le_trans (inferInstance : SzLe w wzo).out hg
  have hdw : w.heap.size ≤ d := Nat.le_trans (inferInstance : SzLe w wzo).out hd
  have hzol := (inferInstance : HB wzo zo 58 #[.slice none 0 0, .slice none 0 0]).out.lt
  have hzo : w.heap.size ≤ zo := Nat.le_of_eq (inferInstance : Born w zo).eq.symm
  have ozg : OffB (only g) zo := ⟨fun e => by have e' : zo = g := e; omega⟩
  have ag : Above w (only g) := ⟨fun k h => by have h' : k = g := h; omega⟩
  go_wp2_with fail
  refine (Num_calls g d _ w2 h2.out (by show b.length ≤ _; have := HLE.out; omega)).mono ?_
  rintro e w3 ⟨rfl, h3, c3⟩
  have st3 : Step (only g) w2 w3 := ⟨c3.out⟩
  obtain ⟨q, hq⟩ : ∃ q, q = (⟨b, false⟩ : RS).num.1 := ⟨_, rfl⟩
  rw [← hq]
  clear c2 c3 h2
  by_cases hk : q = 6
  focus
    have HSS : Hid (RdrAt w3 g d S) := Lib.hid (by
      rw [HS.out, kindS, if_pos (by rw [← hq]; exact hk)]
      exact h3.out)
    have hqI : (q : Int) = 6 := by omega
    have hb3 : zo < w3.heap.size := Nat.lt_of_lt_of_le hzol (inferInstance : SzLe wzo w3).out
    have hs3 : w.heap.size ≤ w3.heap.size := (inferInstance : SzLe w w3).out
    clear h3 hq hk
    rw [hqI]
    clear hqI
    go_wp2_with (first | go_skip | ((with_reducible apply wpl_alloc); intro z wz _ _ _) | ((with_reducible apply (wpl_guard (op := .load _ _))); (exact rfl)) | ((with_reducible apply wpl_loadrow); (exact rfl); infer_instance; infer_instance; (first | (with_reducible assumption) | (with_reducible exact H32.size _) | (with_reducible exact enc_sz _ rfl) | kernel_rfl)) | ((with_reducible apply wpl_loadcellN); (exact rfl); infer_instance; (exact rfl)) | ((with_reducible apply wpl_storerow); (exact rfl); (exact rfl); infer_instance; infer_instance; (first | (with_reducible assumption) | (with_reducible exact H32.size _) | (with_reducible exact enc_sz _ rfl) | kernel_rfl); (first | (with_reducible assumption) | (with_reducible exact H32.size _) | (with_reducible exact enc_sz _ rfl) | kernel_rfl); (first | (with_reducible exact u8s_one _) | (with_reducible assumption) | (with_reducible exact enc_one _) | kernel_rfl); intro ws _ _) | ((with_reducible apply wpl_storecell); (exact rfl); (exact rfl); infer_instance; (exact rfl); (first | (with_reducible assumption) | omega | (focus (simp; done)) | (focus (simp; omega; done)) | decide); intro ws _ _))
    refine (takeEnv_calls HSS.out hSl).mono ?_
    clear HSS
    generalize w3 = wB at *
  rotate_left
  focus
    have HSS0 : Hid (S = RS.bad) := Lib.hid (by rw [HS.out, kindS, if_neg (by rw [← hq]; exact hk)])
    have hqI : ((q : Int) == 6) = false := by simp; omega
    have hqJ : (q : Int) < 6 ∨ 6 < (q : Int) := by omega
    have H3 := h3
    clear h3 hq hk
    go_wp2_with (first | go_skip | ((with_reducible apply wpl_alloc); intro z wz _ _ _) | ((with_reducible apply (wpl_guard (op := .load _ _))); (exact rfl)) | ((with_reducible apply wpl_loadrow); (exact rfl); infer_instance; infer_instance; (first | (with_reducible assumption) | (with_reducible exact H32.size _) | (with_reducible exact enc_sz _ rfl) | kernel_rfl)) | ((with_reducible apply wpl_loadcellN); (exact rfl); infer_instance; (exact rfl)) | ((with_reducible apply wpl_storerow); (exact rfl); (exact rfl); infer_instance; infer_instance; (first | (with_reducible assumption) | (with_reducible exact H32.size _) | (with_reducible exact enc_sz _ rfl) | kernel_rfl); (first | (with_reducible assumption) | (with_reducible exact H32.size _) | (with_reducible exact enc_sz _ rfl) | kernel_rfl); (first | (with_reducible exact u8s_one _) | (with_reducible assumption) | (with_reducible exact enc_one _) | kernel_rfl); intro ws _ _) | ((with_reducible apply wpl_storecell); (exact rfl); (exact rfl); infer_instance; (exact rfl); (first | (with_reducible assumption) | omega | (focus (simp; done)) | (focus (simp; omega; done)) | decide); intro ws _ _))
    refine (Bad_calls g d _ _ H3.out).mono ?_
    rintro e w3b ⟨rfl, h3b, c3b⟩
    have st3b : Step (only g) w3 w3b := ⟨c3b.out⟩
    have HSS : Hid (RdrAt w3b g d S) := Lib.hid (by rw [HSS0.out]; exact h3b.out)
    have hb3 : zo < w3b.heap.size := Nat.lt_of_lt_of_le hzol (inferInstance : SzLe wzo w3b).out
    have hs3 : w.heap.size ≤ w3b.heap.size := (inferInstance : SzLe w w3b).out
    clear h3b c3b H3
    go_wp2_with (first | go_skip | ((with_reducible apply wpl_alloc); intro z wz _ _ _) | ((with_reducible apply (wpl_guard (op := .load _ _))); (exact rfl)) | ((with_reducible apply wpl_loadrow); (exact rfl); infer_instance; infer_instance; (first | (with_reducible assumption) | (with_reducible exact H32.size _) | (with_reducible exact enc_sz _ rfl) | kernel_rfl)) | ((with_reducible apply wpl_loadcellN); (exact rfl); infer_instance; (exact rfl)) | ((with_reducible apply wpl_storerow); (exact rfl); (exact rfl); infer_instance; infer_instance; (first | (with_reducible assumption) | (with_reducible exact H32.size _) | (with_reducible exact enc_sz _ rfl) | kernel_rfl); (first | (with_reducible assumption) | (with_reducible exact H32.size _) | (with_reducible exact enc_sz _ rfl) | kernel_rfl); (first | (with_reducible exact u8s_one _) | (with_reducible assumption) | (with_reducible exact enc_one _) | kernel_rfl); intro ws _ _) | ((with_reducible apply wpl_storecell); (exact rfl); (exact rfl); infer_instance; (exact rfl); (first | (with_reducible assumption) | omega | (focus (simp; done)) | (focus (simp; omega; done)) | decide); intro ws _ _))
    refine (takeEnv_calls HSS.out hSl).mono ?_
    clear HSS HSS0 hqI hqJ
    generalize w3b = wB at *
  rotate_left
  all_goals
    rw [← HV.out, ← HP.out]
    rintro e w4 ⟨M4, nb4, cb4, A4, n4, c4, D, rfl, st4, h4, hM4, hr4, hNM, hA4, hD4, hK4, hn4⟩
    have ho4 : HB w4 zo 58 #[.slice none 0 0, .slice none 0 0] := inferInstance
    have nw4 : Nw w w4 := inferInstance
    go_wp2_with (first | go_skip | ((with_reducible apply (wpl_alloc (dst := some 11))); intro zt wzt _ _ _) | ((with_reducible apply wpl_alloc); intro z wz _ _ _) | ((with_reducible apply (wpl_guard (op := .load _ _))); (exact rfl)) | ((with_reducible apply wpl_loadrow); (exact rfl); infer_instance; infer_instance; (first | (with_reducible assumption) | (with_reducible exact H32.size _) | (with_reducible exact enc_sz _ rfl) | kernel_rfl)) | ((with_reducible apply wpl_loadcellN); (exact rfl); infer_instance; (exact rfl)) | ((with_reducible apply wpl_storerow); (exact rfl); (exact rfl); infer_instance; infer_instance; (first | (with_reducible assumption) | (with_reducible exact H32.size _) | (with_reducible exact enc_sz _ rfl) | kernel_rfl); (first | (with_reducible assumption) | (with_reducible exact H32.size _) | (with_reducible exact enc_sz _ rfl) | kernel_rfl); (first | (with_reducible exact u8s_one _) | (with_reducible assumption) | (with_reducible exact enc_one _) | kernel_rfl); intro ws _ _) | ((with_reducible apply wpl_storecell); (exact rfl); (exact rfl); infer_instance; (exact rfl); (first | (with_reducible assumption) | omega | (focus (simp; done)) | (focus (simp; omega; done)) | decide); intro ws _ _))
    have hzt4 : w4.heap.size ≤ zt := Nat.le_of_eq (inferInstance : Born w4 zt).eq.symm
    have hs4 : wB.heap.size ≤ w4.heap.size := st4.chg.size
    have izt : Into w4 (only zt) (only zo) := ⟨fun x hx h => by have h' : x = zt := h; omega⟩
    have hts : HB ws zt 58 #[.slice M4 nb4 cb4, .slice A4 n4 c4] := inferInstance
    refine (Whole_calls g d (lstS mkTk 4 S.row.2) _ (h4.out.chg (inferInstance : Nw w4 _).out (fun h => h) (fun h => h)) (by have h5 := mkTakes.lstS_le 4 S.row.2; have h6 := RS.row_le S; omega)).mono ?_
    have e6 : (!(lstS mkTk 4 S.row.2).e && decide ((lstS mkTk 4 S.row.2).b = [])) = W := by rw [HW.out]; rfl
    rw [e6]
    rintro e w6 ⟨rfl, rfl⟩
    clear e6
    cases W
    case false =>
      go_wp2_with (first | go_skip | ((with_reducible apply (wpl_alloc (dst := some 12))); intro zz wzz _ _ _) | ((with_reducible apply wpl_alloc); intro z wz _ _ _) | ((with_reducible apply (wpl_guard (op := .load _ _))); (exact rfl)) | ((with_reducible apply wpl_loadrow); (exact rfl); infer_instance; infer_instance; (first | (with_reducible assumption) | (with_reducible exact H32.size _) | (with_reducible exact enc_sz _ rfl) | kernel_rfl)) | ((with_reducible apply wpl_loadcellN); (exact rfl); infer_instance; (exact rfl)) | ((with_reducible apply wpl_storerow); (exact rfl); (exact rfl); infer_instance; infer_instance; (first | (with_reducible assumption) | (with_reducible exact H32.size _) | (with_reducible exact enc_sz _ rfl) | kernel_rfl); (first | (with_reducible assumption) | (with_reducible exact H32.size _) | (with_reducible exact enc_sz _ rfl) | kernel_rfl); (first | (with_reducible exact u8s_one _) | (with_reducible assumption) | (with_reducible exact enc_one _) | kernel_rfl); intro ws _ _) | ((with_reducible apply wpl_storecell); (exact rfl); (exact rfl); infer_instance; (exact rfl); (first | (with_reducible assumption) | omega | (focus (simp; done)) | (focus (simp; omega; done)) | decide); intro ws _ _))
      refine ret_row_ rfl rfl rfl (n := 2) rfl rfl ⟨stepN, none, 0, 0, none, 0, 0, [], [], 2, rfl, Lib.hid ⟨HM.out.symm, rfl, rfl, Nat.zero_le _⟩, Lib.hid (Rd.nil _ _), Lib.hid (Rd.nil _ _), Lib.hid (fun x hx => by cases hx), newA_none _, newA_none _⟩
    case true =>
      have hr6 : HR w6 A4 (cellsOf D) := inferInstance
      have hm6 : HR w6 M4 (bs V) := inferInstance
      have n6 : Nw w4 w6 := inferInstance
      have HI2 : Hid (envOk V (D.map MarkR.m) = I) := Lib.hid (by rw [hD4.out]; exact HI.out.symm)
      go_wp2_with (first | go_skip | ((with_reducible apply wpl_alloc); intro z wz _ _ _) | ((with_reducible apply (wpl_guard (op := .load _ _))); (exact rfl)) | ((with_reducible apply wpl_loadrow); (exact rfl); infer_instance; infer_instance; (first | (with_reducible assumption) | (with_reducible exact H32.size _) | (with_reducible exact enc_sz _ rfl) | kernel_rfl)) | ((with_reducible apply wpl_loadcellN); (exact rfl); infer_instance; (exact rfl)) | ((with_reducible apply wpl_storerow); (exact rfl); (exact rfl); infer_instance; infer_instance; (first | (with_reducible assumption) | (with_reducible exact H32.size _) | (with_reducible exact enc_sz _ rfl) | kernel_rfl); (first | (with_reducible assumption) | (with_reducible exact H32.size _) | (with_reducible exact enc_sz _ rfl) | kernel_rfl); (first | (with_reducible exact u8s_one _) | (with_reducible assumption) | (with_reducible exact enc_one _) | kernel_rfl); intro ws _ _) | ((with_reducible apply wpl_storecell); (exact rfl); (exact rfl); infer_instance; (exact rfl); (first | (with_reducible assumption) | omega | (focus (simp; done)) | (focus (simp; omega; done)) | decide); intro ws _ _))
      refine (isEnv_calls (m := V) (L := D) hn4.out.1 hn4.out.2.1 (by have := hn4.out.2.2; omega) (by have h8 := rowL_le S; have h9 := hn4.out.1; have h7 := HV.out; rw [← h7] at h8; omega)).mono ?_
      rw [HI2.out]
      rintro e w7 ⟨rfl, _⟩
      cases I
      case false =>
        go_wp2_with (first | go_skip | ((with_reducible apply (wpl_alloc (dst := some 12))); intro zz wzz _ _ _) | ((with_reducible apply wpl_alloc); intro z wz _ _ _) | ((with_reducible apply (wpl_guard (op := .load _ _))); (exact rfl)) | ((with_reducible apply wpl_loadrow); (exact rfl); infer_instance; infer_instance; (first | (with_reducible assumption) | (with_reducible exact H32.size _) | (with_reducible exact enc_sz _ rfl) | kernel_rfl)) | ((with_reducible apply wpl_loadcellN); (exact rfl); infer_instance; (exact rfl)) | ((with_reducible apply wpl_storerow); (exact rfl); (exact rfl); infer_instance; infer_instance; (first | (with_reducible assumption) | (with_reducible exact H32.size _) | (with_reducible exact enc_sz _ rfl) | kernel_rfl); (first | (with_reducible assumption) | (with_reducible exact H32.size _) | (with_reducible exact enc_sz _ rfl) | kernel_rfl); (first | (with_reducible exact u8s_one _) | (with_reducible assumption) | (with_reducible exact enc_one _) | kernel_rfl); intro ws _ _) | ((with_reducible apply wpl_storecell); (exact rfl); (exact rfl); infer_instance; (exact rfl); (first | (with_reducible assumption) | omega | (focus (simp; done)) | (focus (simp; omega; done)) | decide); intro ws _ _))
        refine ret_row_ rfl rfl rfl (n := 2) rfl rfl ⟨stepN, none, 0, 0, none, 0, 0, [], [], 2, rfl, Lib.hid ⟨HM.out.symm, rfl, rfl, Nat.zero_le _⟩, Lib.hid (Rd.nil _ _), Lib.hid (Rd.nil _ _), Lib.hid (fun x hx => by cases hx), newA_none _, newA_none _⟩
      case true =>
        have hts7 : HB w7 zt 58 #[.slice M4 nb4 cb4, .slice A4 n4 c4] := inferInstance
        have ho7 : HB w7 zo 58 #[.slice none 0 0, .slice none 0 0] := inferInstance
        have oM : OffA (only zo) M4 := ⟨fun ad e h => by have h' : ad.block = zo := h; have := hNM.out ad e; omega⟩
        have oA : OffA (only zo) A4 := ⟨fun ad e h => by have h' : ad.block = zo := h; have := hA4.out ad e; omega⟩
        have hr7 : HR w7 A4 (cellsOf D) := inferInstance
        have hm7 : HR w7 M4 (bs V) := inferInstance
        have n7 : Nw w4 w7 := inferInstance
        go_wp2_with (first | go_skip | ((with_reducible apply wpl_alloc); intro z wz _ _ _) | ((with_reducible apply (wpl_guard (op := .load _ _))); (exact rfl)) | ((with_reducible apply wpl_loadrow); (exact rfl); infer_instance; infer_instance; (first | (with_reducible assumption) | (with_reducible exact H32.size _) | (with_reducible exact enc_sz _ rfl) | kernel_rfl)) | ((with_reducible apply wpl_loadcellN); (exact rfl); infer_instance; (exact rfl)) | ((with_reducible apply wpl_storerow); (exact rfl); (exact rfl); infer_instance; infer_instance; (first | (with_reducible assumption) | (with_reducible exact H32.size _) | (with_reducible exact enc_sz _ rfl) | kernel_rfl); (first | (with_reducible assumption) | (with_reducible exact H32.size _) | (with_reducible exact enc_sz _ rfl) | kernel_rfl); (first | (with_reducible exact u8s_one _) | (with_reducible assumption) | (with_reducible exact enc_one _) | kernel_rfl); intro ws _ _) | ((with_reducible apply wpl_storecell); (exact rfl); (exact rfl); infer_instance; (exact rfl); (first | (with_reducible assumption) | omega | (focus (simp; done)) | (focus (simp; omega; done)) | decide); intro ws _ _))
        have hcz : Chg (only zo) w7 ws := (inferInstance : Step (only zo) w7 ws).chg
        have hfM : HR ws M4 (bs V) := inferInstance
        have hfA : HR ws A4 (cellsOf D) := inferInstance
        refine ret_row_ rfl rfl rfl (n := 2) rfl rfl ⟨stepN, M4, nb4, cb4, A4, n4, c4, V, D, 0, rfl, Lib.hid ⟨?_, hn4.out.1, hn4.out.2.1, hn4.out.2.2⟩, Lib.hid hfM.out, Lib.hid hfA.out, Lib.hid (fun x hx => ?_), ⟨fun ad e => Nat.le_trans hs3 (hNM.out ad e)⟩, ⟨fun ad e => Nat.le_trans hs3 (hA4.out ad e)⟩⟩
        · rw [HM.out, hD4.out]
          rfl
        · obtain ⟨q1, q2⟩ := hK4.out x hx
          refine ⟨(q1.chg n7.out (fun _ _ h => h)).chg hcz (fun y hy h => ?_), ⟨fun ad e => Nat.le_trans hs3 (q2.1.out ad e)⟩, ⟨fun ad e => Nat.le_trans hs3 (q2.2.out ad e)⟩⟩
          have h' : y = zo := h
          have := inMk_new q2 y hy
          omega
set_option maxRecDepth 100000 in
set_option maxHeartbeats 1600000 in
theorem DecodeEnv_calls {A : Option Addr} {n c : Nat} {b : List UInt8} {w : World} [hr : HR w A (bs b)] (hl : b.length = n) (hn : n ≤ 1000000000) :
    Calls Try.prog 28 #[.slice A n c] w (DecEv b w) := by
  unfold DecEv
  go_enter Try.func28, Try.ntmps28
  go_wp2_with (first | ((with_reducible apply (wpl_alloc (dst := some 2))); intro zo wzo _ _ _) | ((with_reducible apply wpl_alloc); intro z wz _ _ _) | ((with_reducible apply wpl_storerow); (exact rfl); (exact rfl); infer_instance; infer_instance; (first | (with_reducible assumption) | (with_reducible exact H32.size _) | (with_reducible exact enc_sz _ rfl) | kernel_rfl); (first | (with_reducible assumption) | (with_reducible exact H32.size _) | (with_reducible exact enc_sz _ rfl) | kernel_rfl); (first | (with_reducible exact u8s_one _) | (with_reducible assumption) | (with_reducible exact enc_one _) | kernel_rfl); intro ws _ _) | ((with_reducible apply wpl_storecell); (exact rfl); (exact rfl); infer_instance; (exact rfl); (first | (with_reducible assumption) | omega | (focus (simp; done)) | (focus (simp; omega; done)) | decide); intro ws _ _))
  have hzol := (inferInstance : HB wzo zo 58 #[.slice none 0 0, .slice none 0 0]).out.lt
  refine (decEnv_calls (b := b) hl hn).mono ?_
  rintro e w2 ⟨_, M2, nb2, cb2, A2, n2, c2, m, D, err, rfl, hP, hM, hR, hK, hNM, hA⟩
  have ho2 : HB w2 zo 58 #[.slice none 0 0, .slice none 0 0] := inferInstance
  have hsz := (inferInstance : SzLe w wzo).out
  have hsub : ∀ ad : Addr, wzo.heap.size ≤ ad.block → ¬ only zo ad.block := fun ad h h2 => by
    have h' : ad.block = zo := h2
    omega
  go_wp2_with (first | ((with_reducible apply wpl_alloc); intro z wz _ _ _) | ((with_reducible apply wpl_storerow); (exact rfl); (exact rfl); infer_instance; infer_instance; (first | (with_reducible assumption) | (with_reducible exact H32.size _) | (with_reducible exact enc_sz _ rfl) | kernel_rfl); (first | (with_reducible assumption) | (with_reducible exact H32.size _) | (with_reducible exact enc_sz _ rfl) | kernel_rfl); (first | (with_reducible exact u8s_one _) | (with_reducible assumption) | (with_reducible exact enc_one _) | kernel_rfl); intro ws _ _) | ((with_reducible apply wpl_storecell); (exact rfl); (exact rfl); infer_instance; (exact rfl); (first | (with_reducible assumption) | omega | (focus (simp; done)) | (focus (simp; omega; done)) | decide); intro ws _ _))
  have hcz : Chg (only zo) w2 ws := (inferInstance : Step (only zo) w2 ws).chg
  refine ret_row_ rfl rfl rfl (n := 2) rfl rfl ⟨stepN, M2, nb2, cb2, A2, n2, c2, m, D, err, rfl, hP, Lib.hid ?_, Lib.hid ?_, Lib.hid (fun x hx => ?_), ⟨fun ad e => Nat.le_trans hsz (hNM.out ad e)⟩, ⟨fun ad e => Nat.le_trans hsz (hA.out ad e)⟩⟩
  · exact hM.out.chg hcz (fun _ ad e => hsub ad (hNM.out ad e))
  · exact hR.out.chg hcz (fun _ ad e => hsub ad (hA.out ad e))
  · obtain ⟨q1, q2⟩ := hK.out x hx
    refine ⟨q1.chg hcz (fun y hy h => ?_), ⟨fun ad e => Nat.le_trans hsz (q2.1.out ad e)⟩, ⟨fun ad e => Nat.le_trans hsz (q2.2.out ad e)⟩⟩
    have h' : y = zo := h
    have := inMk_new q2 y hy
    omega
end Go.Proofs.Ythcleccofccbdaa
