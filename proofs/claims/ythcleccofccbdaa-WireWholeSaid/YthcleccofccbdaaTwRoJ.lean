/- RoE, RoF, SnC, RoG, RoI, RoJ -/
import Derived.Test.YthcleccofccbdaaTwRoH
import Derived.Test.YthcleccofccbdaaTwWtC
import Derived.Test.YthcleccofccbdaaTwRoR
import Derived.Test.YthcleccofccbdaaTwWzC
section
open Go Go.RowKit
namespace Go.Proofs.Ythcleccofccbdaa
/-- one digest as a slice of its own -/
theorem run_oneHW (hh : H32) (w : World) : (Instr.buildSlice 22 1 #[(0, .agg (u8s hh.l))]).run Try.prog w = .ok (.slice (some ⟨w.heap.size, 0, none⟩) 1 1) (w.alloc (.cells (u8s hh.l) 78)) := by
  have hs := hh.size
  have hz : ∀ w, (zeroValue 78).run Try.prog w = .ok (.agg (u8s zeroH.l)) w := fun _ => by kernel_rfl
  have hi : ∀ w, (sizeOf 78).run Try.prog w = .ok 32 w := fun _ => by kernel_rfl
  unfold Instr.buildSlice
  simp only [Sem.run_bind, run_underlying Try.underlying22, Result.andThen_ok, hi]
  have hf : Instr.fill (fun i => some (i * 32, 32)) ((Array.range (1 * 32)).map ((u8s zeroH.l)[· % (u8s zeroH.l).size]!)) [(0, Value.agg (u8s hh.l))] = some (u8s hh.l) := by
    rw [fill_step _ _ 0 (.agg (u8s hh.l)) [] (off := 0) (size := 32) rfl hs (by simp), lay_whole _ _ (by show (u8s hh.l).size = _; rw [hs]; simp)]
    rfl
  simp [hz, Value.cells, hf, newRow]
theorem RdrAt.far {S : Nat → Prop} {w w' : World} {g d : Nat} {s : RS} {m : Nat} (h : RdrAt w g d s) (hc : Chg S w w') (hS : ∀ x, S x → m ≤ x) (hg : g < m) (hd : s.b ≠ [] → d < m) : RdrAt w' g d s :=
  h.chg2 hc (fun e => by have := hS _ e; omega) (fun hne e => by have := hS _ e; have := hd hne; omega)
theorem hS_ne {s : RS} {k : Nat} (h : (hS s k).b ≠ []) : s.b ≠ [] := fun h0 => by
  have h1 := hS_le s k
  rw [h0] at h1
  exact h (List.eq_nil_of_length_eq_zero (by simpa using h1))
theorem num_ne {s : RS} (h : s.num.2.b ≠ []) : s.b ≠ [] := fun h0 => by
  have h1 := RS.num_le s
  rw [h0] at h1
  exact h (List.eq_nil_of_length_eq_zero (by simpa using h1))
theorem newA_grew {w0 w : World} {A A' : Option Addr} (g : Grew w A A') (h : NewA w0 A) (s : w0.heap.size ≤ w.heap.size) : NewA w0 A' := ⟨fun ad e => by
  rcases g.out with k | k
  · exact h.out ad (by rw [← k]; exact e)
  · rw [k] at e
    injection e with e
    subst e
    exact s⟩
theorem newA_none (w : World) : NewA w none := ⟨fun ad e => by cases e⟩
set_option maxRecDepth 100000 in
set_option maxHeartbeats 3200000 in
theorem takenH_calls {g d : Nat} {s : RS} {w : World} (hw : RdrAt w g d s) (hl : s.b.length ≤ 140737488351232) :
    Calls Try.prog 171 #[.pointer (some ⟨g, 0, none⟩), .int .i64 4, .func (.func 172) #[] #[]] w fun e w' => ∃ A n c, e = .returned (.slice A n c) ∧ Step (only g) w w' ∧ Hid (RdrAt w' g d (kM s)) ∧ HR w' A (cellsOf (kL s)) ∧ NewA w A ∧ Hid ((kL s).length = n ∧ n ≤ c ∧ n ≤ 1000) := by
  have HW0 := Lib.hid hw
  have HL := Lib.hid hl
  have hgl := hw.lt
  have hdl := hw.dlt
  obtain ⟨N, hN⟩ : ∃ N, N = s.num.1 := ⟨_, rfl⟩
  obtain ⟨S, hS1⟩ : ∃ S, S = s.num.2 := ⟨_, rfl⟩
  have HN := Lib.hid hN
  have HS := Lib.hid hS1
  have hSl : S.b.length ≤ 140737488351232 := by rw [hS1]; exact Nat.le_trans (RS.num_le s) hl
  have hSd : S.b ≠ [] → d < w.heap.size := fun h => hdl (num_ne (by rw [← hS1]; exact h))
  clear hw hl hN hS1
  go_enter Try.func171, Try.ntmps171
  go_wp2_with fail
  refine (Num_calls g d s w HW0.out (by have := HL.out; omega)).mono ?_
  rw [← HN.out, ← HS.out]
  rintro e w2 ⟨rfl, h2, c2⟩
  have st2 : Step (only g) w w2 := ⟨c2.out⟩
  clear c2
  by_cases h4 : 4 < N
  · have h4I : 4 < (N : Int) := by omega
    have HKM : Hid (kM s = RS.bad) := Lib.hid (by rw [kM, if_pos (by rw [← HN.out]; exact h4)])
    have HKL : Hid (kL s = []) := Lib.hid (by rw [kL, if_pos (by rw [← HN.out]; exact h4)])
    go_wp2_with (first | fail)
    refine (Bad_calls g d _ _ h2.out).mono ?_
    rintro e w3 ⟨rfl, h3, c3⟩
    have st3 : Step (only g) w2 w3 := ⟨c3.out⟩
    go_wp2_with (first | fail)
    go_ret
    refine ⟨none, 0, 0, rfl, ⟨st2.chg.trans st3.chg (fun _ _ h => h)⟩, ?_, ?_, newA_none _, Lib.hid ⟨?_, Nat.le_refl _, by decide⟩⟩
    · rw [HKM.out]; exact h3
    · rw [HKL.out]; infer_instance
    · rw [HKL.out]; rfl
  · have h4I : ¬ 4 < (N : Int) := by omega
    have HKM : Hid (kM s = hS S N) := Lib.hid (by rw [kM, if_neg (by rw [← HN.out]; exact h4), ← HN.out, ← HS.out])
    have HKL : Hid (kL s = hN S N) := Lib.hid (by rw [kL, if_neg (by rw [← HN.out]; exact h4), ← HN.out, ← HS.out])
    have hcell0 : HO w2 78 32 none 0 0 (cellsOf ([] : List H32)) := ⟨Own.nil _ _ _⟩
    go_wp2_with (first | fail)
    go_loopw [8, 17] (fun lv iv wr => ∃ (k : Nat) (A1 : Option Addr) (c1 : Nat), k ≤ N ∧ iv = .int .i64 (k : Int) ∧ lv = .slice A1 k c1 ∧ k ≤ c1 ∧ Step (only g) w wr ∧ HO wr 78 32 A1 k c1 (cellsOf (hN S k)) ∧ NewA w A1 ∧ Hid (RdrAt wr g d (hS S k))) (fun _ iv _ => N - (intOf iv).toNat)
    case atStart => exact ⟨0, none, 0, Nat.zero_le _, rfl, rfl, Nat.le_refl _, st2, hcell0, newA_none _, h2⟩
    case round =>
      clear st2 h2 hcell0
      obtain ⟨k, A1, c1, hk, rfl, rfl, hkc, st, hO, hA1, hR⟩ := hrel
      by_cases hlt : k < N
      · have hltI : (k : Int) < N := by omega
        have og : OffA (only g) A1 := ⟨fun ad e h => by have h' : ad.block = g := h; have := hA1.out ad e; omega⟩
        have hsl := hS_le S k
        have kbH := run_oneHW (hS S k).hsh
        go_wp2_with (first | fail)
        refine (takeHash_calls hR.out (by omega)).mono ?_
        rintro e w5 ⟨rfl, st5, h5⟩
        have H5 := Lib.hid h5
        have HNX : Hid (hN S k ++ [(hS S k).hsh] = hN S (k + 1)) := Lib.hid rfl
        have n5w : SzLe w w5 := inferInstance
        clear h5
        go_wp2_with (first | ((with_reducible apply (stop_dst (dst := some 23))); (try simp only [Act.put, sA, sB, sC]); ((with_reducible apply (wpl_bslice (dst := some 23))); (exact kbH _); intro zb wb _ _ _)) | ((with_reducible apply wpl_appendB); (exact rfl); (exact rfl); infer_instance; (first | exact inferInstance | exact ⟨Own.nil _ _ _⟩); infer_instance; (first | (with_reducible assumption) | (with_reducible exact H32.len _) | (focus (simp; done)) | omega); (first | (with_reducible assumption) | omega); intro A' c' wa _ _ _ hcap) | ((with_reducible apply wpl_appendH); (exact rfl); (exact rfl); infer_instance; (first | exact inferInstance | exact ⟨Own.nil _ _ _⟩); infer_instance; (first | (with_reducible assumption) | omega); intro A' c' wa _ _ _ hcap) | ((with_reducible apply (wpl_appendR (α := H32))); (exact rfl); (exact rfl); infer_instance; (first | exact inferInstance | exact ⟨Own.nil _ _ _⟩); infer_instance; (exact rfl); (first | (with_reducible assumption) | (with_reducible exact H32.len _) | (focus (simp; done)) | omega); (first | (with_reducible assumption) | omega); (decide); (decide); intro A' c' wa _ _ _ hcap))
        have hcA : Chg (rowOf A1) w5 wa := (inferInstance : Ch (rowOf A1) w5 wa).out
        refine ⟨⟨k + 1, A', c', by omega, by go_num, rfl, hcap, ⟨?_⟩, ?_, newA_grew inferInstance hA1 (Nat.le_trans n5w.out (inferInstance : SzLe w5 wb).out), Lib.hid ?_⟩, by simp [intOf]; omega⟩
        · exact (st.chg.trans st5.chg (fun _ _ h => h)).trans hcA (fun x hx ⟨ad, e, h⟩ => by have := hA1.out ad e; omega)
        · rw [← HNX.out]; infer_instance
        · exact H5.out.far hcA (m := w.heap.size) (fun x ⟨ad, e, h⟩ => by rw [← h]; exact hA1.out ad e) hgl (fun h => hSd (hS_ne (k := k + 1) h))
      · have hltI : ¬ (k : Int) < N := by omega
        have hkn : k = N := by omega
        subst hkn
        have HRR := hR
        go_wp2_with (first | fail)
        go_ret
        refine ⟨A1, k, c1, rfl, st, ?_, ?_, hA1, Lib.hid ⟨?_, hkc, by omega⟩⟩
        · rw [HKM.out]; exact HRR
        · rw [HKL.out]; exact ⟨hO.out.rd⟩
        · rw [HKL.out, hN_len]
end Go.Proofs.Ythcleccofccbdaa
end
section
open Go Go.RowKit
namespace Go.Proofs.Ythcleccofccbdaa
theorem run_keysKR (k : KR) (w : World) : (Instr.build 24 #[(0, .slice k.A k.n k.c), (1, .int .i64 k.need)]).run Try.prog w = .ok (.agg (RowC.enc k).toArray) w := by kernel_rfl
theorem kR_ne {s : RS} (h : (kR s).b ≠ []) : s.b ≠ [] := fun h0 => by
  have h1 := kR_le s
  rw [h0] at h1
  exact h (List.eq_nil_of_length_eq_zero (by simpa using h1))
set_option maxRecDepth 100000 in
set_option maxHeartbeats 1600000 in
theorem takeKeys_calls {g d : Nat} {s : RS} {w : World} (hw : RdrAt w g d s) (hl : s.b.length ≤ 140737488351232) :
    Calls Try.prog 108 #[.pointer (some ⟨g, 0, none⟩)] w fun e w' => ∃ k : KR, e = .returned (.agg (RowC.enc k).toArray) ∧ Step (only g) w w' ∧ Hid (RdrAt w' g d (kR s)) ∧ Hid (k.m = (kL s, (kD s : Int))) ∧ KIn w' k ∧ NewA w k.A := by
  have HW0 := Lib.hid hw
  have HL := Lib.hid hl
  have hgl := hw.lt
  have hdl := hw.dlt
  obtain ⟨D, hD⟩ : ∃ D, D = kD s := ⟨_, rfl⟩
  have HD := Lib.hid hD
  have hml := kM_le s
  have hsz0 : ∀ k : KR, (RowC.enc k).toArray.size = 2 := fun _ => rfl
  clear hw hl hD
  go_enter Try.func108, Try.ntmps108
  go_wp2_with (first | ((with_reducible apply (wpl_alloc (dst := some 2))); intro zo wzo _ _ _) | ((with_reducible apply wpl_alloc); intro z wz _ _ _) | ((with_reducible apply wpl_storerow); (exact rfl); (exact rfl); infer_instance; infer_instance; (first | (with_reducible assumption) | (with_reducible exact H32.size _) | kernel_rfl); (first | (with_reducible assumption) | (with_reducible exact H32.size _) | kernel_rfl); (first | (with_reducible exact u8s_one _) | (with_reducible assumption) | kernel_rfl); intro ws _ _) | ((with_reducible apply wpl_storecell); (exact rfl); (exact rfl); infer_instance; (exact rfl); (first | (with_reducible assumption) | omega | (focus (simp; done)) | (focus (simp; omega; done)) | decide); intro ws _ _))
  have hzo : w.heap.size ≤ zo := Nat.le_of_eq (inferInstance : Born w zo).eq.symm
  have hzl : zo < wzo.heap.size := (inferInstance : HB wzo zo 24 #[.slice none 0 0, .int .i64 0]).out.lt
  have ozo : OffB (only g) zo := ⟨fun e => by have e' : zo = g := e; omega⟩
  refine (takenH_calls (HW0.out.chg (stepN (w0 := w)).chg (fun h => h) (fun h => h)) HL.out).mono ?_
  rintro e w2 ⟨A, n, c, rfl, st2, h2, hr2, hA2, hn2⟩
  go_wp2_with fail
  refine (Num_calls g d (kM s) w2 h2.out (by have := HL.out; omega)).mono ?_
  rw [show (kM s).num.1 = D from HD.out.symm]
  rintro e w3 ⟨rfl, h3, c3⟩
  have st3 : Step (only g) w2 w3 := ⟨c3.out⟩
  have hA2w : NewA w A := NewA.monoS (w0 := w) hA2
  have og : OffR (only g) A (cellsOf (kL s)) := ⟨fun _ ad e h => by have h' : ad.block = g := h; have := hA2w.out ad e; omega⟩
  obtain ⟨k, hk⟩ : ∃ k : KR, k = ⟨A, n, c, kL s, D⟩ := ⟨_, rfl⟩
  have kb := run_keysKR k
  have hzo3 : HB w3 zo 24 #[.slice none 0 0, .int .i64 0] := inferInstance
  have hr3 : HR w3 A (cellsOf (kL s)) := inferInstance
  have hk1 : k.A = A := by rw [hk]
  have hk2 : k.n = n := by rw [hk]
  have hk3 : k.c = c := by rw [hk]
  have hk4 : k.l = kL s := by rw [hk]
  have hk5 : k.need = (D : Int) := by rw [hk]
  rw [hk1, hk2, hk3, hk5] at kb
  have HKE := Lib.hid (show k.m = (kL s, (kD s : Int)) by rw [KR.m, hk4, hk5, HD.out])
  have HKI : Hid (KIn w3 k) := Lib.hid ⟨by rw [hk1, hk4]; exact hr3.out, by rw [hk4, hk2]; exact hn2.out.1, by rw [hk2, hk3]; exact hn2.out.2.1, by rw [hk2]; exact hn2.out.2.2⟩
  have hkA : NewA w k.A := by rw [hk1]; exact hA2w
  have HkA := Lib.hid hk1
  have hok := enc_one k
  clear hk hk1 hk2 hk3 hk4 hk5
  go_wp2_with (first | ((with_reducible apply wpl_build); (exact kb _)) | ((with_reducible apply wpl_alloc); intro z wz _ _ _) | ((with_reducible apply wpl_storerow); (exact rfl); (exact rfl); infer_instance; infer_instance; (first | (with_reducible assumption) | (with_reducible exact H32.size _) | kernel_rfl); (first | (with_reducible assumption) | (with_reducible exact H32.size _) | kernel_rfl); (first | (with_reducible exact u8s_one _) | (with_reducible assumption) | kernel_rfl); intro ws _ _) | ((with_reducible apply wpl_storecell); (exact rfl); (exact rfl); infer_instance; (exact rfl); (first | (with_reducible assumption) | omega | (focus (simp; done)) | (focus (simp; omega; done)) | decide); intro ws _ _))
  refine ret_row rfl rfl (n := 2) rfl rfl ⟨k, rfl, stepC, ?_, HKE, ?_, hkA⟩
  · exact Lib.hid (h3.out.far (inferInstance : Step (only zo) w3 ws).chg (m := w.heap.size) (fun x hx => by have hx' : x = zo := hx; omega) hgl (fun h => hdl (kR_ne h)))
  · exact HKI.out.chg (inferInstance : Step (only zo) w3 ws).chg (fun x hx e => by
      have e' : x = zo := e
      obtain ⟨_, ad, e2, hx⟩ := hx
      rw [HkA.out] at e2
      have h5 := hA2.out ad e2
      omega)
theorem run_ptr2R (a b : Option Addr) (w : World) : (Instr.buildSlice 225 2 #[(0, .pointer a), (1, .pointer b)]).run Try.prog w = .ok (.slice (some ⟨w.heap.size, 0, none⟩) 2 2) (w.alloc (.cells #[.pointer a, .pointer b] 167)) := by kernel_rfl
end Go.Proofs.Ythcleccofccbdaa
end
section
open Go Go.RowKit
namespace Go.Proofs.Ythcleccofccbdaa
theorem HB.cells {α : Type} [RowC α] {w : World} {z : Nat} {t : TypeId} {l : List α} (h : HB w z t (cellsOf l).toArray) : HR w (some ⟨z, 0, none⟩) (cellsOf l) := ⟨by
  have h1 := h.rdL
  simpa using h1⟩
end Go.Proofs.Ythcleccofccbdaa
end
section
open Go Go.RowKit
namespace Go.Proofs.Ythcleccofccbdaa
/-- what is decoded -/
def rtM (b : List UInt8) : Int × Int × List (List H32 × Int) × Int := if rtOk b then (rtV b, rtX b, kK (rtS b) 4, 0) else (0, 0, noK.map KR.m, 2)
def DecRt (b : List UInt8) (w : World) : Ending → World → Prop := fun e w' => Step nowhere w w' ∧ ∃ v x K err, e = .returned (.tuple #[.agg (rtL v x K).toArray, .int .i64 err]) ∧ Hid (K.length = 4 ∧ (v, x, K.map KR.m, err) = rtM b) ∧ Hid (KsIn w w' K)
end Go.Proofs.Ythcleccofccbdaa
end
section
open Go Go.RowKit
namespace Go.Proofs.Ythcleccofccbdaa
theorem RRAt.far {S : Nat → Prop} {w w' : World} {g d : Nat} {s : RS} {m : Nat} (h : RRAt w g d s) (hc : Chg S w w') (hS : ∀ x, S x → m ≤ x) (hg : g < m) (hd : s.b ≠ [] → d < m) : RRAt w' g d s :=
  h.chg2 hc (fun e => by have := hS _ e; omega) (fun hne e => by have := hS _ e; have := hd hne; omega)
def rg3 (g z : Nat) (A : Option Addr) : Nat → Prop := fun x => x = g ∨ x = z ∨ rowOf A x
instance subRg1 (w : World) (g z : Nat) (A : Option Addr) : Sub w (only g) (rg3 g z A) := ⟨fun _ _ h => .inl h⟩
instance subRg2 (w : World) (g z : Nat) (A : Option Addr) : Sub w (only z) (rg3 g z A) := ⟨fun _ _ h => .inr (.inl h)⟩
instance subRg3 (w : World) (g z : Nat) (A : Option Addr) : Sub w (rowOf A) (rg3 g z A) := ⟨fun _ _ h => .inr (.inr h)⟩
end Go.Proofs.Ythcleccofccbdaa
end
section
open Go Go.RowKit
namespace Go.Proofs.Ythcleccofccbdaa
theorem GotQ.le {s s' : RS} {l : List H32} {need : Nat} (h : GotQ s l need s') : s'.b.length ≤ s.b.length := by
  obtain ⟨j, _, _, _, _, _, rfl⟩ := h
  exact Nat.le_trans (RS.num_le _) (Nat.le_trans (hS_le _ _) (RS.num_le s))
theorem Nw.hrR {w w' : World} (n : Nw w w') {A : Option Addr} {vs : List Value} (h : Rd w A vs) : HR w' A vs := HR.step nowhere w w' A _ (h := ⟨h⟩) (s := ⟨n.out⟩)
end Go.Proofs.Ythcleccofccbdaa
end
