/- SegStray, SegOpen. -/
import Derived.Test.YtojbbmgghhmgmaaSgP
import Derived.Test.YtojbbmgghhmgmaaSgBn
open Go Go.RowKit
namespace Go.Proofs.Ytojbbmgghhmgmaa
theorem stray_take {s : St} {d : List UInt8} (hs : ∀ k, s.G k = none) (hd : ¬ (0 < d.length ∧ (bget d 0).toNat / 16 < 2)) : takeS s 3 d 0 = (s.err, none) := by
  unfold takeS
  rw [late_none 0 (hs 3)]
  unfold kindS
  split
  · rfl
  · rw [if_neg (by omega), if_neg (by omega)]
    split
    · exact further_none (hs 3)
    · rfl
/-- a list of rows: each a slice's header -/
instance : CellT Try.prog 22 := ⟨fun _ => by kernel_rfl, fun _ => by kernel_rfl⟩
def rw0 : Row := ⟨none, 0, []⟩
def gr (l : List Row) (k : Nat) : Row := l.getD k rw0
theorem gr_mem (l : List Row) (k : Nat) (h : k < l.length) : gr l k ∈ l := by
  simp [gr, List.getD_eq_getElem?_getD, h]
theorem rowsV_at {l : List Row} {k : Nat} (h : k < l.length) : (rowsV l)[k]? = some (.slice (gr l k).A (gr l k).p.length (gr l k).c) := by
  simp [rowsV, gr, List.getD_eq_getElem?_getD, h, Row.v]
section
variable {P : Program} {ops : Array Oper} {rest : List Oper} {a : Act} {w : World} {Q : Exit → Act → World → Prop} {dst : Option Tmp} {ty : TypeId} {pos : String} {after : Array Edge} {gd : Option (Nat × Bool)}
theorem wpl_index1 {t : TypeId} {x ix : Operand} {A : Option Addr} {n c k : Nat} (hx : a.eval x = .slice A n c) (hi : a.eval ix = .int .i64 (k : Int)) {e : TypeId} {bytes : Nat} {z : Value} (E : ElemT P t e 1 bytes z) {vs : List Value} (hr : HR w A vs) (hl : 0 < vs.length) (h1 : k < n)
    (h : wpList P ops Q rest (a.put dst (ptrOf A k)) w) : wpList P ops Q (⟨dst, .indexAddr t x ix, ty, pos, after, none⟩ :: rest) a w :=
  wpl_index hx hi E (by omega) (by omega) hr hl (by simpa using h)
theorem wpl_load1 {t : TypeId} {x : Operand} {A : Option Addr} {k : Nat} (hx : a.eval x = ptrOf A k) {vs : List Value} (hr : HR w A vs) [ht : CellT P t] {v : Value} (hv : vs[k]? = some v)
    (h : wpList P ops Q rest (a.put dst v) w) : wpList P ops Q (⟨dst, .load t x, ty, pos, after, none⟩ :: rest) a w := by
  obtain ⟨ad, hA, hc⟩ := hr.out k v hv
  subst hA
  exact wpl_loadat (ad := ad.add k) hx hc h
end
instance : ElemT Try.prog 52 22 1 24 (.slice none 0 0) := ⟨⟨Try.underlying52, by kernel_rfl, rfl, by decide⟩⟩
set_option maxRecDepth 100000 in
set_option maxHeartbeats 800000 in
theorem segStray_calls {A : Option Addr} {n c : Nat} (rs : List Row) {w : World} [h : HR w A (rowsV rs)] (hn : rs.length = n) (hmax : n ≤ 9223372036854775807) (hrows : RowsOk w rs) (hrm : ∀ r ∈ rs, r.p.length ≤ r.c) (hrl : ∀ r ∈ rs, r.p.length ≤ 9223372036854775807) :
    Calls Try.prog 9 #[.slice A n c] w fun e w' => e = .returned (.bool true) ∧ Chg nowhere w w' := by
  by_cases c1 : 60 < n
  · have i1 : (60 : Int) < n := by omega
    go_enter Try.func9, Try.ntmps9
    go_wp2_with fail
    go_ret
    exact ⟨rfl, Chg.refl _ _⟩
  have i1 : ¬ (60 : Int) < n := by omega
  go_enter Try.func9, Try.ntmps9
  go_wp2_with fail
  refine (newJ_calls _).mono ?_
  rintro e w1 ⟨z, rfl, hs1, hJ1, hz⟩
  go_wp2_with fail
  go_loopw [4, 5] (fun nv iv wr => ∃ (k m : Nat) (S : Nat → Prop) (s : St), k ≤ n ∧ m ≤ k ∧ nv = .int .i64 (m : Int) ∧ iv = .int .i64 (k : Int) ∧ JS wr z S s ∧ (∀ x, S x → w.heap.size ≤ x) ∧ Step nowhere w wr ∧ (∀ k, s.G k = none) ∧ s.N = m ∧ s.m = 0) (fun _ iv _ => n - (intOf iv).toNat)
  case atStart => exact ⟨0, 0, _, _, Nat.zero_le _, Nat.le_refl _, rfl, rfl, hJ1, fun x hx => by rw [show x = z from hx]; exact hz, stepN, fun _ => rfl, rfl, rfl⟩
  case round =>
    obtain ⟨k, m, S, s, hk, hm, rfl, rfl, hJ, hS, _, hG, hN, hM⟩ := hrel
    by_cases hlt : k < n
    · have hltI : (k : Int) < n := by omega
      have hkl : k < rs.length := by omega
      have hv := rowsV_at hkl
      have hrow := hrows _ (gr_mem rs k hkl)
      have hcap := hrm _ (gr_mem rs k hkl)
      have hmaxr := hrl _ (gr_mem rs k hkl)
      have hvl : 0 < (rowsV rs).length := by simp [rowsV]; omega
      obtain ⟨rA, hrA⟩ : ∃ x, (gr rs k).A = x := ⟨_, rfl⟩
      obtain ⟨rp, hrp⟩ : ∃ x, (gr rs k).p = x := ⟨_, rfl⟩
      obtain ⟨rc, hrc⟩ : ∃ x, (gr rs k).c = x := ⟨_, rfl⟩
      rw [hrA, hrp] at hrow
      rw [hrA, hrp, hrc] at hv
      rw [hrp, hrc] at hcap
      rw [hrp] at hmaxr
      obtain ⟨rn, hrn⟩ : ∃ x, rp.length = x := ⟨_, rfl⟩
      rw [hrn] at hv hcap hmaxr
      clear hrA hrp hrc
      have HV := Lib.hid hv
      have HRN := Lib.hid hrn
      clear hv
      by_cases c20 : 20 < rn
      · have i20 : (20 : Int) < rn := by omega
        go_wp2_with (first | go_skip | ((with_reducible apply wpl_index1); (exact rfl); (exact rfl); (exact inferInstance); (exact inferInstance); (exact hvl); (exact hlt)) | ((with_reducible apply (wpl_load1 (t := 22))); (exact rfl); (exact inferInstance); (exact HV.out)) | ((with_reducible apply (wpl_guard (op := .load _ _))); (exact rfl)) | ((with_reducible apply (wpl_guard (op := .indexAddr _ _ _))); (exact rfl)) | ((with_reducible apply wpl_loadrow); (exact rfl); (exact inferInstance); (exact inferInstance); (first | (with_reducible assumption) | (with_reducible exact H32.size _) | kernel_rfl)) | ((with_reducible apply wpl_loadcellN); (exact rfl); (exact inferInstance); (exact rfl)))
        go_ret
        exact ⟨rfl, (stepN (w0 := w)).chg⟩
      · have i20 : ¬ (20 : Int) < rn := by omega
        have hRr : HR wr rA (bs rp) := ⟨hrow.later (stepN (w0 := w) (w := wr)).chg⟩
        by_cases c0 : rn = 0
        · subst c0
          go_wp2_with (first | go_skip | ((with_reducible apply wpl_index1); (exact rfl); (exact rfl); (exact inferInstance); (exact inferInstance); (exact hvl); (exact hlt)) | ((with_reducible apply (wpl_load1 (t := 22))); (exact rfl); (exact inferInstance); (exact HV.out)) | ((with_reducible apply (stop_dst (dst := some 48))); (try simp only [Act.put, List.setIfInBounds_toArray, List.set_cons_succ, List.set_cons_zero]); ((with_reducible apply (wpl_build (dst := some 48))); (exact run_build_frame _ _ _ _))) | ((with_reducible apply (wpl_guard (op := .load _ _))); (exact rfl)) | ((with_reducible apply (wpl_guard (op := .indexAddr _ _ _))); (exact rfl)) | ((with_reducible apply wpl_loadrow); (exact rfl); (exact inferInstance); (exact inferInstance); (first | (with_reducible assumption) | (with_reducible exact H32.size _) | kernel_rfl)) | ((with_reducible apply wpl_loadcellN); (exact rfl); (exact inferInstance); (exact rfl)))
          refine (take_calls 3 0 hJ (by omega) (by omega) (by decide) hRr.out (fun hne ad e hS2 => by have := rd_lt hrow hne e; have := hS _ hS2; omega) HRN.out hcap (by omega) (by decide) (by decide)).mono ?_
          rw [stray_take hG (by rw [HRN.out]; omega)]
          rintro e w2 ⟨S2, B2, c2, hJ2, rfl, hC2, hS2, _⟩
          have ab : Above w S := ⟨hS⟩
          have st2 : Step S wr w2 := ⟨hC2⟩
          have hsz : w.heap.size ≤ wr.heap.size := (stepN (w0 := w) (w := wr)).chg.size
          have hNe : ((s.err.N : Nat) : Int) = (m : Int) + 1 := by show ((s.N + 1 : Nat) : Int) = _; rw [hN]; simp
          have hMe : ((s.err.m : Nat) : Int) = 0 := by show ((s.m : Nat) : Int) = _; rw [hM]; rfl
          go_wp2_with fail
          refine (errors_calls hJ2).mono ?_
          rintro e w3 ⟨rfl, hs3⟩
          rw [hNe]
          go_wp2_with fail
          refine (open_calls (hJ2.calm hs3.chg (fun _ _ hk => hk))).mono ?_
          rintro e w4 ⟨rfl, hs4⟩
          rw [hMe]
          go_wp2_with fail
          have hst : Step nowhere w w4 := stepN
          refine ⟨⟨k + 1, m + 1, S2, s.err, by omega, by omega, by simp, by simp, (hJ2.calm hs3.chg (fun _ _ hk => hk)).calm hs4.chg (fun _ _ hk => hk), fun x hx => ?_, hst, hG, by show s.N + 1 = m + 1; rw [hN], hM⟩, by simp [intOf]; omega⟩
          rcases hS2 x hx with h9 | h9
          · exact hS x h9
          · exact Nat.le_trans hsz h9
        · have i0 : (0 : Int) < rn := by omega
          have hp0 : 0 < rp.length := by rw [HRN.out]; omega
          by_cases c2 : (bget rp 0).toNat / 16 < 2
          · have i2 : (((bget rp 0).toNat : Nat) : Int) / 16 < 2 := by omega
            go_wp2_with (first | go_skip | ((with_reducible apply wpl_index1); (exact rfl); (exact rfl); (exact inferInstance); (exact inferInstance); (exact hvl); (exact hlt)) | ((with_reducible apply (wpl_load1 (t := 22))); (exact rfl); (exact inferInstance); (exact HV.out)) | ((with_reducible apply (wpl_guard (op := .indexAddr _ _ _))); (exact rfl)) | ((with_reducible apply (wpl_guard (op := .load _ _))); (exact rfl)) | ((with_reducible apply wpl_indexB0); (exact rfl); (exact inferInstance); (exact hRr); (exact HRN.out); omega) | ((with_reducible apply (wpl_loadB (t := 5))); (exact rfl); (exact hRr); (exact inferInstance); (exact hp0)) | ((with_reducible apply (wpl_guard (op := .load _ _))); (exact rfl)) | ((with_reducible apply (wpl_guard (op := .indexAddr _ _ _))); (exact rfl)) | ((with_reducible apply wpl_loadrow); (exact rfl); (exact inferInstance); (exact inferInstance); (first | (with_reducible assumption) | (with_reducible exact H32.size _) | kernel_rfl)) | ((with_reducible apply wpl_loadcellN); (exact rfl); (exact inferInstance); (exact rfl)))
            refine ⟨⟨k + 1, m, S, s, by omega, by omega, rfl, by simp, hJ, hS, inferInstance, hG, hN, hM⟩, by simp [intOf]; omega⟩
          · have i2 : ¬ (((bget rp 0).toNat : Nat) : Int) / 16 < 2 := by omega
            go_wp2_with (first | go_skip | ((with_reducible apply wpl_index1); (exact rfl); (exact rfl); (exact inferInstance); (exact inferInstance); (exact hvl); (exact hlt)) | ((with_reducible apply (wpl_load1 (t := 22))); (exact rfl); (exact inferInstance); (exact HV.out)) | ((with_reducible apply (wpl_guard (op := .indexAddr _ _ _))); (exact rfl)) | ((with_reducible apply (wpl_guard (op := .load _ _))); (exact rfl)) | ((with_reducible apply wpl_indexB0); (exact rfl); (exact inferInstance); (exact hRr); (exact HRN.out); omega) | ((with_reducible apply (wpl_loadB (t := 5))); (exact rfl); (exact hRr); (exact inferInstance); (exact hp0)) | ((with_reducible apply (stop_dst (dst := some 48))); (try simp only [Act.put, List.setIfInBounds_toArray, List.set_cons_succ, List.set_cons_zero]); ((with_reducible apply (wpl_build (dst := some 48))); (exact run_build_frame _ _ _ _))) | ((with_reducible apply (wpl_guard (op := .load _ _))); (exact rfl)) | ((with_reducible apply (wpl_guard (op := .indexAddr _ _ _))); (exact rfl)) | ((with_reducible apply wpl_loadrow); (exact rfl); (exact inferInstance); (exact inferInstance); (first | (with_reducible assumption) | (with_reducible exact H32.size _) | kernel_rfl)) | ((with_reducible apply wpl_loadcellN); (exact rfl); (exact inferInstance); (exact rfl)))
            refine (take_calls 3 0 hJ (by omega) (by omega) (by decide) hRr.out (fun hne ad e hS2 => by have := rd_lt hrow hne e; have := hS _ hS2; omega) HRN.out hcap (by omega) (by decide) (by decide)).mono ?_
            rw [stray_take hG (by rw [HRN.out]; omega)]
            rintro e w2 ⟨S2, B2, c2, hJ2, rfl, hC2, hS2, _⟩
            have ab : Above w S := ⟨hS⟩
            have st2 : Step S wr w2 := ⟨hC2⟩
            have hsz : w.heap.size ≤ wr.heap.size := (stepN (w0 := w) (w := wr)).chg.size
            have hNe : ((s.err.N : Nat) : Int) = (m : Int) + 1 := by show ((s.N + 1 : Nat) : Int) = _; rw [hN]; simp
            have hMe : ((s.err.m : Nat) : Int) = 0 := by show ((s.m : Nat) : Int) = _; rw [hM]; rfl
            go_wp2_with fail
            refine (errors_calls hJ2).mono ?_
            rintro e w3 ⟨rfl, hs3⟩
            rw [hNe]
            go_wp2_with fail
            refine (open_calls (hJ2.calm hs3.chg (fun _ _ hk => hk))).mono ?_
            rintro e w4 ⟨rfl, hs4⟩
            rw [hMe]
            go_wp2_with fail
            have hst : Step nowhere w w4 := stepN
            refine ⟨⟨k + 1, m + 1, S2, s.err, by omega, by omega, by simp, by simp, (hJ2.calm hs3.chg (fun _ _ hk => hk)).calm hs4.chg (fun _ _ hk => hk), fun x hx => ?_, hst, hG, by show s.N + 1 = m + 1; rw [hN], hM⟩, by simp [intOf]; omega⟩
            rcases hS2 x hx with h9 | h9
            · exact hS x h9
            · exact Nat.le_trans hsz h9
    · have hltI : ¬ (k : Int) < n := by omega
      go_wp2_with fail
      refine (sKnown_calls _).mono ?_
      rintro e w4 ⟨rfl, _⟩
      go_wp2_with fail
      go_ret
      exact ⟨rfl, (stepN (w0 := w)).chg⟩
end Go.Proofs.Ytojbbmgghhmgmaa
