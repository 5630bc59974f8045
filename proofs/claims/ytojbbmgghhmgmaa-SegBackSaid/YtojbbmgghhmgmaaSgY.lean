/- SegBack. -/
import Derived.Test.YtojbbmgghhmgmaaSgU
open Go Go.RowKit
namespace Go.Proofs.Ytojbbmgghhmgmaa
instance : CellT Try.prog 4 := ⟨fun _ => by kernel_rfl, fun _ => by kernel_rfl⟩
instance : ElemT Try.prog 47 4 1 1 (.bool false) := ⟨⟨Try.underlying47, by kernel_rfl, rfl, by decide⟩⟩
set_option maxRecDepth 100000 in
set_option maxHeartbeats 6400000 in
theorem segBack1_calls {Aa Ab At : Option Addr} {na ca nb cb nt ct : Nat} (a b : List UInt8) (tb : List Bool) (id other : Int) {w : World} [hra : HR w Aa (bs a)] [hrb : HR w Ab (bs b)] [hrt : HR w At (tb.map Value.bool)] (han : a.length = na) (hbn : b.length = nb) (htn : tb.length = nt) (hca : na ≤ ca) (hcb : nb ≤ cb) (hmt : nt ≤ 9223372036854775807) (ha01 : 1 ≤ na) (ha02 : na ≤ 600) (hb01 : 1 ≤ nb) (hb02 : nb ≤ 600) (hid0 : 0 ≤ id) (hid1 : id ≤ 2047) (hot0 : 0 ≤ other) (hot1 : other ≤ 2047) (hne : ¬ id = other) :
    Calls Try.prog 5 #[.slice Aa na ca, .slice Ab nb cb, .int .i64 id, .int .i64 other, .slice At nt ct] w fun e w' => e = .returned (.bool true) ∧ Chg nowhere w w' := by
  have i1 : ¬ (na : Int) < 1 := by omega
  have i2 : ¬ (600 : Int) < na := by omega
  have i3 : ¬ (nb : Int) < 1 := by omega
  have i4 : ¬ (600 : Int) < nb := by omega
  have i5 : ¬ id < 0 := by omega
  have i6 : ¬ (2047 : Int) < id := by omega
  have i7 : ¬ other < 0 := by omega
  have i8 : ¬ (2047 : Int) < other := by omega
  have b9 : (id == other) = false := beqF hne
  have ha1 : 1 ≤ a.length := by omega
  have ha2 : a.length ≤ 600 := by omega
  have hb1 : 1 ≤ b.length := by omega
  have hb2 : b.length ≤ 600 := by omega
  go_enter Try.func5, Try.ntmps5
  go_wp2_with fail
  refine (split_calls (m := a) id (A := Aa) (n := na) (c := ca) han hca hid0 hid1 (by omega) (by omega)).mono ?_
  rintro e w1 ⟨FA, fc, l, rfl, _, _, hFa, hD, hI⟩
  have HD := Lib.hid hD
  have HI := Lib.hid hI
  clear hD hI
  go_wp2_with fail
  refine (split_calls (m := b) other (A := Ab) (n := nb) (c := cb) hbn hcb hot0 hot1 (by omega) (by omega)).mono ?_
  rintro e w2 ⟨FB, fd, l', rfl, _, _, hF', hD', hI'⟩
  have HD' := Lib.hid hD'
  have HI' := Lib.hid hI'
  clear hD' hI'
  have hF : HFs w2 l := inferInstance
  have hRA2 : HR w2 FA (cellsOf l) := inferInstance
  have nw2 : Nw w w2 := inferInstance
  obtain ⟨Lx, hlx⟩ : ∃ L, l.length = L := ⟨_, rfl⟩
  obtain ⟨Ly, hly⟩ : ∃ M, l'.length = M := ⟨_, rfl⟩
  have hL2 : 1 ≤ Lx ∧ Lx ≤ 200 := by
    rw [← hlx, map_len HD.out, split_len, han]
    unfold cntN; split <;> omega
  have hM2 : 1 ≤ Ly ∧ Ly ≤ 200 := by
    rw [← hly, map_len HD'.out, split_len, hbn]
    unfold cntN; split <;> omega
  obtain ⟨hL2a, hL2b⟩ := hL2
  obtain ⟨hM2a, hM2b⟩ := hM2
  rw [hlx, hly]
  have bL : ((Lx : Int) == 0) = false := beqF (by omega)
  have bM : ((Ly : Int) == 0) = false := beqF (by omega)
  go_wp2_with fail
  refine (newJ_calls _).mono ?_
  rintro e w3 ⟨z, rfl, hs3, hJ3, hz⟩
  have hS3 : ∀ x, only z x → w2.heap.size ≤ x := fun x hx => by rw [show x = z from hx]; exact hz
  go_wp2_with fail
  go_loopw [16, 17, 18] (fun pv qv iv wr => ∃ (p q i : Nat) (S : Nat → Prop) (s : St), p ≤ Lx ∧ q ≤ Ly ∧ i ≤ p + q ∧ pv = .int .i64 (p : Int) ∧ qv = .int .i64 (q : Int) ∧ iv = .int .i64 (i : Int) ∧ JS wr z S s ∧ (∀ x, S x → w2.heap.size ≤ x) ∧ Step nowhere w2 wr ∧ Hid (s.G id = want a p 5) ∧ Hid (s.G other = want b q 5) ∧ Hid (s.N = 0) ∧ Hid (s.m = (if (s.G id).isSome then 1 else 0) + (if (s.G other).isSome then 1 else 0))) (fun pv qv _ _ => (Lx - (intOf pv).toNat) + (Ly - (intOf qv).toNat))
  case atStart => exact ⟨0, 0, 0, _, _, Nat.zero_le _, Nat.zero_le _, Nat.le_refl _, rfl, rfl, rfl, hJ3, hS3, stepN, Lib.hid (by rw [want_zero]; rfl), Lib.hid (by rw [want_zero]; rfl), Lib.hid rfl, Lib.hid rfl⟩
  case round =>
    obtain ⟨p, q, i, S, s, hp9, hq9, hi9, rfl, rfl, rfl, hJ, hS, _, hGa, hGb, HN, HMM⟩ := hrel
    by_cases hgo : p < Lx ∨ q < Ly
    · by_cases hti : i < nt
      · have htI : (i : Int) < nt := by omega
        have hvl : 0 < (tb.map Value.bool).length := by simp; omega
        have hRT : HR wr At (tb.map Value.bool) := inferInstance
        obtain ⟨x, hx⟩ : ∃ x, tb[i]? = some x := ⟨_, List.getElem?_eq_getElem (by omega)⟩
        cases x with
        | true =>
          have HTB := Lib.hid (show (tb.map Value.bool)[i]? = some (Value.bool true) by rw [List.getElem?_map, hx]; rfl)
          clear hx
          by_cases hq : q < Ly
          · have hqI : (q : Int) < Ly := by omega
            by_cases hp : p < Lx
            · have hpI : (p : Int) < Lx := by omega
              have hil : p < l.length := by rw [hlx]; omega
              have hd := gt_d l p _ HD.out hil
              have hb8 := gt_len HD.out hil
              have his : p < (splitS a).length := by rw [← map_len HD.out]; exact hil
              have hsL : (splitS a).length = Lx := by rw [← map_len HD.out, hlx]
              have F0 := feed (s := s) (id := id) (now := 5) (last := 5) (l := a) (p := p) ha1 ha2 his hGa.out rfl
              rw [hsL] at F0
              have T0 := takeB w2 hJ hS (stepN (w0 := w2) (w := wr)).chg (by have := HN.out; omega) (by have := HMM.out; split at this <;> split at this <;> omega) hF.out (k := p) hil HI.out hid0 hid1 5 (by omega) (by decide) (by decide) hd F0
              have hum := upd_m s id (want a (p + 1) 5) (fun hh => by have h2 := HMM.out; rw [if_pos hh] at h2; omega)
              have HUM := Lib.hid hum
              have HT0 := Lib.hid T0
              have HIS := Lib.hid his
              clear T0 F0 hd hsL hum his
              go_wp2_with (first | go_skip | ((with_reducible apply (wpl_guard (op := .indexAddr _ _ _))); (exact rfl)) | ((with_reducible apply (wpl_guard (op := .load _ _))); (exact rfl)) | ((with_reducible apply wpl_index1); (exact rfl); (exact rfl); (exact inferInstance); (exact hRT); (exact hvl); (exact hti)) | ((with_reducible apply (wpl_load1 (t := 4))); (exact rfl); (exact hRT); (exact HTB.out)) | ((with_reducible apply (wpl_guard (op := .load _ _))); (exact rfl)) | ((with_reducible apply (wpl_guard (op := .indexAddr _ _ _))); (exact rfl)) | ((with_reducible apply (wpl_guard (op := .convert _ _ _))); (exact rfl)) | ((with_reducible apply wpl_loadrow); (exact rfl); (exact inferInstance); (exact inferInstance); (first | (with_reducible assumption) | (with_reducible exact H32.size _) | (with_reducible exact enc_sz _ rfl) | kernel_rfl)) | ((with_reducible apply wpl_loadcellN); (exact rfl); (exact inferInstance); (first | (exact rfl) | (exact tg_hw _) | (exact tg_ctr _) | (exact tg_ecu _) | (exact srch_who) | (exact srch_fd))) | ((with_reducible apply wpl_indexH); (exact rfl); (exact rfl); (exact inferInstance); (exact inferInstance); (first | (with_reducible assumption) | omega); (first | (with_reducible assumption) | omega); (first | (with_reducible assumption) | omega)) | ((with_reducible apply wpl_indexH'); (exact rfl); (exact rfl); (exact inferInstance); (exact inferInstance); (first | (with_reducible assumption) | omega); (first | (with_reducible assumption) | omega); (first | (with_reducible assumption) | omega)) | ((with_reducible apply (wpl_loadhash (t := 70))); (exact rfl); (exact inferInstance); (exact inferInstance); (first | (with_reducible assumption) | omega)) | ((with_reducible apply (wpl_indexE (α := FR) (t := 23))); (exact rfl); (exact rfl); (exact inferInstance); (exact inferInstance); (first | (with_reducible assumption) | omega | (focus (simp; done)) | (focus (simp; omega; done)) | decide); (exact rfl); (decide); (first | (with_reducible assumption) | omega | (focus (simp; done)) | (focus (simp; omega; done)) | decide)) | ((with_reducible apply (wpl_indexE0 (α := FR) (t := 23))); (exact rfl); (exact inferInstance); (exact inferInstance); (first | (with_reducible assumption) | omega | (focus (simp; done)) | (focus (simp; omega; done)) | decide); (exact rfl); (decide); (first | (with_reducible assumption) | omega | (focus (simp; done)) | (focus (simp; omega; done)) | decide)) | ((with_reducible apply (wpl_loadE (α := FR) (t := 40))); (exact inferInstance); (exact rfl); (exact inferInstance); (exact rfl); (decide); (first | (with_reducible assumption) | omega | (focus (simp; done)) | (focus (simp; omega; done)) | decide)) | ((with_reducible apply (wpl_loadF (α := FR))); (exact inferInstance); (exact rfl); (exact inferInstance); (exact rfl); (first | (with_reducible assumption) | omega | (focus (simp; done)) | (focus (simp; omega; done)) | decide); (first | (exact rfl) | (exact tg_hw _) | (exact tg_ctr _) | (exact tg_ecu _) | (exact srch_who) | (exact srch_fd))) | ((with_reducible apply (wpl_loadint (t := 3))); (exact rfl); (exact inferInstance); (exact inferInstance); (first | (with_reducible assumption) | omega)) | ((with_reducible apply (wpl_loadbyte (t := 5))); (exact rfl); (exact inferInstance); (exact inferInstance); (first | (with_reducible assumption) | omega)))
              refine HT0.out.mono ?_
              rintro e w5 ⟨S5, B5, c5, hJ5, hS5, rfl, hn5, hR5⟩
              have st5 : Step nowhere w2 w5 := ⟨hn5⟩
              have hG5a : (upd s id (want a (p + 1) 5)).G id = want a (p + 1) 5 := by rw [upd_G, if_pos rfl]
              have hG5b : (upd s id (want a (p + 1) 5)).G other = s.G other := by rw [upd_G, if_neg (fun hh => hne hh.symm)]
              have HG5a := Lib.hid hG5a
              have HG5b := Lib.hid hG5b
              clear hG5a hG5b
              by_cases hpe : p + 1 = Lx
              · rw [if_pos hpe] at hR5 ⊢
                have bpe : ((p : Int) + 1 == (Lx : Int)) = true := beqT (by omega)
                have hR9 : HR w5 B5 (bs a) := ⟨hR5⟩
                have hRm : HR w5 Aa (bs a) := ⟨hra.out.later (stepN (w0 := w) (w := w5)).chg⟩
                have e8 : ((strL a).toList == (strL a).toList) = true := by simp
                go_wp2_with (first | go_skip | ((with_reducible apply (wpl_guard (op := .convert _ _ _))); (exact rfl)) | ((with_reducible apply wpl_conv); (exact rfl); (exact hR9); (exact han); (exact Try.underlying22); (exact Try.underlying5); (exact Try.underlying9)) | ((with_reducible apply wpl_conv); (exact rfl); (exact hRm); (exact han); (exact Try.underlying22); (exact Try.underlying5); (exact Try.underlying9)) | ((with_reducible apply (wpl_guard (op := .load _ _))); (exact rfl)) | ((with_reducible apply (wpl_guard (op := .indexAddr _ _ _))); (exact rfl)) | ((with_reducible apply (wpl_guard (op := .convert _ _ _))); (exact rfl)) | ((with_reducible apply wpl_loadrow); (exact rfl); (exact inferInstance); (exact inferInstance); (first | (with_reducible assumption) | (with_reducible exact H32.size _) | (with_reducible exact enc_sz _ rfl) | kernel_rfl)) | ((with_reducible apply wpl_loadcellN); (exact rfl); (exact inferInstance); (first | (exact rfl) | (exact tg_hw _) | (exact tg_ctr _) | (exact tg_ecu _) | (exact srch_who) | (exact srch_fd))))
                refine ⟨⟨p + 1, q, i + 1, S5, _, by omega, by omega, by omega, by simp, by simp, by simp, hJ5, hS5, st5, Lib.hid (HG5a.out), Lib.hid ((HG5b.out.trans hGb.out)), Lib.hid (by rw [upd_N]; exact HN.out), Lib.hid (by
                  have h1 := HUM.out
                  have h2 := HMM.out
                  rw [HG5a.out, HG5b.out] 
                  omega)⟩, by simp [intOf]; omega⟩
              · rw [if_neg hpe] at hR5 ⊢
                have bpe : ((p : Int) + 1 == (Lx : Int)) = false := beqF (by omega)
                go_wp2_with fail
                refine ⟨⟨p + 1, q, i + 1, S5, _, by omega, by omega, by omega, by simp, by simp, by simp, hJ5, hS5, st5, Lib.hid (HG5a.out), Lib.hid ((HG5b.out.trans hGb.out)), Lib.hid (by rw [upd_N]; exact HN.out), Lib.hid (by
                  have h1 := HUM.out
                  have h2 := HMM.out
                  rw [HG5a.out, HG5b.out] 
                  omega)⟩, by simp [intOf]; omega⟩
            · have hpI : ¬ (p : Int) < Lx := by omega
              have hil : q < l'.length := by rw [hly]; omega
              have hd := gt_d l' q _ HD'.out hil
              have hb8 := gt_len HD'.out hil
              have his : q < (splitS b).length := by rw [← map_len HD'.out]; exact hil
              have hsL : (splitS b).length = Ly := by rw [← map_len HD'.out, hly]
              have F0 := feed (s := s) (id := other) (now := 5) (last := 5) (l := b) (p := q) hb1 hb2 his hGb.out rfl
              rw [hsL] at F0
              have T0 := takeB w2 hJ hS (stepN (w0 := w2) (w := wr)).chg (by have := HN.out; omega) (by have := HMM.out; split at this <;> split at this <;> omega) hF'.out (k := q) hil HI'.out hot0 hot1 5 (by omega) (by decide) (by decide) hd F0
              have hum := upd_m s other (want b (q + 1) 5) (fun hh => by have h2 := HMM.out; rw [if_pos hh] at h2; omega)
              have HUM := Lib.hid hum
              have HT0 := Lib.hid T0
              have HIS := Lib.hid his
              clear T0 F0 hd hsL hum his
              go_wp2_with (first | go_skip | ((with_reducible apply (wpl_guard (op := .indexAddr _ _ _))); (exact rfl)) | ((with_reducible apply (wpl_guard (op := .load _ _))); (exact rfl)) | ((with_reducible apply wpl_index1); (exact rfl); (exact rfl); (exact inferInstance); (exact hRT); (exact hvl); (exact hti)) | ((with_reducible apply (wpl_load1 (t := 4))); (exact rfl); (exact hRT); (exact HTB.out)) | ((with_reducible apply (wpl_guard (op := .load _ _))); (exact rfl)) | ((with_reducible apply (wpl_guard (op := .indexAddr _ _ _))); (exact rfl)) | ((with_reducible apply (wpl_guard (op := .convert _ _ _))); (exact rfl)) | ((with_reducible apply wpl_loadrow); (exact rfl); (exact inferInstance); (exact inferInstance); (first | (with_reducible assumption) | (with_reducible exact H32.size _) | (with_reducible exact enc_sz _ rfl) | kernel_rfl)) | ((with_reducible apply wpl_loadcellN); (exact rfl); (exact inferInstance); (first | (exact rfl) | (exact tg_hw _) | (exact tg_ctr _) | (exact tg_ecu _) | (exact srch_who) | (exact srch_fd))) | ((with_reducible apply wpl_indexH); (exact rfl); (exact rfl); (exact inferInstance); (exact inferInstance); (first | (with_reducible assumption) | omega); (first | (with_reducible assumption) | omega); (first | (with_reducible assumption) | omega)) | ((with_reducible apply wpl_indexH'); (exact rfl); (exact rfl); (exact inferInstance); (exact inferInstance); (first | (with_reducible assumption) | omega); (first | (with_reducible assumption) | omega); (first | (with_reducible assumption) | omega)) | ((with_reducible apply (wpl_loadhash (t := 70))); (exact rfl); (exact inferInstance); (exact inferInstance); (first | (with_reducible assumption) | omega)) | ((with_reducible apply (wpl_indexE (α := FR) (t := 23))); (exact rfl); (exact rfl); (exact inferInstance); (exact inferInstance); (first | (with_reducible assumption) | omega | (focus (simp; done)) | (focus (simp; omega; done)) | decide); (exact rfl); (decide); (first | (with_reducible assumption) | omega | (focus (simp; done)) | (focus (simp; omega; done)) | decide)) | ((with_reducible apply (wpl_indexE0 (α := FR) (t := 23))); (exact rfl); (exact inferInstance); (exact inferInstance); (first | (with_reducible assumption) | omega | (focus (simp; done)) | (focus (simp; omega; done)) | decide); (exact rfl); (decide); (first | (with_reducible assumption) | omega | (focus (simp; done)) | (focus (simp; omega; done)) | decide)) | ((with_reducible apply (wpl_loadE (α := FR) (t := 40))); (exact inferInstance); (exact rfl); (exact inferInstance); (exact rfl); (decide); (first | (with_reducible assumption) | omega | (focus (simp; done)) | (focus (simp; omega; done)) | decide)) | ((with_reducible apply (wpl_loadF (α := FR))); (exact inferInstance); (exact rfl); (exact inferInstance); (exact rfl); (first | (with_reducible assumption) | omega | (focus (simp; done)) | (focus (simp; omega; done)) | decide); (first | (exact rfl) | (exact tg_hw _) | (exact tg_ctr _) | (exact tg_ecu _) | (exact srch_who) | (exact srch_fd))) | ((with_reducible apply (wpl_loadint (t := 3))); (exact rfl); (exact inferInstance); (exact inferInstance); (first | (with_reducible assumption) | omega)) | ((with_reducible apply (wpl_loadbyte (t := 5))); (exact rfl); (exact inferInstance); (exact inferInstance); (first | (with_reducible assumption) | omega)))
              refine HT0.out.mono ?_
              rintro e w5 ⟨S5, B5, c5, hJ5, hS5, rfl, hn5, hR5⟩
              have st5 : Step nowhere w2 w5 := ⟨hn5⟩
              have hG5a : (upd s other (want b (q + 1) 5)).G other = want b (q + 1) 5 := by rw [upd_G, if_pos rfl]
              have hG5b : (upd s other (want b (q + 1) 5)).G id = s.G id := by rw [upd_G, if_neg hne]
              have HG5a := Lib.hid hG5a
              have HG5b := Lib.hid hG5b
              clear hG5a hG5b
              by_cases hpe : q + 1 = Ly
              · rw [if_pos hpe] at hR5 ⊢
                have bpe : ((q : Int) + 1 == (Ly : Int)) = true := beqT (by omega)
                have hR9 : HR w5 B5 (bs b) := ⟨hR5⟩
                have hRm : HR w5 Ab (bs b) := ⟨hrb.out.later (stepN (w0 := w) (w := w5)).chg⟩
                have e8 : ((strL b).toList == (strL b).toList) = true := by simp
                go_wp2_with (first | go_skip | ((with_reducible apply (wpl_guard (op := .convert _ _ _))); (exact rfl)) | ((with_reducible apply wpl_conv); (exact rfl); (exact hR9); (exact hbn); (exact Try.underlying22); (exact Try.underlying5); (exact Try.underlying9)) | ((with_reducible apply wpl_conv); (exact rfl); (exact hRm); (exact hbn); (exact Try.underlying22); (exact Try.underlying5); (exact Try.underlying9)) | ((with_reducible apply (wpl_guard (op := .load _ _))); (exact rfl)) | ((with_reducible apply (wpl_guard (op := .indexAddr _ _ _))); (exact rfl)) | ((with_reducible apply (wpl_guard (op := .convert _ _ _))); (exact rfl)) | ((with_reducible apply wpl_loadrow); (exact rfl); (exact inferInstance); (exact inferInstance); (first | (with_reducible assumption) | (with_reducible exact H32.size _) | (with_reducible exact enc_sz _ rfl) | kernel_rfl)) | ((with_reducible apply wpl_loadcellN); (exact rfl); (exact inferInstance); (first | (exact rfl) | (exact tg_hw _) | (exact tg_ctr _) | (exact tg_ecu _) | (exact srch_who) | (exact srch_fd))))
                refine ⟨⟨p, q + 1, i + 1, S5, _, by omega, by omega, by omega, by simp, by simp, by simp, hJ5, hS5, st5, Lib.hid ((HG5b.out.trans hGa.out)), Lib.hid (HG5a.out), Lib.hid (by rw [upd_N]; exact HN.out), Lib.hid (by
                  have h1 := HUM.out
                  have h2 := HMM.out
                  rw [HG5b.out, HG5a.out] 
                  omega)⟩, by simp [intOf]; omega⟩
              · rw [if_neg hpe] at hR5 ⊢
                have bpe : ((q : Int) + 1 == (Ly : Int)) = false := beqF (by omega)
                go_wp2_with fail
                refine ⟨⟨p, q + 1, i + 1, S5, _, by omega, by omega, by omega, by simp, by simp, by simp, hJ5, hS5, st5, Lib.hid ((HG5b.out.trans hGa.out)), Lib.hid (HG5a.out), Lib.hid (by rw [upd_N]; exact HN.out), Lib.hid (by
                  have h1 := HUM.out
                  have h2 := HMM.out
                  rw [HG5b.out, HG5a.out] 
                  omega)⟩, by simp [intOf]; omega⟩
          · have hqI : ¬ (q : Int) < Ly := by omega
            have hp : p < Lx := by omega
            have hpI : (p : Int) < Lx := by omega
            have hil : p < l.length := by rw [hlx]; omega
            have hd := gt_d l p _ HD.out hil
            have hb8 := gt_len HD.out hil
            have his : p < (splitS a).length := by rw [← map_len HD.out]; exact hil
            have hsL : (splitS a).length = Lx := by rw [← map_len HD.out, hlx]
            have F0 := feed (s := s) (id := id) (now := 5) (last := 5) (l := a) (p := p) ha1 ha2 his hGa.out rfl
            rw [hsL] at F0
            have T0 := takeB w2 hJ hS (stepN (w0 := w2) (w := wr)).chg (by have := HN.out; omega) (by have := HMM.out; split at this <;> split at this <;> omega) hF.out (k := p) hil HI.out hid0 hid1 5 (by omega) (by decide) (by decide) hd F0
            have hum := upd_m s id (want a (p + 1) 5) (fun hh => by have h2 := HMM.out; rw [if_pos hh] at h2; omega)
            have HUM := Lib.hid hum
            have HT0 := Lib.hid T0
            have HIS := Lib.hid his
            clear T0 F0 hd hsL hum his
            go_wp2_with (first | go_skip | ((with_reducible apply (wpl_guard (op := .indexAddr _ _ _))); (exact rfl)) | ((with_reducible apply (wpl_guard (op := .load _ _))); (exact rfl)) | ((with_reducible apply wpl_index1); (exact rfl); (exact rfl); (exact inferInstance); (exact hRT); (exact hvl); (exact hti)) | ((with_reducible apply (wpl_load1 (t := 4))); (exact rfl); (exact hRT); (exact HTB.out)) | ((with_reducible apply (wpl_guard (op := .load _ _))); (exact rfl)) | ((with_reducible apply (wpl_guard (op := .indexAddr _ _ _))); (exact rfl)) | ((with_reducible apply (wpl_guard (op := .convert _ _ _))); (exact rfl)) | ((with_reducible apply wpl_loadrow); (exact rfl); (exact inferInstance); (exact inferInstance); (first | (with_reducible assumption) | (with_reducible exact H32.size _) | (with_reducible exact enc_sz _ rfl) | kernel_rfl)) | ((with_reducible apply wpl_loadcellN); (exact rfl); (exact inferInstance); (first | (exact rfl) | (exact tg_hw _) | (exact tg_ctr _) | (exact tg_ecu _) | (exact srch_who) | (exact srch_fd))) | ((with_reducible apply wpl_indexH); (exact rfl); (exact rfl); (exact inferInstance); (exact inferInstance); (first | (with_reducible assumption) | omega); (first | (with_reducible assumption) | omega); (first | (with_reducible assumption) | omega)) | ((with_reducible apply wpl_indexH'); (exact rfl); (exact rfl); (exact inferInstance); (exact inferInstance); (first | (with_reducible assumption) | omega); (first | (with_reducible assumption) | omega); (first | (with_reducible assumption) | omega)) | ((with_reducible apply (wpl_loadhash (t := 70))); (exact rfl); (exact inferInstance); (exact inferInstance); (first | (with_reducible assumption) | omega)) | ((with_reducible apply (wpl_indexE (α := FR) (t := 23))); (exact rfl); (exact rfl); (exact inferInstance); (exact inferInstance); (first | (with_reducible assumption) | omega | (focus (simp; done)) | (focus (simp; omega; done)) | decide); (exact rfl); (decide); (first | (with_reducible assumption) | omega | (focus (simp; done)) | (focus (simp; omega; done)) | decide)) | ((with_reducible apply (wpl_indexE0 (α := FR) (t := 23))); (exact rfl); (exact inferInstance); (exact inferInstance); (first | (with_reducible assumption) | omega | (focus (simp; done)) | (focus (simp; omega; done)) | decide); (exact rfl); (decide); (first | (with_reducible assumption) | omega | (focus (simp; done)) | (focus (simp; omega; done)) | decide)) | ((with_reducible apply (wpl_loadE (α := FR) (t := 40))); (exact inferInstance); (exact rfl); (exact inferInstance); (exact rfl); (decide); (first | (with_reducible assumption) | omega | (focus (simp; done)) | (focus (simp; omega; done)) | decide)) | ((with_reducible apply (wpl_loadF (α := FR))); (exact inferInstance); (exact rfl); (exact inferInstance); (exact rfl); (first | (with_reducible assumption) | omega | (focus (simp; done)) | (focus (simp; omega; done)) | decide); (first | (exact rfl) | (exact tg_hw _) | (exact tg_ctr _) | (exact tg_ecu _) | (exact srch_who) | (exact srch_fd))) | ((with_reducible apply (wpl_loadint (t := 3))); (exact rfl); (exact inferInstance); (exact inferInstance); (first | (with_reducible assumption) | omega)) | ((with_reducible apply (wpl_loadbyte (t := 5))); (exact rfl); (exact inferInstance); (exact inferInstance); (first | (with_reducible assumption) | omega)))
            refine HT0.out.mono ?_
            rintro e w5 ⟨S5, B5, c5, hJ5, hS5, rfl, hn5, hR5⟩
            have st5 : Step nowhere w2 w5 := ⟨hn5⟩
            have hG5a : (upd s id (want a (p + 1) 5)).G id = want a (p + 1) 5 := by rw [upd_G, if_pos rfl]
            have hG5b : (upd s id (want a (p + 1) 5)).G other = s.G other := by rw [upd_G, if_neg (fun hh => hne hh.symm)]
            have HG5a := Lib.hid hG5a
            have HG5b := Lib.hid hG5b
            clear hG5a hG5b
            by_cases hpe : p + 1 = Lx
            · rw [if_pos hpe] at hR5 ⊢
              have bpe : ((p : Int) + 1 == (Lx : Int)) = true := beqT (by omega)
              have hR9 : HR w5 B5 (bs a) := ⟨hR5⟩
              have hRm : HR w5 Aa (bs a) := ⟨hra.out.later (stepN (w0 := w) (w := w5)).chg⟩
              have e8 : ((strL a).toList == (strL a).toList) = true := by simp
              go_wp2_with (first | go_skip | ((with_reducible apply (wpl_guard (op := .convert _ _ _))); (exact rfl)) | ((with_reducible apply wpl_conv); (exact rfl); (exact hR9); (exact han); (exact Try.underlying22); (exact Try.underlying5); (exact Try.underlying9)) | ((with_reducible apply wpl_conv); (exact rfl); (exact hRm); (exact han); (exact Try.underlying22); (exact Try.underlying5); (exact Try.underlying9)) | ((with_reducible apply (wpl_guard (op := .load _ _))); (exact rfl)) | ((with_reducible apply (wpl_guard (op := .indexAddr _ _ _))); (exact rfl)) | ((with_reducible apply (wpl_guard (op := .convert _ _ _))); (exact rfl)) | ((with_reducible apply wpl_loadrow); (exact rfl); (exact inferInstance); (exact inferInstance); (first | (with_reducible assumption) | (with_reducible exact H32.size _) | (with_reducible exact enc_sz _ rfl) | kernel_rfl)) | ((with_reducible apply wpl_loadcellN); (exact rfl); (exact inferInstance); (first | (exact rfl) | (exact tg_hw _) | (exact tg_ctr _) | (exact tg_ecu _) | (exact srch_who) | (exact srch_fd))))
              refine ⟨⟨p + 1, q, i + 1, S5, _, by omega, by omega, by omega, by simp, by simp, by simp, hJ5, hS5, st5, Lib.hid (HG5a.out), Lib.hid ((HG5b.out.trans hGb.out)), Lib.hid (by rw [upd_N]; exact HN.out), Lib.hid (by
                have h1 := HUM.out
                have h2 := HMM.out
                rw [HG5a.out, HG5b.out] 
                omega)⟩, by simp [intOf]; omega⟩
            · rw [if_neg hpe] at hR5 ⊢
              have bpe : ((p : Int) + 1 == (Lx : Int)) = false := beqF (by omega)
              go_wp2_with fail
              refine ⟨⟨p + 1, q, i + 1, S5, _, by omega, by omega, by omega, by simp, by simp, by simp, hJ5, hS5, st5, Lib.hid (HG5a.out), Lib.hid ((HG5b.out.trans hGb.out)), Lib.hid (by rw [upd_N]; exact HN.out), Lib.hid (by
                have h1 := HUM.out
                have h2 := HMM.out
                rw [HG5a.out, HG5b.out] 
                omega)⟩, by simp [intOf]; omega⟩
        | false =>
          have HTB := Lib.hid (show (tb.map Value.bool)[i]? = some (Value.bool false) by rw [List.getElem?_map, hx]; rfl)
          clear hx
          by_cases hq : q < Ly
          · have hqI : (q : Int) < Ly := by omega
            by_cases hp : p < Lx
            · have hpI : (p : Int) < Lx := by omega
              have hil : q < l'.length := by rw [hly]; omega
              have hd := gt_d l' q _ HD'.out hil
              have hb8 := gt_len HD'.out hil
              have his : q < (splitS b).length := by rw [← map_len HD'.out]; exact hil
              have hsL : (splitS b).length = Ly := by rw [← map_len HD'.out, hly]
              have F0 := feed (s := s) (id := other) (now := 5) (last := 5) (l := b) (p := q) hb1 hb2 his hGb.out rfl
              rw [hsL] at F0
              have T0 := takeB w2 hJ hS (stepN (w0 := w2) (w := wr)).chg (by have := HN.out; omega) (by have := HMM.out; split at this <;> split at this <;> omega) hF'.out (k := q) hil HI'.out hot0 hot1 5 (by omega) (by decide) (by decide) hd F0
              have hum := upd_m s other (want b (q + 1) 5) (fun hh => by have h2 := HMM.out; rw [if_pos hh] at h2; omega)
              have HUM := Lib.hid hum
              have HT0 := Lib.hid T0
              have HIS := Lib.hid his
              clear T0 F0 hd hsL hum his
              go_wp2_with (first | go_skip | ((with_reducible apply (wpl_guard (op := .indexAddr _ _ _))); (exact rfl)) | ((with_reducible apply (wpl_guard (op := .load _ _))); (exact rfl)) | ((with_reducible apply wpl_index1); (exact rfl); (exact rfl); (exact inferInstance); (exact hRT); (exact hvl); (exact hti)) | ((with_reducible apply (wpl_load1 (t := 4))); (exact rfl); (exact hRT); (exact HTB.out)) | ((with_reducible apply (wpl_guard (op := .load _ _))); (exact rfl)) | ((with_reducible apply (wpl_guard (op := .indexAddr _ _ _))); (exact rfl)) | ((with_reducible apply (wpl_guard (op := .convert _ _ _))); (exact rfl)) | ((with_reducible apply wpl_loadrow); (exact rfl); (exact inferInstance); (exact inferInstance); (first | (with_reducible assumption) | (with_reducible exact H32.size _) | (with_reducible exact enc_sz _ rfl) | kernel_rfl)) | ((with_reducible apply wpl_loadcellN); (exact rfl); (exact inferInstance); (first | (exact rfl) | (exact tg_hw _) | (exact tg_ctr _) | (exact tg_ecu _) | (exact srch_who) | (exact srch_fd))) | ((with_reducible apply wpl_indexH); (exact rfl); (exact rfl); (exact inferInstance); (exact inferInstance); (first | (with_reducible assumption) | omega); (first | (with_reducible assumption) | omega); (first | (with_reducible assumption) | omega)) | ((with_reducible apply wpl_indexH'); (exact rfl); (exact rfl); (exact inferInstance); (exact inferInstance); (first | (with_reducible assumption) | omega); (first | (with_reducible assumption) | omega); (first | (with_reducible assumption) | omega)) | ((with_reducible apply (wpl_loadhash (t := 70))); (exact rfl); (exact inferInstance); (exact inferInstance); (first | (with_reducible assumption) | omega)) | ((with_reducible apply (wpl_indexE (α := FR) (t := 23))); (exact rfl); (exact rfl); (exact inferInstance); (exact inferInstance); (first | (with_reducible assumption) | omega | (focus (simp; done)) | (focus (simp; omega; done)) | decide); (exact rfl); (decide); (first | (with_reducible assumption) | omega | (focus (simp; done)) | (focus (simp; omega; done)) | decide)) | ((with_reducible apply (wpl_indexE0 (α := FR) (t := 23))); (exact rfl); (exact inferInstance); (exact inferInstance); (first | (with_reducible assumption) | omega | (focus (simp; done)) | (focus (simp; omega; done)) | decide); (exact rfl); (decide); (first | (with_reducible assumption) | omega | (focus (simp; done)) | (focus (simp; omega; done)) | decide)) | ((with_reducible apply (wpl_loadE (α := FR) (t := 40))); (exact inferInstance); (exact rfl); (exact inferInstance); (exact rfl); (decide); (first | (with_reducible assumption) | omega | (focus (simp; done)) | (focus (simp; omega; done)) | decide)) | ((with_reducible apply (wpl_loadF (α := FR))); (exact inferInstance); (exact rfl); (exact inferInstance); (exact rfl); (first | (with_reducible assumption) | omega | (focus (simp; done)) | (focus (simp; omega; done)) | decide); (first | (exact rfl) | (exact tg_hw _) | (exact tg_ctr _) | (exact tg_ecu _) | (exact srch_who) | (exact srch_fd))) | ((with_reducible apply (wpl_loadint (t := 3))); (exact rfl); (exact inferInstance); (exact inferInstance); (first | (with_reducible assumption) | omega)) | ((with_reducible apply (wpl_loadbyte (t := 5))); (exact rfl); (exact inferInstance); (exact inferInstance); (first | (with_reducible assumption) | omega)))
              refine HT0.out.mono ?_
              rintro e w5 ⟨S5, B5, c5, hJ5, hS5, rfl, hn5, hR5⟩
              have st5 : Step nowhere w2 w5 := ⟨hn5⟩
              have hG5a : (upd s other (want b (q + 1) 5)).G other = want b (q + 1) 5 := by rw [upd_G, if_pos rfl]
              have hG5b : (upd s other (want b (q + 1) 5)).G id = s.G id := by rw [upd_G, if_neg hne]
              have HG5a := Lib.hid hG5a
              have HG5b := Lib.hid hG5b
              clear hG5a hG5b
              by_cases hpe : q + 1 = Ly
              · rw [if_pos hpe] at hR5 ⊢
                have bpe : ((q : Int) + 1 == (Ly : Int)) = true := beqT (by omega)
                have hR9 : HR w5 B5 (bs b) := ⟨hR5⟩
                have hRm : HR w5 Ab (bs b) := ⟨hrb.out.later (stepN (w0 := w) (w := w5)).chg⟩
                have e8 : ((strL b).toList == (strL b).toList) = true := by simp
                go_wp2_with (first | go_skip | ((with_reducible apply (wpl_guard (op := .convert _ _ _))); (exact rfl)) | ((with_reducible apply wpl_conv); (exact rfl); (exact hR9); (exact hbn); (exact Try.underlying22); (exact Try.underlying5); (exact Try.underlying9)) | ((with_reducible apply wpl_conv); (exact rfl); (exact hRm); (exact hbn); (exact Try.underlying22); (exact Try.underlying5); (exact Try.underlying9)) | ((with_reducible apply (wpl_guard (op := .load _ _))); (exact rfl)) | ((with_reducible apply (wpl_guard (op := .indexAddr _ _ _))); (exact rfl)) | ((with_reducible apply (wpl_guard (op := .convert _ _ _))); (exact rfl)) | ((with_reducible apply wpl_loadrow); (exact rfl); (exact inferInstance); (exact inferInstance); (first | (with_reducible assumption) | (with_reducible exact H32.size _) | (with_reducible exact enc_sz _ rfl) | kernel_rfl)) | ((with_reducible apply wpl_loadcellN); (exact rfl); (exact inferInstance); (first | (exact rfl) | (exact tg_hw _) | (exact tg_ctr _) | (exact tg_ecu _) | (exact srch_who) | (exact srch_fd))))
                refine ⟨⟨p, q + 1, i + 1, S5, _, by omega, by omega, by omega, by simp, by simp, by simp, hJ5, hS5, st5, Lib.hid ((HG5b.out.trans hGa.out)), Lib.hid (HG5a.out), Lib.hid (by rw [upd_N]; exact HN.out), Lib.hid (by
                  have h1 := HUM.out
                  have h2 := HMM.out
                  rw [HG5b.out, HG5a.out] 
                  omega)⟩, by simp [intOf]; omega⟩
              · rw [if_neg hpe] at hR5 ⊢
                have bpe : ((q : Int) + 1 == (Ly : Int)) = false := beqF (by omega)
                go_wp2_with fail
                refine ⟨⟨p, q + 1, i + 1, S5, _, by omega, by omega, by omega, by simp, by simp, by simp, hJ5, hS5, st5, Lib.hid ((HG5b.out.trans hGa.out)), Lib.hid (HG5a.out), Lib.hid (by rw [upd_N]; exact HN.out), Lib.hid (by
                  have h1 := HUM.out
                  have h2 := HMM.out
                  rw [HG5b.out, HG5a.out] 
                  omega)⟩, by simp [intOf]; omega⟩
            · have hpI : ¬ (p : Int) < Lx := by omega
              have hil : q < l'.length := by rw [hly]; omega
              have hd := gt_d l' q _ HD'.out hil
              have hb8 := gt_len HD'.out hil
              have his : q < (splitS b).length := by rw [← map_len HD'.out]; exact hil
              have hsL : (splitS b).length = Ly := by rw [← map_len HD'.out, hly]
              have F0 := feed (s := s) (id := other) (now := 5) (last := 5) (l := b) (p := q) hb1 hb2 his hGb.out rfl
              rw [hsL] at F0
              have T0 := takeB w2 hJ hS (stepN (w0 := w2) (w := wr)).chg (by have := HN.out; omega) (by have := HMM.out; split at this <;> split at this <;> omega) hF'.out (k := q) hil HI'.out hot0 hot1 5 (by omega) (by decide) (by decide) hd F0
              have hum := upd_m s other (want b (q + 1) 5) (fun hh => by have h2 := HMM.out; rw [if_pos hh] at h2; omega)
              have HUM := Lib.hid hum
              have HT0 := Lib.hid T0
              have HIS := Lib.hid his
              clear T0 F0 hd hsL hum his
              go_wp2_with (first | go_skip | ((with_reducible apply (wpl_guard (op := .indexAddr _ _ _))); (exact rfl)) | ((with_reducible apply (wpl_guard (op := .load _ _))); (exact rfl)) | ((with_reducible apply wpl_index1); (exact rfl); (exact rfl); (exact inferInstance); (exact hRT); (exact hvl); (exact hti)) | ((with_reducible apply (wpl_load1 (t := 4))); (exact rfl); (exact hRT); (exact HTB.out)) | ((with_reducible apply (wpl_guard (op := .load _ _))); (exact rfl)) | ((with_reducible apply (wpl_guard (op := .indexAddr _ _ _))); (exact rfl)) | ((with_reducible apply (wpl_guard (op := .convert _ _ _))); (exact rfl)) | ((with_reducible apply wpl_loadrow); (exact rfl); (exact inferInstance); (exact inferInstance); (first | (with_reducible assumption) | (with_reducible exact H32.size _) | (with_reducible exact enc_sz _ rfl) | kernel_rfl)) | ((with_reducible apply wpl_loadcellN); (exact rfl); (exact inferInstance); (first | (exact rfl) | (exact tg_hw _) | (exact tg_ctr _) | (exact tg_ecu _) | (exact srch_who) | (exact srch_fd))) | ((with_reducible apply wpl_indexH); (exact rfl); (exact rfl); (exact inferInstance); (exact inferInstance); (first | (with_reducible assumption) | omega); (first | (with_reducible assumption) | omega); (first | (with_reducible assumption) | omega)) | ((with_reducible apply wpl_indexH'); (exact rfl); (exact rfl); (exact inferInstance); (exact inferInstance); (first | (with_reducible assumption) | omega); (first | (with_reducible assumption) | omega); (first | (with_reducible assumption) | omega)) | ((with_reducible apply (wpl_loadhash (t := 70))); (exact rfl); (exact inferInstance); (exact inferInstance); (first | (with_reducible assumption) | omega)) | ((with_reducible apply (wpl_indexE (α := FR) (t := 23))); (exact rfl); (exact rfl); (exact inferInstance); (exact inferInstance); (first | (with_reducible assumption) | omega | (focus (simp; done)) | (focus (simp; omega; done)) | decide); (exact rfl); (decide); (first | (with_reducible assumption) | omega | (focus (simp; done)) | (focus (simp; omega; done)) | decide)) | ((with_reducible apply (wpl_indexE0 (α := FR) (t := 23))); (exact rfl); (exact inferInstance); (exact inferInstance); (first | (with_reducible assumption) | omega | (focus (simp; done)) | (focus (simp; omega; done)) | decide); (exact rfl); (decide); (first | (with_reducible assumption) | omega | (focus (simp; done)) | (focus (simp; omega; done)) | decide)) | ((with_reducible apply (wpl_loadE (α := FR) (t := 40))); (exact inferInstance); (exact rfl); (exact inferInstance); (exact rfl); (decide); (first | (with_reducible assumption) | omega | (focus (simp; done)) | (focus (simp; omega; done)) | decide)) | ((with_reducible apply (wpl_loadF (α := FR))); (exact inferInstance); (exact rfl); (exact inferInstance); (exact rfl); (first | (with_reducible assumption) | omega | (focus (simp; done)) | (focus (simp; omega; done)) | decide); (first | (exact rfl) | (exact tg_hw _) | (exact tg_ctr _) | (exact tg_ecu _) | (exact srch_who) | (exact srch_fd))) | ((with_reducible apply (wpl_loadint (t := 3))); (exact rfl); (exact inferInstance); (exact inferInstance); (first | (with_reducible assumption) | omega)) | ((with_reducible apply (wpl_loadbyte (t := 5))); (exact rfl); (exact inferInstance); (exact inferInstance); (first | (with_reducible assumption) | omega)))
              refine HT0.out.mono ?_
              rintro e w5 ⟨S5, B5, c5, hJ5, hS5, rfl, hn5, hR5⟩
              have st5 : Step nowhere w2 w5 := ⟨hn5⟩
              have hG5a : (upd s other (want b (q + 1) 5)).G other = want b (q + 1) 5 := by rw [upd_G, if_pos rfl]
              have hG5b : (upd s other (want b (q + 1) 5)).G id = s.G id := by rw [upd_G, if_neg hne]
              have HG5a := Lib.hid hG5a
              have HG5b := Lib.hid hG5b
              clear hG5a hG5b
              by_cases hpe : q + 1 = Ly
              · rw [if_pos hpe] at hR5 ⊢
                have bpe : ((q : Int) + 1 == (Ly : Int)) = true := beqT (by omega)
                have hR9 : HR w5 B5 (bs b) := ⟨hR5⟩
                have hRm : HR w5 Ab (bs b) := ⟨hrb.out.later (stepN (w0 := w) (w := w5)).chg⟩
                have e8 : ((strL b).toList == (strL b).toList) = true := by simp
                go_wp2_with (first | go_skip | ((with_reducible apply (wpl_guard (op := .convert _ _ _))); (exact rfl)) | ((with_reducible apply wpl_conv); (exact rfl); (exact hR9); (exact hbn); (exact Try.underlying22); (exact Try.underlying5); (exact Try.underlying9)) | ((with_reducible apply wpl_conv); (exact rfl); (exact hRm); (exact hbn); (exact Try.underlying22); (exact Try.underlying5); (exact Try.underlying9)) | ((with_reducible apply (wpl_guard (op := .load _ _))); (exact rfl)) | ((with_reducible apply (wpl_guard (op := .indexAddr _ _ _))); (exact rfl)) | ((with_reducible apply (wpl_guard (op := .convert _ _ _))); (exact rfl)) | ((with_reducible apply wpl_loadrow); (exact rfl); (exact inferInstance); (exact inferInstance); (first | (with_reducible assumption) | (with_reducible exact H32.size _) | (with_reducible exact enc_sz _ rfl) | kernel_rfl)) | ((with_reducible apply wpl_loadcellN); (exact rfl); (exact inferInstance); (first | (exact rfl) | (exact tg_hw _) | (exact tg_ctr _) | (exact tg_ecu _) | (exact srch_who) | (exact srch_fd))))
                refine ⟨⟨p, q + 1, i + 1, S5, _, by omega, by omega, by omega, by simp, by simp, by simp, hJ5, hS5, st5, Lib.hid ((HG5b.out.trans hGa.out)), Lib.hid (HG5a.out), Lib.hid (by rw [upd_N]; exact HN.out), Lib.hid (by
                  have h1 := HUM.out
                  have h2 := HMM.out
                  rw [HG5b.out, HG5a.out] 
                  omega)⟩, by simp [intOf]; omega⟩
              · rw [if_neg hpe] at hR5 ⊢
                have bpe : ((q : Int) + 1 == (Ly : Int)) = false := beqF (by omega)
                go_wp2_with fail
                refine ⟨⟨p, q + 1, i + 1, S5, _, by omega, by omega, by omega, by simp, by simp, by simp, hJ5, hS5, st5, Lib.hid ((HG5b.out.trans hGa.out)), Lib.hid (HG5a.out), Lib.hid (by rw [upd_N]; exact HN.out), Lib.hid (by
                  have h1 := HUM.out
                  have h2 := HMM.out
                  rw [HG5b.out, HG5a.out] 
                  omega)⟩, by simp [intOf]; omega⟩
          · have hqI : ¬ (q : Int) < Ly := by omega
            have hp : p < Lx := by omega
            have hpI : (p : Int) < Lx := by omega
            have hil : p < l.length := by rw [hlx]; omega
            have hd := gt_d l p _ HD.out hil
            have hb8 := gt_len HD.out hil
            have his : p < (splitS a).length := by rw [← map_len HD.out]; exact hil
            have hsL : (splitS a).length = Lx := by rw [← map_len HD.out, hlx]
            have F0 := feed (s := s) (id := id) (now := 5) (last := 5) (l := a) (p := p) ha1 ha2 his hGa.out rfl
            rw [hsL] at F0
            have T0 := takeB w2 hJ hS (stepN (w0 := w2) (w := wr)).chg (by have := HN.out; omega) (by have := HMM.out; split at this <;> split at this <;> omega) hF.out (k := p) hil HI.out hid0 hid1 5 (by omega) (by decide) (by decide) hd F0
            have hum := upd_m s id (want a (p + 1) 5) (fun hh => by have h2 := HMM.out; rw [if_pos hh] at h2; omega)
            have HUM := Lib.hid hum
            have HT0 := Lib.hid T0
            have HIS := Lib.hid his
            clear T0 F0 hd hsL hum his
            go_wp2_with (first | go_skip | ((with_reducible apply (wpl_guard (op := .indexAddr _ _ _))); (exact rfl)) | ((with_reducible apply (wpl_guard (op := .load _ _))); (exact rfl)) | ((with_reducible apply wpl_index1); (exact rfl); (exact rfl); (exact inferInstance); (exact hRT); (exact hvl); (exact hti)) | ((with_reducible apply (wpl_load1 (t := 4))); (exact rfl); (exact hRT); (exact HTB.out)) | ((with_reducible apply (wpl_guard (op := .load _ _))); (exact rfl)) | ((with_reducible apply (wpl_guard (op := .indexAddr _ _ _))); (exact rfl)) | ((with_reducible apply (wpl_guard (op := .convert _ _ _))); (exact rfl)) | ((with_reducible apply wpl_loadrow); (exact rfl); (exact inferInstance); (exact inferInstance); (first | (with_reducible assumption) | (with_reducible exact H32.size _) | (with_reducible exact enc_sz _ rfl) | kernel_rfl)) | ((with_reducible apply wpl_loadcellN); (exact rfl); (exact inferInstance); (first | (exact rfl) | (exact tg_hw _) | (exact tg_ctr _) | (exact tg_ecu _) | (exact srch_who) | (exact srch_fd))) | ((with_reducible apply wpl_indexH); (exact rfl); (exact rfl); (exact inferInstance); (exact inferInstance); (first | (with_reducible assumption) | omega); (first | (with_reducible assumption) | omega); (first | (with_reducible assumption) | omega)) | ((with_reducible apply wpl_indexH'); (exact rfl); (exact rfl); (exact inferInstance); (exact inferInstance); (first | (with_reducible assumption) | omega); (first | (with_reducible assumption) | omega); (first | (with_reducible assumption) | omega)) | ((with_reducible apply (wpl_loadhash (t := 70))); (exact rfl); (exact inferInstance); (exact inferInstance); (first | (with_reducible assumption) | omega)) | ((with_reducible apply (wpl_indexE (α := FR) (t := 23))); (exact rfl); (exact rfl); (exact inferInstance); (exact inferInstance); (first | (with_reducible assumption) | omega | (focus (simp; done)) | (focus (simp; omega; done)) | decide); (exact rfl); (decide); (first | (with_reducible assumption) | omega | (focus (simp; done)) | (focus (simp; omega; done)) | decide)) | ((with_reducible apply (wpl_indexE0 (α := FR) (t := 23))); (exact rfl); (exact inferInstance); (exact inferInstance); (first | (with_reducible assumption) | omega | (focus (simp; done)) | (focus (simp; omega; done)) | decide); (exact rfl); (decide); (first | (with_reducible assumption) | omega | (focus (simp; done)) | (focus (simp; omega; done)) | decide)) | ((with_reducible apply (wpl_loadE (α := FR) (t := 40))); (exact inferInstance); (exact rfl); (exact inferInstance); (exact rfl); (decide); (first | (with_reducible assumption) | omega | (focus (simp; done)) | (focus (simp; omega; done)) | decide)) | ((with_reducible apply (wpl_loadF (α := FR))); (exact inferInstance); (exact rfl); (exact inferInstance); (exact rfl); (first | (with_reducible assumption) | omega | (focus (simp; done)) | (focus (simp; omega; done)) | decide); (first | (exact rfl) | (exact tg_hw _) | (exact tg_ctr _) | (exact tg_ecu _) | (exact srch_who) | (exact srch_fd))) | ((with_reducible apply (wpl_loadint (t := 3))); (exact rfl); (exact inferInstance); (exact inferInstance); (first | (with_reducible assumption) | omega)) | ((with_reducible apply (wpl_loadbyte (t := 5))); (exact rfl); (exact inferInstance); (exact inferInstance); (first | (with_reducible assumption) | omega)))
            refine HT0.out.mono ?_
            rintro e w5 ⟨S5, B5, c5, hJ5, hS5, rfl, hn5, hR5⟩
            have st5 : Step nowhere w2 w5 := ⟨hn5⟩
            have hG5a : (upd s id (want a (p + 1) 5)).G id = want a (p + 1) 5 := by rw [upd_G, if_pos rfl]
            have hG5b : (upd s id (want a (p + 1) 5)).G other = s.G other := by rw [upd_G, if_neg (fun hh => hne hh.symm)]
            have HG5a := Lib.hid hG5a
            have HG5b := Lib.hid hG5b
            clear hG5a hG5b
            by_cases hpe : p + 1 = Lx
            · rw [if_pos hpe] at hR5 ⊢
              have bpe : ((p : Int) + 1 == (Lx : Int)) = true := beqT (by omega)
              have hR9 : HR w5 B5 (bs a) := ⟨hR5⟩
              have hRm : HR w5 Aa (bs a) := ⟨hra.out.later (stepN (w0 := w) (w := w5)).chg⟩
              have e8 : ((strL a).toList == (strL a).toList) = true := by simp
              go_wp2_with (first | go_skip | ((with_reducible apply (wpl_guard (op := .convert _ _ _))); (exact rfl)) | ((with_reducible apply wpl_conv); (exact rfl); (exact hR9); (exact han); (exact Try.underlying22); (exact Try.underlying5); (exact Try.underlying9)) | ((with_reducible apply wpl_conv); (exact rfl); (exact hRm); (exact han); (exact Try.underlying22); (exact Try.underlying5); (exact Try.underlying9)) | ((with_reducible apply (wpl_guard (op := .load _ _))); (exact rfl)) | ((with_reducible apply (wpl_guard (op := .indexAddr _ _ _))); (exact rfl)) | ((with_reducible apply (wpl_guard (op := .convert _ _ _))); (exact rfl)) | ((with_reducible apply wpl_loadrow); (exact rfl); (exact inferInstance); (exact inferInstance); (first | (with_reducible assumption) | (with_reducible exact H32.size _) | (with_reducible exact enc_sz _ rfl) | kernel_rfl)) | ((with_reducible apply wpl_loadcellN); (exact rfl); (exact inferInstance); (first | (exact rfl) | (exact tg_hw _) | (exact tg_ctr _) | (exact tg_ecu _) | (exact srch_who) | (exact srch_fd))))
              refine ⟨⟨p + 1, q, i + 1, S5, _, by omega, by omega, by omega, by simp, by simp, by simp, hJ5, hS5, st5, Lib.hid (HG5a.out), Lib.hid ((HG5b.out.trans hGb.out)), Lib.hid (by rw [upd_N]; exact HN.out), Lib.hid (by
                have h1 := HUM.out
                have h2 := HMM.out
                rw [HG5a.out, HG5b.out] 
                omega)⟩, by simp [intOf]; omega⟩
            · rw [if_neg hpe] at hR5 ⊢
              have bpe : ((p : Int) + 1 == (Lx : Int)) = false := beqF (by omega)
              go_wp2_with fail
              refine ⟨⟨p + 1, q, i + 1, S5, _, by omega, by omega, by omega, by simp, by simp, by simp, hJ5, hS5, st5, Lib.hid (HG5a.out), Lib.hid ((HG5b.out.trans hGb.out)), Lib.hid (by rw [upd_N]; exact HN.out), Lib.hid (by
                have h1 := HUM.out
                have h2 := HMM.out
                rw [HG5a.out, HG5b.out] 
                omega)⟩, by simp [intOf]; omega⟩
      · have htI : ¬ (i : Int) < nt := by omega
        by_cases hq : q < Ly
        · have hqI : (q : Int) < Ly := by omega
          by_cases hp : p < Lx
          · have hpI : (p : Int) < Lx := by omega
            have hil : q < l'.length := by rw [hly]; omega
            have hd := gt_d l' q _ HD'.out hil
            have hb8 := gt_len HD'.out hil
            have his : q < (splitS b).length := by rw [← map_len HD'.out]; exact hil
            have hsL : (splitS b).length = Ly := by rw [← map_len HD'.out, hly]
            have F0 := feed (s := s) (id := other) (now := 5) (last := 5) (l := b) (p := q) hb1 hb2 his hGb.out rfl
            rw [hsL] at F0
            have T0 := takeB w2 hJ hS (stepN (w0 := w2) (w := wr)).chg (by have := HN.out; omega) (by have := HMM.out; split at this <;> split at this <;> omega) hF'.out (k := q) hil HI'.out hot0 hot1 5 (by omega) (by decide) (by decide) hd F0
            have hum := upd_m s other (want b (q + 1) 5) (fun hh => by have h2 := HMM.out; rw [if_pos hh] at h2; omega)
            have HUM := Lib.hid hum
            have HT0 := Lib.hid T0
            have HIS := Lib.hid his
            clear T0 F0 hd hsL hum his
            go_wp2_with (first | go_skip | ((with_reducible apply (wpl_guard (op := .load _ _))); (exact rfl)) | ((with_reducible apply (wpl_guard (op := .indexAddr _ _ _))); (exact rfl)) | ((with_reducible apply (wpl_guard (op := .convert _ _ _))); (exact rfl)) | ((with_reducible apply wpl_loadrow); (exact rfl); (exact inferInstance); (exact inferInstance); (first | (with_reducible assumption) | (with_reducible exact H32.size _) | (with_reducible exact enc_sz _ rfl) | kernel_rfl)) | ((with_reducible apply wpl_loadcellN); (exact rfl); (exact inferInstance); (first | (exact rfl) | (exact tg_hw _) | (exact tg_ctr _) | (exact tg_ecu _) | (exact srch_who) | (exact srch_fd))) | ((with_reducible apply wpl_indexH); (exact rfl); (exact rfl); (exact inferInstance); (exact inferInstance); (first | (with_reducible assumption) | omega); (first | (with_reducible assumption) | omega); (first | (with_reducible assumption) | omega)) | ((with_reducible apply wpl_indexH'); (exact rfl); (exact rfl); (exact inferInstance); (exact inferInstance); (first | (with_reducible assumption) | omega); (first | (with_reducible assumption) | omega); (first | (with_reducible assumption) | omega)) | ((with_reducible apply (wpl_loadhash (t := 70))); (exact rfl); (exact inferInstance); (exact inferInstance); (first | (with_reducible assumption) | omega)) | ((with_reducible apply (wpl_indexE (α := FR) (t := 23))); (exact rfl); (exact rfl); (exact inferInstance); (exact inferInstance); (first | (with_reducible assumption) | omega | (focus (simp; done)) | (focus (simp; omega; done)) | decide); (exact rfl); (decide); (first | (with_reducible assumption) | omega | (focus (simp; done)) | (focus (simp; omega; done)) | decide)) | ((with_reducible apply (wpl_indexE0 (α := FR) (t := 23))); (exact rfl); (exact inferInstance); (exact inferInstance); (first | (with_reducible assumption) | omega | (focus (simp; done)) | (focus (simp; omega; done)) | decide); (exact rfl); (decide); (first | (with_reducible assumption) | omega | (focus (simp; done)) | (focus (simp; omega; done)) | decide)) | ((with_reducible apply (wpl_loadE (α := FR) (t := 40))); (exact inferInstance); (exact rfl); (exact inferInstance); (exact rfl); (decide); (first | (with_reducible assumption) | omega | (focus (simp; done)) | (focus (simp; omega; done)) | decide)) | ((with_reducible apply (wpl_loadF (α := FR))); (exact inferInstance); (exact rfl); (exact inferInstance); (exact rfl); (first | (with_reducible assumption) | omega | (focus (simp; done)) | (focus (simp; omega; done)) | decide); (first | (exact rfl) | (exact tg_hw _) | (exact tg_ctr _) | (exact tg_ecu _) | (exact srch_who) | (exact srch_fd))) | ((with_reducible apply (wpl_loadint (t := 3))); (exact rfl); (exact inferInstance); (exact inferInstance); (first | (with_reducible assumption) | omega)) | ((with_reducible apply (wpl_loadbyte (t := 5))); (exact rfl); (exact inferInstance); (exact inferInstance); (first | (with_reducible assumption) | omega)))
            refine HT0.out.mono ?_
            rintro e w5 ⟨S5, B5, c5, hJ5, hS5, rfl, hn5, hR5⟩
            have st5 : Step nowhere w2 w5 := ⟨hn5⟩
            have hG5a : (upd s other (want b (q + 1) 5)).G other = want b (q + 1) 5 := by rw [upd_G, if_pos rfl]
            have hG5b : (upd s other (want b (q + 1) 5)).G id = s.G id := by rw [upd_G, if_neg hne]
            have HG5a := Lib.hid hG5a
            have HG5b := Lib.hid hG5b
            clear hG5a hG5b
            by_cases hpe : q + 1 = Ly
            · rw [if_pos hpe] at hR5 ⊢
              have bpe : ((q : Int) + 1 == (Ly : Int)) = true := beqT (by omega)
              have hR9 : HR w5 B5 (bs b) := ⟨hR5⟩
              have hRm : HR w5 Ab (bs b) := ⟨hrb.out.later (stepN (w0 := w) (w := w5)).chg⟩
              have e8 : ((strL b).toList == (strL b).toList) = true := by simp
              go_wp2_with (first | go_skip | ((with_reducible apply (wpl_guard (op := .convert _ _ _))); (exact rfl)) | ((with_reducible apply wpl_conv); (exact rfl); (exact hR9); (exact hbn); (exact Try.underlying22); (exact Try.underlying5); (exact Try.underlying9)) | ((with_reducible apply wpl_conv); (exact rfl); (exact hRm); (exact hbn); (exact Try.underlying22); (exact Try.underlying5); (exact Try.underlying9)) | ((with_reducible apply (wpl_guard (op := .load _ _))); (exact rfl)) | ((with_reducible apply (wpl_guard (op := .indexAddr _ _ _))); (exact rfl)) | ((with_reducible apply (wpl_guard (op := .convert _ _ _))); (exact rfl)) | ((with_reducible apply wpl_loadrow); (exact rfl); (exact inferInstance); (exact inferInstance); (first | (with_reducible assumption) | (with_reducible exact H32.size _) | (with_reducible exact enc_sz _ rfl) | kernel_rfl)) | ((with_reducible apply wpl_loadcellN); (exact rfl); (exact inferInstance); (first | (exact rfl) | (exact tg_hw _) | (exact tg_ctr _) | (exact tg_ecu _) | (exact srch_who) | (exact srch_fd))))
              refine ⟨⟨p, q + 1, i + 1, S5, _, by omega, by omega, by omega, by simp, by simp, by simp, hJ5, hS5, st5, Lib.hid ((HG5b.out.trans hGa.out)), Lib.hid (HG5a.out), Lib.hid (by rw [upd_N]; exact HN.out), Lib.hid (by
                have h1 := HUM.out
                have h2 := HMM.out
                rw [HG5b.out, HG5a.out] 
                omega)⟩, by simp [intOf]; omega⟩
            · rw [if_neg hpe] at hR5 ⊢
              have bpe : ((q : Int) + 1 == (Ly : Int)) = false := beqF (by omega)
              go_wp2_with fail
              refine ⟨⟨p, q + 1, i + 1, S5, _, by omega, by omega, by omega, by simp, by simp, by simp, hJ5, hS5, st5, Lib.hid ((HG5b.out.trans hGa.out)), Lib.hid (HG5a.out), Lib.hid (by rw [upd_N]; exact HN.out), Lib.hid (by
                have h1 := HUM.out
                have h2 := HMM.out
                rw [HG5b.out, HG5a.out] 
                omega)⟩, by simp [intOf]; omega⟩
          · have hpI : ¬ (p : Int) < Lx := by omega
            have hil : q < l'.length := by rw [hly]; omega
            have hd := gt_d l' q _ HD'.out hil
            have hb8 := gt_len HD'.out hil
            have his : q < (splitS b).length := by rw [← map_len HD'.out]; exact hil
            have hsL : (splitS b).length = Ly := by rw [← map_len HD'.out, hly]
            have F0 := feed (s := s) (id := other) (now := 5) (last := 5) (l := b) (p := q) hb1 hb2 his hGb.out rfl
            rw [hsL] at F0
            have T0 := takeB w2 hJ hS (stepN (w0 := w2) (w := wr)).chg (by have := HN.out; omega) (by have := HMM.out; split at this <;> split at this <;> omega) hF'.out (k := q) hil HI'.out hot0 hot1 5 (by omega) (by decide) (by decide) hd F0
            have hum := upd_m s other (want b (q + 1) 5) (fun hh => by have h2 := HMM.out; rw [if_pos hh] at h2; omega)
            have HUM := Lib.hid hum
            have HT0 := Lib.hid T0
            have HIS := Lib.hid his
            clear T0 F0 hd hsL hum his
            go_wp2_with (first | go_skip | ((with_reducible apply (wpl_guard (op := .load _ _))); (exact rfl)) | ((with_reducible apply (wpl_guard (op := .indexAddr _ _ _))); (exact rfl)) | ((with_reducible apply (wpl_guard (op := .convert _ _ _))); (exact rfl)) | ((with_reducible apply wpl_loadrow); (exact rfl); (exact inferInstance); (exact inferInstance); (first | (with_reducible assumption) | (with_reducible exact H32.size _) | (with_reducible exact enc_sz _ rfl) | kernel_rfl)) | ((with_reducible apply wpl_loadcellN); (exact rfl); (exact inferInstance); (first | (exact rfl) | (exact tg_hw _) | (exact tg_ctr _) | (exact tg_ecu _) | (exact srch_who) | (exact srch_fd))) | ((with_reducible apply wpl_indexH); (exact rfl); (exact rfl); (exact inferInstance); (exact inferInstance); (first | (with_reducible assumption) | omega); (first | (with_reducible assumption) | omega); (first | (with_reducible assumption) | omega)) | ((with_reducible apply wpl_indexH'); (exact rfl); (exact rfl); (exact inferInstance); (exact inferInstance); (first | (with_reducible assumption) | omega); (first | (with_reducible assumption) | omega); (first | (with_reducible assumption) | omega)) | ((with_reducible apply (wpl_loadhash (t := 70))); (exact rfl); (exact inferInstance); (exact inferInstance); (first | (with_reducible assumption) | omega)) | ((with_reducible apply (wpl_indexE (α := FR) (t := 23))); (exact rfl); (exact rfl); (exact inferInstance); (exact inferInstance); (first | (with_reducible assumption) | omega | (focus (simp; done)) | (focus (simp; omega; done)) | decide); (exact rfl); (decide); (first | (with_reducible assumption) | omega | (focus (simp; done)) | (focus (simp; omega; done)) | decide)) | ((with_reducible apply (wpl_indexE0 (α := FR) (t := 23))); (exact rfl); (exact inferInstance); (exact inferInstance); (first | (with_reducible assumption) | omega | (focus (simp; done)) | (focus (simp; omega; done)) | decide); (exact rfl); (decide); (first | (with_reducible assumption) | omega | (focus (simp; done)) | (focus (simp; omega; done)) | decide)) | ((with_reducible apply (wpl_loadE (α := FR) (t := 40))); (exact inferInstance); (exact rfl); (exact inferInstance); (exact rfl); (decide); (first | (with_reducible assumption) | omega | (focus (simp; done)) | (focus (simp; omega; done)) | decide)) | ((with_reducible apply (wpl_loadF (α := FR))); (exact inferInstance); (exact rfl); (exact inferInstance); (exact rfl); (first | (with_reducible assumption) | omega | (focus (simp; done)) | (focus (simp; omega; done)) | decide); (first | (exact rfl) | (exact tg_hw _) | (exact tg_ctr _) | (exact tg_ecu _) | (exact srch_who) | (exact srch_fd))) | ((with_reducible apply (wpl_loadint (t := 3))); (exact rfl); (exact inferInstance); (exact inferInstance); (first | (with_reducible assumption) | omega)) | ((with_reducible apply (wpl_loadbyte (t := 5))); (exact rfl); (exact inferInstance); (exact inferInstance); (first | (with_reducible assumption) | omega)))
            refine HT0.out.mono ?_
            rintro e w5 ⟨S5, B5, c5, hJ5, hS5, rfl, hn5, hR5⟩
            have st5 : Step nowhere w2 w5 := ⟨hn5⟩
            have hG5a : (upd s other (want b (q + 1) 5)).G other = want b (q + 1) 5 := by rw [upd_G, if_pos rfl]
            have hG5b : (upd s other (want b (q + 1) 5)).G id = s.G id := by rw [upd_G, if_neg hne]
            have HG5a := Lib.hid hG5a
            have HG5b := Lib.hid hG5b
            clear hG5a hG5b
            by_cases hpe : q + 1 = Ly
            · rw [if_pos hpe] at hR5 ⊢
              have bpe : ((q : Int) + 1 == (Ly : Int)) = true := beqT (by omega)
              have hR9 : HR w5 B5 (bs b) := ⟨hR5⟩
              have hRm : HR w5 Ab (bs b) := ⟨hrb.out.later (stepN (w0 := w) (w := w5)).chg⟩
              have e8 : ((strL b).toList == (strL b).toList) = true := by simp
              go_wp2_with (first | go_skip | ((with_reducible apply (wpl_guard (op := .convert _ _ _))); (exact rfl)) | ((with_reducible apply wpl_conv); (exact rfl); (exact hR9); (exact hbn); (exact Try.underlying22); (exact Try.underlying5); (exact Try.underlying9)) | ((with_reducible apply wpl_conv); (exact rfl); (exact hRm); (exact hbn); (exact Try.underlying22); (exact Try.underlying5); (exact Try.underlying9)) | ((with_reducible apply (wpl_guard (op := .load _ _))); (exact rfl)) | ((with_reducible apply (wpl_guard (op := .indexAddr _ _ _))); (exact rfl)) | ((with_reducible apply (wpl_guard (op := .convert _ _ _))); (exact rfl)) | ((with_reducible apply wpl_loadrow); (exact rfl); (exact inferInstance); (exact inferInstance); (first | (with_reducible assumption) | (with_reducible exact H32.size _) | (with_reducible exact enc_sz _ rfl) | kernel_rfl)) | ((with_reducible apply wpl_loadcellN); (exact rfl); (exact inferInstance); (first | (exact rfl) | (exact tg_hw _) | (exact tg_ctr _) | (exact tg_ecu _) | (exact srch_who) | (exact srch_fd))))
              refine ⟨⟨p, q + 1, i + 1, S5, _, by omega, by omega, by omega, by simp, by simp, by simp, hJ5, hS5, st5, Lib.hid ((HG5b.out.trans hGa.out)), Lib.hid (HG5a.out), Lib.hid (by rw [upd_N]; exact HN.out), Lib.hid (by
                have h1 := HUM.out
                have h2 := HMM.out
                rw [HG5b.out, HG5a.out] 
                omega)⟩, by simp [intOf]; omega⟩
            · rw [if_neg hpe] at hR5 ⊢
              have bpe : ((q : Int) + 1 == (Ly : Int)) = false := beqF (by omega)
              go_wp2_with fail
              refine ⟨⟨p, q + 1, i + 1, S5, _, by omega, by omega, by omega, by simp, by simp, by simp, hJ5, hS5, st5, Lib.hid ((HG5b.out.trans hGa.out)), Lib.hid (HG5a.out), Lib.hid (by rw [upd_N]; exact HN.out), Lib.hid (by
                have h1 := HUM.out
                have h2 := HMM.out
                rw [HG5b.out, HG5a.out] 
                omega)⟩, by simp [intOf]; omega⟩
        · have hqI : ¬ (q : Int) < Ly := by omega
          have hp : p < Lx := by omega
          have hpI : (p : Int) < Lx := by omega
          have hil : p < l.length := by rw [hlx]; omega
          have hd := gt_d l p _ HD.out hil
          have hb8 := gt_len HD.out hil
          have his : p < (splitS a).length := by rw [← map_len HD.out]; exact hil
          have hsL : (splitS a).length = Lx := by rw [← map_len HD.out, hlx]
          have F0 := feed (s := s) (id := id) (now := 5) (last := 5) (l := a) (p := p) ha1 ha2 his hGa.out rfl
          rw [hsL] at F0
          have T0 := takeB w2 hJ hS (stepN (w0 := w2) (w := wr)).chg (by have := HN.out; omega) (by have := HMM.out; split at this <;> split at this <;> omega) hF.out (k := p) hil HI.out hid0 hid1 5 (by omega) (by decide) (by decide) hd F0
          have hum := upd_m s id (want a (p + 1) 5) (fun hh => by have h2 := HMM.out; rw [if_pos hh] at h2; omega)
          have HUM := Lib.hid hum
          have HT0 := Lib.hid T0
          have HIS := Lib.hid his
          clear T0 F0 hd hsL hum his
          go_wp2_with (first | go_skip | ((with_reducible apply (wpl_guard (op := .load _ _))); (exact rfl)) | ((with_reducible apply (wpl_guard (op := .indexAddr _ _ _))); (exact rfl)) | ((with_reducible apply (wpl_guard (op := .convert _ _ _))); (exact rfl)) | ((with_reducible apply wpl_loadrow); (exact rfl); (exact inferInstance); (exact inferInstance); (first | (with_reducible assumption) | (with_reducible exact H32.size _) | (with_reducible exact enc_sz _ rfl) | kernel_rfl)) | ((with_reducible apply wpl_loadcellN); (exact rfl); (exact inferInstance); (first | (exact rfl) | (exact tg_hw _) | (exact tg_ctr _) | (exact tg_ecu _) | (exact srch_who) | (exact srch_fd))) | ((with_reducible apply wpl_indexH); (exact rfl); (exact rfl); (exact inferInstance); (exact inferInstance); (first | (with_reducible assumption) | omega); (first | (with_reducible assumption) | omega); (first | (with_reducible assumption) | omega)) | ((with_reducible apply wpl_indexH'); (exact rfl); (exact rfl); (exact inferInstance); (exact inferInstance); (first | (with_reducible assumption) | omega); (first | (with_reducible assumption) | omega); (first | (with_reducible assumption) | omega)) | ((with_reducible apply (wpl_loadhash (t := 70))); (exact rfl); (exact inferInstance); (exact inferInstance); (first | (with_reducible assumption) | omega)) | ((with_reducible apply (wpl_indexE (α := FR) (t := 23))); (exact rfl); (exact rfl); (exact inferInstance); (exact inferInstance); (first | (with_reducible assumption) | omega | (focus (simp; done)) | (focus (simp; omega; done)) | decide); (exact rfl); (decide); (first | (with_reducible assumption) | omega | (focus (simp; done)) | (focus (simp; omega; done)) | decide)) | ((with_reducible apply (wpl_indexE0 (α := FR) (t := 23))); (exact rfl); (exact inferInstance); (exact inferInstance); (first | (with_reducible assumption) | omega | (focus (simp; done)) | (focus (simp; omega; done)) | decide); (exact rfl); (decide); (first | (with_reducible assumption) | omega | (focus (simp; done)) | (focus (simp; omega; done)) | decide)) | ((with_reducible apply (wpl_loadE (α := FR) (t := 40))); (exact inferInstance); (exact rfl); (exact inferInstance); (exact rfl); (decide); (first | (with_reducible assumption) | omega | (focus (simp; done)) | (focus (simp; omega; done)) | decide)) | ((with_reducible apply (wpl_loadF (α := FR))); (exact inferInstance); (exact rfl); (exact inferInstance); (exact rfl); (first | (with_reducible assumption) | omega | (focus (simp; done)) | (focus (simp; omega; done)) | decide); (first | (exact rfl) | (exact tg_hw _) | (exact tg_ctr _) | (exact tg_ecu _) | (exact srch_who) | (exact srch_fd))) | ((with_reducible apply (wpl_loadint (t := 3))); (exact rfl); (exact inferInstance); (exact inferInstance); (first | (with_reducible assumption) | omega)) | ((with_reducible apply (wpl_loadbyte (t := 5))); (exact rfl); (exact inferInstance); (exact inferInstance); (first | (with_reducible assumption) | omega)))
          refine HT0.out.mono ?_
          rintro e w5 ⟨S5, B5, c5, hJ5, hS5, rfl, hn5, hR5⟩
          have st5 : Step nowhere w2 w5 := ⟨hn5⟩
          have hG5a : (upd s id (want a (p + 1) 5)).G id = want a (p + 1) 5 := by rw [upd_G, if_pos rfl]
          have hG5b : (upd s id (want a (p + 1) 5)).G other = s.G other := by rw [upd_G, if_neg (fun hh => hne hh.symm)]
          have HG5a := Lib.hid hG5a
          have HG5b := Lib.hid hG5b
          clear hG5a hG5b
          by_cases hpe : p + 1 = Lx
          · rw [if_pos hpe] at hR5 ⊢
            have bpe : ((p : Int) + 1 == (Lx : Int)) = true := beqT (by omega)
            have hR9 : HR w5 B5 (bs a) := ⟨hR5⟩
            have hRm : HR w5 Aa (bs a) := ⟨hra.out.later (stepN (w0 := w) (w := w5)).chg⟩
            have e8 : ((strL a).toList == (strL a).toList) = true := by simp
            go_wp2_with (first | go_skip | ((with_reducible apply (wpl_guard (op := .convert _ _ _))); (exact rfl)) | ((with_reducible apply wpl_conv); (exact rfl); (exact hR9); (exact han); (exact Try.underlying22); (exact Try.underlying5); (exact Try.underlying9)) | ((with_reducible apply wpl_conv); (exact rfl); (exact hRm); (exact han); (exact Try.underlying22); (exact Try.underlying5); (exact Try.underlying9)) | ((with_reducible apply (wpl_guard (op := .load _ _))); (exact rfl)) | ((with_reducible apply (wpl_guard (op := .indexAddr _ _ _))); (exact rfl)) | ((with_reducible apply (wpl_guard (op := .convert _ _ _))); (exact rfl)) | ((with_reducible apply wpl_loadrow); (exact rfl); (exact inferInstance); (exact inferInstance); (first | (with_reducible assumption) | (with_reducible exact H32.size _) | (with_reducible exact enc_sz _ rfl) | kernel_rfl)) | ((with_reducible apply wpl_loadcellN); (exact rfl); (exact inferInstance); (first | (exact rfl) | (exact tg_hw _) | (exact tg_ctr _) | (exact tg_ecu _) | (exact srch_who) | (exact srch_fd))))
            refine ⟨⟨p + 1, q, i + 1, S5, _, by omega, by omega, by omega, by simp, by simp, by simp, hJ5, hS5, st5, Lib.hid (HG5a.out), Lib.hid ((HG5b.out.trans hGb.out)), Lib.hid (by rw [upd_N]; exact HN.out), Lib.hid (by
              have h1 := HUM.out
              have h2 := HMM.out
              rw [HG5a.out, HG5b.out] 
              omega)⟩, by simp [intOf]; omega⟩
          · rw [if_neg hpe] at hR5 ⊢
            have bpe : ((p : Int) + 1 == (Lx : Int)) = false := beqF (by omega)
            go_wp2_with fail
            refine ⟨⟨p + 1, q, i + 1, S5, _, by omega, by omega, by omega, by simp, by simp, by simp, hJ5, hS5, st5, Lib.hid (HG5a.out), Lib.hid ((HG5b.out.trans hGb.out)), Lib.hid (by rw [upd_N]; exact HN.out), Lib.hid (by
              have h1 := HUM.out
              have h2 := HMM.out
              rw [HG5a.out, HG5b.out] 
              omega)⟩, by simp [intOf]; omega⟩
    · have hpI : ¬ (p : Int) < Lx := by omega
      have hqI : ¬ (q : Int) < Ly := by omega
      have hge : want a p 5 = none := want_end 5 (by rw [← map_len HD.out, hlx]; omega)
      have hge' : want b q 5 = none := want_end 5 (by rw [← map_len HD'.out, hly]; omega)
      have hm0 : ((s.m : Nat) : Int) = 0 := by
        rw [HMM.out, hGa.out, hGb.out, hge, hge']
        rfl
      have hN0 : ((s.N : Nat) : Int) = 0 := by rw [HN.out]; rfl
      go_wp2_with fail
      refine (errors_calls hJ).mono ?_
      rintro e w6 ⟨rfl, hs6⟩
      rw [hN0]
      go_wp2_with fail
      refine (open_calls (hJ.calm hs6.chg (fun _ _ hk => hk))).mono ?_
      rintro e w7 ⟨rfl, hs7⟩
      rw [hm0]
      go_wp2_with fail
      refine (sKnown_calls _).mono ?_
      rintro e w8 ⟨rfl, _⟩
      go_wp2_with fail
      go_ret
      exact ⟨rfl, (stepN (w0 := w)).chg⟩
set_option maxRecDepth 100000 in
theorem segBack_calls {Aa Ab At : Option Addr} {na ca nb cb nt ct : Nat} (a b : List UInt8) (tb : List Bool) (id other : Int) {w : World} [hra : HR w Aa (bs a)] [hrb : HR w Ab (bs b)] [hrt : HR w At (tb.map Value.bool)] (han : a.length = na) (hbn : b.length = nb) (htn : tb.length = nt) (hca : na ≤ ca) (hcb : nb ≤ cb) (hma : na ≤ 9223372036854775807) (hmb : nb ≤ 9223372036854775807) (hmt : nt ≤ 9223372036854775807) :
    Calls Try.prog 5 #[.slice Aa na ca, .slice Ab nb cb, .int .i64 id, .int .i64 other, .slice At nt ct] w fun e w' => e = .returned (.bool true) ∧ Chg nowhere w w' := by
  by_cases d1 : na < 1
  · have i1 : (na : Int) < 1 := by omega
    go_enter Try.func5, Try.ntmps5
    go_wp2_with fail
    go_ret
    exact ⟨rfl, Chg.refl _ _⟩
  have i1 : ¬ (na : Int) < 1 := by omega
  by_cases d2 : 600 < na
  · have i2 : (600 : Int) < na := by omega
    go_enter Try.func5, Try.ntmps5
    go_wp2_with fail
    go_ret
    exact ⟨rfl, Chg.refl _ _⟩
  have i2 : ¬ (600 : Int) < na := by omega
  by_cases d3 : nb < 1
  · have i3 : (nb : Int) < 1 := by omega
    go_enter Try.func5, Try.ntmps5
    go_wp2_with fail
    go_ret
    exact ⟨rfl, Chg.refl _ _⟩
  have i3 : ¬ (nb : Int) < 1 := by omega
  by_cases d4 : 600 < nb
  · have i4 : (600 : Int) < nb := by omega
    go_enter Try.func5, Try.ntmps5
    go_wp2_with fail
    go_ret
    exact ⟨rfl, Chg.refl _ _⟩
  have i4 : ¬ (600 : Int) < nb := by omega
  by_cases d5 : id < 0
  · go_enter Try.func5, Try.ntmps5
    go_wp2_with fail
    go_ret
    exact ⟨rfl, Chg.refl _ _⟩
  by_cases d6 : 2047 < id
  · go_enter Try.func5, Try.ntmps5
    go_wp2_with fail
    go_ret
    exact ⟨rfl, Chg.refl _ _⟩
  by_cases d7 : other < 0
  · go_enter Try.func5, Try.ntmps5
    go_wp2_with fail
    go_ret
    exact ⟨rfl, Chg.refl _ _⟩
  by_cases d8 : 2047 < other
  · go_enter Try.func5, Try.ntmps5
    go_wp2_with fail
    go_ret
    exact ⟨rfl, Chg.refl _ _⟩
  by_cases d9 : id = other
  · have b9 : (id == other) = true := beqT d9
    go_enter Try.func5, Try.ntmps5
    go_wp2_with fail
    go_ret
    exact ⟨rfl, Chg.refl _ _⟩
  exact segBack1_calls a b tb id other han hbn htn hca hcb hmt (by omega) (by omega) (by omega) (by omega) (by omega) (by omega) (by omega) (by omega) d9
end Go.Proofs.Ytojbbmgghhmgmaa
