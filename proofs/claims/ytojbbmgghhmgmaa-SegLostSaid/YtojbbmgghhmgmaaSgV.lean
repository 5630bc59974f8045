/- SegLost. -/
import Derived.Test.YtojbbmgghhmgmaaSgP
import Derived.Test.YtojbbmgghhmgmaaSgBn
open Go Go.RowKit
namespace Go.Proofs.Ytojbbmgghhmgmaa
theorem wpl_and2 {P : Program} {ops : Array Oper} {rest : List Oper} {a : Act} {w : World} {Q : Exit → Act → World → Prop} {dst : Option Tmp} {ty : TypeId} {pos : String} {after : Array Edge} {x y : Operand} {t t' : TypeId} {k : IntKind} {p q r : Int} (hx : a.eval x = .int k p) (hy : a.eval y = .int k q) (hr : ∀ w, (binOp .and t (.int k p) (.int k q)).run P w = .ok (.int k r) w)
    (h : wpList P ops Q rest (a.put dst (.int k r)) w) : wpList P ops Q (⟨dst, .binOp .and t x y t', ty, pos, after, none⟩ :: rest) a w :=
  wpl_of_run rfl (by
    show ((binOp .and t (a.eval x) (a.eval y)) >>= fun v => pure (Next.value v)).run P w = _
    rw [hx, hy, Sem.run_bind, hr]
    rfl) h
theorem wpl_rem2 {P : Program} {ops : Array Oper} {rest : List Oper} {a : Act} {w : World} {Q : Exit → Act → World → Prop} {dst : Option Tmp} {ty : TypeId} {pos : String} {after : Array Edge} {x y : Operand} {t t' : TypeId} {k : IntKind} {p q r : Int} (hx : a.eval x = .int k p) (hy : a.eval y = .int k q) (hr : ∀ w, (binOp .rem t (.int k p) (.int k q)).run P w = .ok (.int k r) w)
    (h : wpList P ops Q rest (a.put dst (.int k r)) w) : wpList P ops Q (⟨dst, .binOp .rem t x y t', ty, pos, after, none⟩ :: rest) a w :=
  wpl_of_run rfl (by
    show ((binOp .rem t (a.eval x) (a.eval y)) >>= fun v => pure (Next.value v)).run P w = _
    rw [hx, hy, Sem.run_bind, hr]
    rfl) h
theorem and65535 (x : Int) : ∃ g : Nat, (∀ w, (binOp .and 3 (.int .i64 x) (.int .i64 65535)).run Try.prog w = .ok (.int .i64 (g : Int)) w) ∧ g ≤ 65535 := by
  refine ⟨(BitVec.ofInt 64 x &&& BitVec.ofInt 64 (65535 : Int)).toNat, fun w => ?_, ?_⟩
  · have hle : (BitVec.ofInt 64 x &&& BitVec.ofInt 64 (65535 : Int)).toNat ≤ 65535 := by
      rw [BitVec.toNat_and]
      exact Nat.le_trans Nat.and_le_right (by decide)
    have e : bits .and .i64 x 65535 = (((BitVec.ofInt 64 x &&& BitVec.ofInt 64 (65535 : Int)).toNat : Nat) : Int) := by
      show IntKind.i64.wrap ((BitVec.ofInt 64 x &&& BitVec.ofInt 64 (65535 : Int)).toNat : Int) = _
      rw [IntKind.wrap_i64]
      omega
    rw [← e]
    rfl
  · rw [BitVec.toNat_and]
    exact Nat.le_trans Nat.and_le_right (by decide)
theorem rem_nat (g L k : Nat) (hg : g ≤ 65535) (hL : 0 < L) (hL2 : L ≤ 100000) (h : g % L = k) (w : World) : (binOp .rem 3 (.int .i64 (g : Int)) (.int .i64 (L : Int))).run Try.prog w = .ok (.int .i64 (k : Int)) w := by
  have h2 : k ≤ 65535 := by rw [← h]; exact Nat.le_trans (Nat.mod_le _ _) hg
  rw [show binOp .rem 3 (.int .i64 (g : Int)) (.int .i64 (L : Int)) = Op.intDiv .rem .i64 g L from rfl]
  unfold Op.intDiv
  simp
  rw [if_neg (by omega), Int.tmod_eq_emod_of_nonneg (by omega), ← h]
  rfl
set_option maxRecDepth 100000 in
set_option maxHeartbeats 6400000 in
theorem segLostFalse_calls (gone : Int) {Aa Ab : Option Addr} {na ca nb cb : Nat} (a b : List UInt8) {w : World} [hra : HR w Aa (bs a)] [hrb : HR w Ab (bs b)] (han : a.length = na) (hbn : b.length = nb) (hca : na ≤ ca) (hcb : nb ≤ cb) (ha1 : 9 ≤ na) (ha2 : na ≤ 600) (hb01 : 1 ≤ nb) (hb02 : nb ≤ 200) :
    Calls Try.prog 6 #[.slice Aa na ca, .slice Ab nb cb, .int .i64 gone, .bool false] w fun e w' => e = .returned (.bool true) ∧ Chg nowhere w w' := by
  have i1 : ¬ (na : Int) < 9 := by omega
  have i2 : ¬ (600 : Int) < na := by omega
  have i3 : ¬ (nb : Int) < 1 := by omega
  have i4 : ¬ (200 : Int) < nb := by omega
  have ha9 : 9 ≤ a.length := by omega
  have ha6 : a.length ≤ 600 := by omega
  have hb1 : 1 ≤ b.length := by omega
  have hb2 : b.length ≤ 600 := by omega
  go_enter Try.func6, Try.ntmps6
  go_wp2_with fail
  refine (split_calls (m := a) 3 (A := Aa) (n := na) (c := ca) han hca (by decide) (by decide) (by omega) (by omega)).mono ?_
  rintro e w1 ⟨FA, fc, l, rfl, _, _, hFa, hD, hI⟩
  have HD := Lib.hid hD
  have HI := Lib.hid hI
  clear hD hI
  go_wp2_with fail
  refine (split_calls (m := b) 3 (A := Ab) (n := nb) (c := cb) hbn hcb (by decide) (by decide) (by omega) (by omega)).mono ?_
  rintro e w2 ⟨FB, fd, l', rfl, _, _, hF', hD', hI'⟩
  have HD' := Lib.hid hD'
  have HI' := Lib.hid hI'
  clear hD' hI'
  have hF : HFs w2 l := inferInstance
  have hRA2 : HR w2 FA (cellsOf l) := inferInstance
  have nw2 : Nw w w2 := inferInstance
  obtain ⟨L, hlL⟩ : ∃ L, l.length = L := ⟨_, rfl⟩
  obtain ⟨M, hlM⟩ : ∃ M, l'.length = M := ⟨_, rfl⟩
  have hL2 : 2 ≤ L ∧ L ≤ 200 := by
    rw [← hlL, map_len HD.out, split_len, han, if_neg (by omega)]
    unfold cntN; omega
  have hM2 : 1 ≤ M ∧ M ≤ 200 := by
    rw [← hlM, map_len HD'.out, split_len, hbn]
    unfold cntN; split <;> omega
  obtain ⟨hL2a, hL2b⟩ := hL2
  obtain ⟨hM2a, hM2b⟩ := hM2
  rw [hlL, hlM]
  have bM : ((M : Int) == 0) = false := beqF (by omega)
  have iL : ¬ (L : Int) < 2 := by omega
  obtain ⟨g0, hg0, hgb⟩ := and65535 gone
  have HG0 := Lib.hid hg0
  clear hg0
  obtain ⟨k, hkk⟩ : ∃ k, g0 % L = k := ⟨_, rfl⟩
  have hkL : k < L := by rw [← hkk]; exact Nat.mod_lt _ (by omega)
  have HKK := Lib.hid (rem_nat g0 L k (by omega) (by omega) (by omega) hkk)
  clear hkk
  have hkS : k < (splitS a).length := by rw [← map_len HD.out, hlL]; exact hkL
  go_wp2_with fail
  refine (newJ_calls _).mono ?_
  rintro e w3 ⟨z, rfl, hs3, hJ3, hz⟩
  have hS3 : ∀ x, only z x → w2.heap.size ≤ x := fun x hx => by rw [show x = z from hx]; exact hz
  go_wp2_with (first | ((with_reducible apply wpl_and2); (exact rfl); (exact rfl); (exact HG0.out)) | ((with_reducible apply wpl_rem2); (exact rfl); (exact rfl); (exact HKK.out)))
  go_loopw [15, 16] (fun nv iv wr => ∃ (i : Nat) (now : Int) (S : Nat → Prop) (s : St), i ≤ L ∧ nv = .int .i64 now ∧ iv = .int .i64 (i : Int) ∧ JS wr z S s ∧ (∀ x, S x → w2.heap.size ≤ x) ∧ Step nowhere w2 wr ∧ Hid (LossInv a k false i s now) ∧ s.N ≤ 2 * i ∧ s.m ≤ i) (fun _ iv _ => L - (intOf iv).toNat)
  case atStart => exact ⟨0, 0, _, _, Nat.zero_le _, rfl, rfl, hJ3, hS3, stepN, Lib.hid (.inl ⟨.inl (Nat.zero_le _), by rw [want_zero]; rfl, rfl⟩), Nat.le_refl _, Nat.le_refl _⟩
  case round =>
    obtain ⟨i, now, S, s, hi, rfl, rfl, hJ, hS, _, HINV, hN, hm⟩ := hrel
    have hnow : now = 0 ∨ now = 11 := by
      rcases HINV.out with ⟨_, _, h⟩ | ⟨_, _, h⟩
      · exact .inl h
      · exact .inl h
    by_cases hlt : i < L
    · have hltI : (i : Int) < L := by omega
      have hil : i < l.length := by rw [hlL]; exact hlt
      have hd := gt_d l i _ HD.out hil
      have hb8 := gt_len HD.out hil
      have his : i < (splitS a).length := by rw [← map_len HD.out]; exact hil
      have HD9 := Lib.hid hd
      clear hd
      by_cases hik : i = k
      · subst hik
        have bik : ((i : Int) == (i : Int)) = true := beqT rfl
        go_wp2_with fail
        refine ⟨⟨i + 1, now, S, s, by omega, rfl, by simp, hJ, hS, inferInstance, Lib.hid (loss_skip HINV.out), by omega, by omega⟩, by simp [intOf]; omega⟩
      · have bik : ((i : Int) == (k : Int)) = false := beqF (by omega)
        have T0 := takeB w2 hJ hS (stepN (w0 := w2) (w := wr)).chg (by omega) (by omega) hF.out (k := i) hil HI.out (by decide) (by decide) (now) (by omega) (by omega) (by omega) HD9.out rfl
        have hst := loss_step ha9 ha6 his hkS HINV.out (now' := now) (by simp; omega) (by rw [if_neg (by simp)])
        have tN := take_N s 3 ((splitS a).getD i []) (now)
        have tm := take_m s 3 ((splitS a).getD i []) (now)
        generalize takeS s 3 ((splitS a).getD i []) (now) = r at T0 hst tN tm
        obtain ⟨s5, r2⟩ := r
        try dsimp only at tN tm
        have HT0 := Lib.hid T0
        have HST := Lib.hid hst.1
        obtain rfl : r2 = none := hst.2 (.inl rfl)
        clear T0 hst HINV
        go_wp2_with (first | go_skip | ((with_reducible apply (wpl_guard (op := .convert _ _ _))); (exact rfl)) | ((with_reducible apply wpl_loadrow); (exact rfl); (exact inferInstance); (exact inferInstance); (first | (with_reducible assumption) | (with_reducible exact H32.size _) | (with_reducible exact enc_sz _ rfl) | kernel_rfl)) | ((with_reducible apply wpl_loadcellN); (exact rfl); (exact inferInstance); (first | (exact rfl) | (exact tg_hw _) | (exact tg_ctr _) | (exact tg_ecu _) | (exact srch_who) | (exact srch_fd))) | ((with_reducible apply wpl_indexH); (exact rfl); (exact rfl); (exact inferInstance); (exact inferInstance); (first | (with_reducible assumption) | omega); (first | (with_reducible assumption) | omega); (first | (with_reducible assumption) | omega)) | ((with_reducible apply wpl_indexH'); (exact rfl); (exact rfl); (exact inferInstance); (exact inferInstance); (first | (with_reducible assumption) | omega); (first | (with_reducible assumption) | omega); (first | (with_reducible assumption) | omega)) | ((with_reducible apply (wpl_loadhash (t := 70))); (exact rfl); (exact inferInstance); (exact inferInstance); (first | (with_reducible assumption) | omega)) | ((with_reducible apply (wpl_indexE (α := FR) (t := 23))); (exact rfl); (exact rfl); (exact inferInstance); (exact inferInstance); (first | (with_reducible assumption) | omega | (focus (simp; done)) | (focus (simp; omega; done)) | decide); (exact rfl); (decide); (first | (with_reducible assumption) | omega | (focus (simp; done)) | (focus (simp; omega; done)) | decide)) | ((with_reducible apply (wpl_indexE0 (α := FR) (t := 23))); (exact rfl); (exact inferInstance); (exact inferInstance); (first | (with_reducible assumption) | omega | (focus (simp; done)) | (focus (simp; omega; done)) | decide); (exact rfl); (decide); (first | (with_reducible assumption) | omega | (focus (simp; done)) | (focus (simp; omega; done)) | decide)) | ((with_reducible apply (wpl_loadE (α := FR) (t := 40))); (exact inferInstance); (exact rfl); (exact inferInstance); (exact rfl); (decide); (first | (with_reducible assumption) | omega | (focus (simp; done)) | (focus (simp; omega; done)) | decide)) | ((with_reducible apply (wpl_loadF (α := FR))); (exact inferInstance); (exact rfl); (exact inferInstance); (exact rfl); (first | (with_reducible assumption) | omega | (focus (simp; done)) | (focus (simp; omega; done)) | decide); (first | (exact rfl) | (exact tg_hw _) | (exact tg_ctr _) | (exact tg_ecu _) | (exact srch_who) | (exact srch_fd))) | ((with_reducible apply (wpl_loadint (t := 3))); (exact rfl); (exact inferInstance); (exact inferInstance); (first | (with_reducible assumption) | omega)) | ((with_reducible apply (wpl_loadbyte (t := 5))); (exact rfl); (exact inferInstance); (exact inferInstance); (first | (with_reducible assumption) | omega)))
        refine HT0.out.mono ?_
        rintro e w5 ⟨S5, B5, c5, hJ5, hS5, rfl, hn5, _⟩
        have st5 : Step nowhere w2 w5 := ⟨hn5⟩
        go_wp2_with fail
        refine ⟨⟨i + 1, _, S5, s5, by omega, rfl, by simp, hJ5, hS5, st5, HST, by omega, by omega⟩, by simp [intOf]; omega⟩
    · have hltI : ¬ (i : Int) < L := by omega
      clear HINV
      go_wp2_with fail
      go_loopw [19, 20, 21] (fun mv ov iv wr => ∃ (j : Nat) (S : Nat → Prop) (s : St), j ≤ M ∧ iv = .int .i64 (j : Int) ∧ JS wr z S s ∧ (∀ x, S x → w2.heap.size ≤ x) ∧ Step nowhere w2 wr ∧ Hid (0 < j → s.G 3 = want b j now) ∧ s.N ≤ 2000 + 2 * j ∧ s.m ≤ 1000 + j ∧ Hid (j = M → ∃ B c9, mv = .slice B nb c9 ∧ ov = .bool true ∧ Rd wr B (bs b))) (fun _ _ iv _ => M - (intOf iv).toNat)
      case atStart => exact ⟨0, S, s, Nat.zero_le _, rfl, hJ, hS, inferInstance, Lib.hid (fun h => absurd h (by decide)), by omega, by omega, Lib.hid (fun h => absurd h (by omega))⟩
      case round =>
        rename_i wl _
        obtain ⟨j, S, s, hj, rfl, hJ, hS, _, HG, hN, hm, HE⟩ := hrel
        by_cases hlt2 : j < M
        · have hltI2 : (j : Int) < M := by omega
          have hjl : j < l'.length := by rw [hlM]; exact hlt2
          have hd := gt_d l' j _ HD'.out hjl
          have hb8 := gt_len HD'.out hjl
          have hjs : j < (splitS b).length := by rw [← map_len HD'.out]; exact hjl
          have T0 := takeB w2 hJ hS (stepN (w0 := w2) (w := wr)).chg (by omega) (by omega) hF'.out (k := j) hjl HI'.out (by decide) (by decide) now (by omega) (by omega) (by omega) hd rfl
          have tN := take_N s 3 ((splitS b).getD j []) now
          have tm := take_m s 3 ((splitS b).getD j []) now
          have hnext : (takeS s 3 ((splitS b).getD j []) now).1.G 3 = want b (j + 1) now ∧ (takeS s 3 ((splitS b).getD j []) now).2 = if j + 1 = (splitS b).length then some b else none := by
            rcases Nat.eq_zero_or_pos j with h0 | h0
            · subst h0
              exact feed0 hb1 hb2
            · rw [feed hb1 hb2 hjs (HG.out h0) (by simp [staleB])]
              exact ⟨by rw [upd_G, if_pos rfl], rfl⟩
          have hsM : (splitS b).length = M := by rw [← map_len HD'.out, hlM]
          rw [hsM] at hnext
          generalize takeS s 3 ((splitS b).getD j []) now = r at T0 hnext tN tm
          obtain ⟨s5, r2⟩ := r
          obtain ⟨hg5, hr5⟩ := hnext
          dsimp only at hg5 hr5 tN tm
          subst hr5
          have HG5 := Lib.hid hg5
          have HT0 := Lib.hid T0
          clear T0 hg5 HG HE hd hsM
          go_wp2_with (first | go_skip | ((with_reducible apply (wpl_guard (op := .convert _ _ _))); (exact rfl)) | ((with_reducible apply wpl_loadrow); (exact rfl); (exact inferInstance); (exact inferInstance); (first | (with_reducible assumption) | (with_reducible exact H32.size _) | (with_reducible exact enc_sz _ rfl) | kernel_rfl)) | ((with_reducible apply wpl_loadcellN); (exact rfl); (exact inferInstance); (first | (exact rfl) | (exact tg_hw _) | (exact tg_ctr _) | (exact tg_ecu _) | (exact srch_who) | (exact srch_fd))) | ((with_reducible apply wpl_indexH); (exact rfl); (exact rfl); (exact inferInstance); (exact inferInstance); (first | (with_reducible assumption) | omega); (first | (with_reducible assumption) | omega); (first | (with_reducible assumption) | omega)) | ((with_reducible apply wpl_indexH'); (exact rfl); (exact rfl); (exact inferInstance); (exact inferInstance); (first | (with_reducible assumption) | omega); (first | (with_reducible assumption) | omega); (first | (with_reducible assumption) | omega)) | ((with_reducible apply (wpl_loadhash (t := 70))); (exact rfl); (exact inferInstance); (exact inferInstance); (first | (with_reducible assumption) | omega)) | ((with_reducible apply (wpl_indexE (α := FR) (t := 23))); (exact rfl); (exact rfl); (exact inferInstance); (exact inferInstance); (first | (with_reducible assumption) | omega | (focus (simp; done)) | (focus (simp; omega; done)) | decide); (exact rfl); (decide); (first | (with_reducible assumption) | omega | (focus (simp; done)) | (focus (simp; omega; done)) | decide)) | ((with_reducible apply (wpl_indexE0 (α := FR) (t := 23))); (exact rfl); (exact inferInstance); (exact inferInstance); (first | (with_reducible assumption) | omega | (focus (simp; done)) | (focus (simp; omega; done)) | decide); (exact rfl); (decide); (first | (with_reducible assumption) | omega | (focus (simp; done)) | (focus (simp; omega; done)) | decide)) | ((with_reducible apply (wpl_loadE (α := FR) (t := 40))); (exact inferInstance); (exact rfl); (exact inferInstance); (exact rfl); (decide); (first | (with_reducible assumption) | omega | (focus (simp; done)) | (focus (simp; omega; done)) | decide)) | ((with_reducible apply (wpl_loadF (α := FR))); (exact inferInstance); (exact rfl); (exact inferInstance); (exact rfl); (first | (with_reducible assumption) | omega | (focus (simp; done)) | (focus (simp; omega; done)) | decide); (first | (exact rfl) | (exact tg_hw _) | (exact tg_ctr _) | (exact tg_ecu _) | (exact srch_who) | (exact srch_fd))) | ((with_reducible apply (wpl_loadint (t := 3))); (exact rfl); (exact inferInstance); (exact inferInstance); (first | (with_reducible assumption) | omega)) | ((with_reducible apply (wpl_loadbyte (t := 5))); (exact rfl); (exact inferInstance); (exact inferInstance); (first | (with_reducible assumption) | omega)))
          refine HT0.out.mono ?_
          rintro e w5 ⟨S5, B5, c5, hJ5, hS5, rfl, hn5, hR5⟩
          have st5 : Step nowhere w2 w5 := ⟨hn5⟩
          by_cases hjM : j + 1 = M
          · rw [if_pos hjM] at hR5 ⊢
            go_wp2_with fail
            refine ⟨⟨j + 1, S5, s5, by omega, by simp, hJ5, hS5, st5, Lib.hid (fun _ => HG5.out), by omega, by omega, Lib.hid (fun _ => ⟨B5, c5, rfl, rfl, hR5⟩)⟩, by simp [intOf]; omega⟩
          · rw [if_neg hjM] at hR5 ⊢
            go_wp2_with fail
            refine ⟨⟨j + 1, S5, s5, by omega, by simp, hJ5, hS5, st5, Lib.hid (fun _ => HG5.out), by omega, by omega, Lib.hid (fun h => absurd h hjM)⟩, by simp [intOf]; omega⟩
        · have hltI2 : ¬ (j : Int) < M := by omega
          obtain rfl : j = M := by omega
          obtain ⟨B9, c9, rfl, rfl, hR9⟩ := HE.out rfl
          clear HE HG
          have hR9' : HR wr B9 (bs b) := ⟨hR9⟩
          have hRb : HR wr Ab (bs b) := ⟨hrb.out.later (stepN (w0 := w) (w := wr)).chg⟩
          have e8 : ((strL b).toList == (strL b).toList) = true := by simp
          go_wp2_with (first | go_skip | ((with_reducible apply (wpl_guard (op := .convert _ _ _))); (exact rfl)) | ((with_reducible apply wpl_conv); (exact rfl); (exact hR9'); (exact hbn); (exact Try.underlying22); (exact Try.underlying5); (exact Try.underlying9)) | ((with_reducible apply wpl_conv); (exact rfl); (exact hRb); (exact hbn); (exact Try.underlying22); (exact Try.underlying5); (exact Try.underlying9)) | ((with_reducible apply (wpl_guard (op := .convert _ _ _))); (exact rfl)) | ((with_reducible apply wpl_loadrow); (exact rfl); (exact inferInstance); (exact inferInstance); (first | (with_reducible assumption) | (with_reducible exact H32.size _) | (with_reducible exact enc_sz _ rfl) | kernel_rfl)) | ((with_reducible apply wpl_loadcellN); (exact rfl); (exact inferInstance); (first | (exact rfl) | (exact tg_hw _) | (exact tg_ctr _) | (exact tg_ecu _) | (exact srch_who) | (exact srch_fd))))
          refine (sKnown_calls _).mono ?_
          rintro e w6 ⟨rfl, _⟩
          go_wp2_with fail
          go_ret
          exact ⟨rfl, (stepN (w0 := w)).chg⟩
end Go.Proofs.Ytojbbmgghhmgmaa
