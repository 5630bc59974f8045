/- CkD -/
import Derived.Test.YtcgbgeheiklhhaaGreatTfCkB
import Derived.Test.YtcgbgeheiklhhaaGreatTfRdN
open Go Go.RowKit
namespace Go.Proofs.YtcgbgeheiklhhaaGreat
theorem run_ptr3 (a b c : Option Addr) (w : World) : (Instr.buildSlice 101 3 #[(0, .pointer a), (1, .pointer b), (2, .pointer c)]).run Tryz.prog w = .ok (.slice (some ⟨w.heap.size, 0, none⟩) 3 3) (w.alloc (.cells #[.pointer a, .pointer b, .pointer c] 78)) := by kernel_rfl
instance : ZeroT Tryz.prog 3 #[.int .i64 0] := ⟨.int .i64 0, fun _ => by kernel_rfl, rfl⟩
section
variable {a b c : Nat} (s : RS) (v : Value)
theorem put3a (h1 : b ≠ a) (h2 : c ≠ a) : putN a [some ⟨a, 0, none⟩, some ⟨b, 0, none⟩, some ⟨c, 0, none⟩] s 3 #[v] = #[.int .i64 ((s.at 0).num.1 : Int)] := by
  simp [putN, h1, h2]
theorem put3b (h1 : a ≠ b) (h2 : c ≠ b) : putN b [some ⟨a, 0, none⟩, some ⟨b, 0, none⟩, some ⟨c, 0, none⟩] s 3 #[v] = #[.int .i64 ((s.at 1).num.1 : Int)] := by
  simp [putN, h1, h2]
theorem put3c (h1 : a ≠ c) (h2 : b ≠ c) : putN c [some ⟨a, 0, none⟩, some ⟨b, 0, none⟩, some ⟨c, 0, none⟩] s 3 #[v] = #[.int .i64 ((s.at 2).num.1 : Int)] := by
  simp [putN, h1, h2]
end
set_option maxRecDepth 100000 in
set_option maxHeartbeats 1600000 in
theorem check_calls {m : List UInt8} {nb cb n c : Nat} {M A : Option Addr} {l : List MarkR} (pub : H32) (nonce : Int) {w : World} [hm : HR w M (bs m)] [hr : HR w A (cellsOf l)] (hM : ∀ r ∈ l, MarkIn w r) (hl : l.length = n) (hc : n ≤ c) (hmax : n ≤ 9223372036854775807) (hlm : m.length = nb) (hcap : nb ≤ cb) (hn : nb ≤ 1000000000) :
    Calls Tryz.prog 10 #[.agg (u8s pub.l), .agg #[.slice M nb cb, .slice A n c], .int .i64 nonce] w fun e w' => e = .returned (.tuple #[.int .i64 (chkS (meetsB m l [pub] 1) m nonce).1, .int .i64 (chkS (meetsB m l [pub] 1) m nonce).2]) ∧ Step nowhere w w' := by
  have kbs := run_oneH pub
  have kb2 : ∀ (z : Nat) w, (Instr.build 74 #[(0, .slice (some ⟨z, 0, none⟩) 1 1), (1, .int .i64 1)]).run Tryz.prog w = .ok (.agg #[.slice (some ⟨z, 0, none⟩) 1 1, .int .i64 1]) w := fun _ _ => by kernel_rfl
  obtain ⟨B, hB⟩ : ∃ B, B = meetsB m l [pub] 1 := ⟨_, rfl⟩
  have HB1 := Lib.hid hB
  have HMI := Lib.hid hM
  have HM := Lib.hid hlm
  have HL := Lib.hid hl
  have HMR := Lib.hid hm.out
  obtain ⟨R, hR⟩ : ∃ R, R = chkS B m nonce := ⟨_, rfl⟩
  have HR1 := Lib.hid hR
  rw [← hB, ← hR]
  clear hM hlm hl hB hR
  go_enter Tryz.func10, Tryz.ntmps10
  go_wp2_with (first | ((with_reducible apply (stop_dst (dst := some 14))); (try simp only [Act.put, sA, sB, sC]); ((with_reducible apply (wpl_bslice (dst := some 14))); (exact kbs _); intro zs wb _ _ _)) | ((with_reducible apply wpl_build); (exact kb2 _ _)) | ((with_reducible apply (wpl_box_agg (dst := some 3))); (exact rfl); intro zp wzp _ _ _) | ((with_reducible apply (wpl_box_agg (dst := some 4))); (exact rfl); intro ze wze _ _ _) | ((with_reducible apply wpl_loadrow); (exact rfl); infer_instance; infer_instance; (first | (with_reducible assumption) | (with_reducible exact H32.size _) | (with_reducible exact enc_sz _ rfl) | kernel_rfl)))
  have hzs : HB wb zs 23 (u8s pub.l) := inferInstance
  have hrs : HR wb (some ⟨zs, 0, none⟩) (cellsOf [pub]) := by
    have h : HR wb (some ⟨zs, 0, none⟩) (bs pub.l) := inferInstance
    rwa [show cellsOf [pub] = bs pub.l from List.append_nil _]
  refine (meets_calls (l := l) (ks := [pub]) 1 (fun r h => MarkIn.nw (HMI.out r h)) HL.out hc hmax HM.out hcap (by omega) rfl (show 1 ≤ 10000 by decide) (Nat.le_refl _)).mono ?_
  rw [← HB1.out]
  rintro e w1 ⟨rfl, _⟩
  cases B with
  | false =>
    have HR2 : Hid (R = (0, 4)) := Lib.hid HR1.out
    clear HR1
    go_wp2_with fail
    go_ret2
    rw [HR2.out]
    exact ⟨rfl, stepN⟩
  | true =>
    obtain ⟨K, hK⟩ : ∃ K, K = ckKind m := ⟨_, rfl⟩
    obtain ⟨Q, hQ⟩ : ∃ Q, Q = ckAsked m := ⟨_, rfl⟩
    obtain ⟨T, hT⟩ : ∃ T, T = ckNow m := ⟨_, rfl⟩
    obtain ⟨V, hV⟩ : ∃ V, V = ckWhole m := ⟨_, rfl⟩
    obtain ⟨NQ, hNQ⟩ : ∃ NQ, NQ = numC Q := ⟨_, rfl⟩
    obtain ⟨NT, hNT⟩ : ∃ NT, NT = numC T := ⟨_, rfl⟩
    have hC : chkS true m nonce = if (V && decide (K = 7) && (NQ && NT)) = false then (0, 2) else if Q = nonce then (T, 0) else (0, 5) := by
      unfold chkS ckForm
      rw [← hV, ← hK, ← hQ, ← hT, ← hNQ, ← hNT]
      rfl
    have HC := Lib.hid (HR1.out.trans hC)
    have HK := Lib.hid hK
    have HQ := Lib.hid hQ
    have HT := Lib.hid hT
    have HV := Lib.hid hV
    have HNQ := Lib.hid hNQ
    have HNT := Lib.hid hNT
    clear hK hQ hT hV hNQ hNT hC
    clear HR1
    have n1 : Nw w w1 := inferInstance
    go_wp2_with (first | ((with_reducible apply (wpl_alloc (dst := some 8))); intro za wza _ _ _) | ((with_reducible apply (wpl_alloc (dst := some 9))); intro zb wzb _ _ _) | ((with_reducible apply (wpl_alloc (dst := some 10))); intro zc wzc _ _ _) | ((with_reducible apply wpl_loadcellN); (exact rfl); infer_instance; (exact rfl)))
    refine (NewReader_calls M nb cb m _ (HMR.out.chg (stepN (w0 := w)).chg (fun _ _ _ h => h)) HM.out (by omega)).mono ?_
    rintro e w2 ⟨g, d, rfl, hR2, hc2, hg2, hd2⟩
    have s2 : Step nowhere wzc w2 := ⟨hc2.out⟩
    have n2 : Nw w w2 := inferInstance
    have hba : HB w2 za 3 #[.int .i64 0] := inferInstance
    have hbb : HB w2 zb 3 #[.int .i64 0] := inferInstance
    have hbc : HB w2 zc 3 #[.int .i64 0] := inferInstance
    have lab : za ≠ zb := fun e => (inferInstance : OffB (only zb) za).out e
    have lac : za ≠ zc := fun e => (inferInstance : OffB (only zc) za).out e
    have lbc : zb ≠ zc := fun e => (inferInstance : OffB (only zc) zb).out e
    have la : w.heap.size ≤ za := (NewA.monoS (w0 := w) (NewA.of_born (z := za) 0)).out ⟨za, 0, none⟩ rfl
    have lb : w.heap.size ≤ zb := (NewA.monoS (w0 := w) (NewA.of_born (z := zb) 0)).out ⟨zb, 0, none⟩ rfl
    have lc : w.heap.size ≤ zc := (NewA.monoS (w0 := w) (NewA.of_born (z := zc) 0)).out ⟨zc, 0, none⟩ rfl
    have HR2 := hR2
    have ga : za ≠ g := fun e => by
      have h1 := (inferInstance : HB wzc za 3 #[.int .i64 0]).out.lt
      omega
    have gb : zb ≠ g := fun e => by
      have h1 := (inferInstance : HB wzc zb 3 #[.int .i64 0]).out.lt
      omega
    have gc : zc ≠ g := fun e => by
      have h1 := (inferInstance : HB wzc zc 3 #[.int .i64 0]).out.lt
      omega
    have da : za ≠ d := fun e => by
      have h1 := (inferInstance : HB wzc za 3 #[.int .i64 0]).out.lt
      omega
    have db : zb ≠ d := fun e => by
      have h1 := (inferInstance : HB wzc zb 3 #[.int .i64 0]).out.lt
      omega
    have dc : zc ≠ d := fun e => by
      have h1 := (inferInstance : HB wzc zc 3 #[.int .i64 0]).out.lt
      omega
    have lg : w.heap.size ≤ g := by
      have h1 := (stepN (w0 := w) (w := wzc)).chg.size
      omega
    clear hR2 hc2
    go_wp2_with (first | ((with_reducible apply (stop_dst (dst := some 22))); (try simp only [Act.put, sA, sB, sC]); ((with_reducible apply (wpl_bslice (dst := some 22))); (exact run_ptr3 _ _ _ _); intro zi wb _ _ _)))
    have hzi : HB wb zi 78 #[.pointer (some ⟨za, 0, none⟩), .pointer (some ⟨zb, 0, none⟩), .pointer (some ⟨zc, 0, none⟩)] := inferInstance
    have hi2 : w2.heap.size ≤ zi := Nat.le_of_eq (inferInstance : Born w2 zi).eq.symm
    have ia : za ≠ zi := fun e => by have := hba.out.lt; omega
    have ib : zb ≠ zi := fun e => by have := hbb.out.lt; omega
    have ic : zc ≠ zi := fun e => by have := hbc.out.lt; omega
    have ig : g ≠ zi := fun e => by have := HR2.out.lt; omega
    have hba' : HB wb za 3 #[.int .i64 0] := inferInstance
    have hbb' : HB wb zb 3 #[.int .i64 0] := inferInstance
    have hbc' : HB wb zc 3 #[.int .i64 0] := inferInstance
    have nb' : Nw w wb := inferInstance
    refine (rNums_calls g d ⟨m, false⟩ (some ⟨zi, 0, none⟩) 3 3 [some ⟨za, 0, none⟩, some ⟨zb, 0, none⟩, some ⟨zc, 0, none⟩] wb (HR2.out.chg (inferInstance : Step nowhere w2 wb).chg (fun h => h) (fun h => h)) (by show m.length ≤ _; have := HM.out; omega) hzi.rdL rfl (by decide) ?_ ?_).mono ?_
    · rintro _ ad e hk
      injection e with e
      subst e
      rcases hk with hk | ⟨ad, hm, hk⟩
      · exact ig hk.symm
      · simp only [List.mem_cons, List.not_mem_nil, or_false, Option.some.injEq] at hm
        rcases hm with rfl | rfl | rfl
        · exact ia hk
        · exact ib hk
        · exact ic hk
    · intro ad hm
      simp only [List.mem_cons, List.not_mem_nil, or_false, Option.some.injEq] at hm
      rcases hm with rfl | rfl | rfl
      · exact ⟨za, 0, _, _, rfl, hba'.out, by decide, ga, fun _ => da⟩
      · exact ⟨zb, 0, _, _, rfl, hbb'.out, by decide, gb, fun _ => db⟩
      · exact ⟨zc, 0, _, _, rfl, hbc'.out, by decide, gc, fun _ => dc⟩
    rintro e w5 ⟨rfl, h5, c5, p5⟩
    have n5 : Nw w w5 := ⟨nb'.out.trans c5.out (fun x hx h => by
      rcases h with h | ⟨ad, hm, hk⟩
      · omega
      · simp only [List.mem_cons, List.not_mem_nil, or_false, Option.some.injEq] at hm
        rcases hm with rfl | rfl | rfl
        · have hk' : za = x := hk
          omega
        · have hk' : zb = x := hk
          omega
        · have hk' : zc = x := hk
          omega)⟩
    have ha5 : HB w5 za 3 #[.int .i64 K] := ⟨by
      rw [HK.out, ← show _ = #[Value.int .i64 (ckKind m)] from put3a (rd0 m) (.int .i64 0) lab.symm lac.symm]
      exact p5.out za _ _ ga hba'.out⟩
    have hb5 : HB w5 zb 3 #[.int .i64 Q] := ⟨by
      rw [HQ.out, ← show _ = #[Value.int .i64 (ckAsked m)] from put3b (rd0 m) (.int .i64 0) lab lbc.symm]
      exact p5.out zb _ _ gb hbb'.out⟩
    have hc5 : HB w5 zc 3 #[.int .i64 T] := ⟨by
      rw [HT.out, ← show _ = #[Value.int .i64 (ckNow m)] from put3c (rd0 m) (.int .i64 0) lac lbc]
      exact p5.out zc _ _ gc hbc'.out⟩
    have HR5 := h5
    have hle5 : ((⟨m, false⟩ : RS).at 3).b.length ≤ 1000000000000 := Nat.le_trans (RS.at_le _ 3) (by show m.length ≤ _; have := HM.out; omega)
    have HV5 : Hid ((!((⟨m, false⟩ : RS).at 3).e && decide (((⟨m, false⟩ : RS).at 3).b = [])) = V) := Lib.hid HV.out.symm
    clear h5 c5 p5 hba' hbb' hbc' hzi HV
    go_wp2_with fail
    refine (Whole_calls g d _ w5 HR5.out hle5).mono ?_
    rw [HV5.out]
    rintro e w6 ⟨rfl, rfl⟩
    cases V with
    | false =>
      have HC2 : Hid (R = (0, 2)) := Lib.hid (by rw [HC.out]; simp)
      clear HC
      go_wp2_with (first | go_skip)
      go_ret2
      rw [HC2.out]
      exact ⟨rfl, stepN⟩
    | true =>
      by_cases h7 : K = 7
      · obtain rfl := h7
        go_wp2_with (first | ((with_reducible apply (wpl_guard (op := .call _))); (exact rfl)) | ((with_reducible apply (wpl_guard (op := .load _ _))); (exact rfl)) | ((with_reducible apply wpl_loadcellN); (exact rfl); infer_instance; (exact rfl)))
        refine (ckNumber_calls Q _).mono ?_
        rw [← HNQ.out]
        rintro e w7 ⟨rfl, _⟩
        cases NQ with
        | false =>
          have HC2 : Hid (R = (0, 2)) := Lib.hid (by rw [HC.out]; simp)
          clear HC
          go_wp2_with (first | go_skip)
          go_ret2
          rw [HC2.out]
          exact ⟨rfl, stepN⟩
        | true =>
          go_wp2_with (first | ((with_reducible apply (wpl_guard (op := .call _))); (exact rfl)) | ((with_reducible apply (wpl_guard (op := .load _ _))); (exact rfl)) | ((with_reducible apply wpl_loadcellN); (exact rfl); infer_instance; (exact rfl)))
          refine (ckNumber_calls T _).mono ?_
          rw [← HNT.out]
          rintro e w8 ⟨rfl, _⟩
          cases NT with
          | false =>
            have HC2 : Hid (R = (0, 2)) := Lib.hid (by rw [HC.out]; simp)
            clear HC
            go_wp2_with fail
            go_ret2
            rw [HC2.out]
            exact ⟨rfl, stepN⟩
          | true =>
            by_cases hq : Q = nonce
            · have HC2 : Hid (R = (T, 0)) := Lib.hid (by rw [HC.out]; simp [hq])
              clear HC
              go_wp2_with (first | ((with_reducible apply wpl_loadcellN); (exact rfl); infer_instance; (exact rfl)))
              go_ret2
              rw [HC2.out]
              exact ⟨rfl, stepN⟩
            · have HC2 : Hid (R = (0, 5)) := Lib.hid (by rw [HC.out]; simp [hq])
              clear HC
              go_wp2_with (first | ((with_reducible apply wpl_loadcellN); (exact rfl); infer_instance; (exact rfl)))
              go_ret2
              rw [HC2.out]
              exact ⟨rfl, stepN⟩
      · have HC2 : Hid (R = (0, 2)) := Lib.hid (by rw [HC.out]; simp [h7])
        clear HC
        go_wp2_with (first | go_skip | ((with_reducible apply (wpl_guard (op := .load _ _))); (exact rfl)) | ((with_reducible apply wpl_loadcellN); (exact rfl); infer_instance; (exact rfl)))
        go_ret2
        rw [HC2.out]
        exact ⟨rfl, stepN⟩
end Go.Proofs.YtcgbgeheiklhhaaGreat
