/- SxB -/
import Derived.Test.YtegdihpnefoolaaThSxA
import Derived.Test.YtegdihpnefoolaaThSlN
import Derived.Test.YtegdihpnefoolaaThSlY
open Go Go.RowKit
namespace Go.Proofs.Ytegdihpnefoolaa
theorem boot_ok {s : FS} {N : Nat} (h : s.ok N) : ({ s with dead := false, fused := false } : FS).ok N := ⟨h.len, h.fit, h.most, h.tear, fun h => by cases h⟩
theorem each_math {a b : List UInt8} (ha : a.length ≤ 400) (hb : b.length ≤ 400) (k t : Int) (hk : k ≤ 9223372036854775807) :
    ∃ s1 s2 q s3 s4 s5, saveN 80 (FS.fresh 80) a = (0, s1) ∧ s1.ok 80 ∧ s2 = ({ s1 with fused := decide (0 ≤ k), left := k, tear := (min (max t 0) 64).toNat } : FS) ∧ s2.ok 80 ∧ saveN 80 s2 b = (q, s3) ∧ s3.ok 80 ∧ s4 = ({ s3 with dead := false, fused := false } : FS) ∧ s4.ok 80 ∧
      (loadN 80 s4).2.2 = 0 ∧ (q = 0 → (loadN 80 s4).1 = b) ∧ saveN 80 s4 [122] = (0, s5) ∧ s5.ok 80 ∧ (loadN 80 s5).1 = [122] ∧ (loadN 80 s5).2.2 = 0 := by
  obtain ⟨s1, e1, l1, ok1, u1, p1, b1⟩ := first_save (a := a) (by omega)
  obtain ⟨s2, hs2⟩ : ∃ s2, s2 = ({ s1 with fused := decide (0 ≤ k), left := k, tear := (min (max t 0) 64).toNat } : FS) := ⟨_, rfl⟩
  have hpg : s2.pages = s1.pages := by rw [hs2]
  have ok2 : s2.ok 80 := by rw [hs2]; exact fuse_ok ok1 k t hk
  have hsl : ∀ i, slotB s2 i = slotB s1 i := fun i => by unfold slotB; rw [hpg]
  obtain ⟨k1, k2, k3, k4, k5⟩ := second_save (s := s2) (a := a) (b := b) ok2 (by rw [hs2]; exact l1.1) (by rw [hsl]; exact u1) (fun j h1 h2 => by unfold FS.page; rw [hpg]; exact p1 j h1 h2) (by omega) (by rw [bestS_pages hpg]; exact b1)
  obtain ⟨q, s3, e3⟩ : ∃ q s3, saveN 80 s2 b = (q, s3) := ⟨_, _, rfl⟩
  rw [e3] at k1 k2 k3 k4 k5
  obtain ⟨s4, hs4⟩ : ∃ s4, s4 = ({ s3 with dead := false, fused := false } : FS) := ⟨_, rfl⟩
  have hpg4 : s4.pages = s3.pages := by rw [hs4]
  have ok4 : s4.ok 80 := by rw [hs4]; exact boot_ok k1
  have hsl4 : ∀ i, slotB s4 i = slotB s3 i := fun i => by unfold slotB; rw [hpg4]
  have hbt := bestS_two (t := s4) (a := a) (by rw [hsl4]; exact k3) (by rw [hsl4]; exact k4)
  have hn0 : (bestS s4).2.1 = 1 ∨ (bestS s4).2.1 = 2 := by
    rcases hbt with h | ⟨_, h⟩
    · exact .inl (by rw [h])
    · exact .inr (by rw [h])
  have hl4 : live s4 := by rw [hs4]; exact ⟨rfl, rfl⟩
  obtain ⟨s5, e5, l5, b5⟩ := save_live (b := [122]) ok4 (by decide) hl4 (by decide) (by omega)
  have e5' : saveN 80 s4 [122] = (0, s5) := by unfold saveN; rw [if_neg (by decide)]; exact e5
  have ok5 : s5.ok 80 := by
    have := saveN_ok [122] ok4
    rw [e5'] at this
    exact this
  have h5 := b5 ok5
  refine ⟨s1, s2, q, s3, s4, s5, e1, ok1, hs2, ok2, e3, k1, hs4, ok4, ?_, fun hq => ?_, e5', ok5, ?_, ?_⟩
  · unfold loadN
    rw [if_neg (by decide), if_neg (by omega)]
  · have hu := k5 hq
    rw [← hsl4] at hu
    rcases hbt with h | ⟨_, h⟩
    · have hm := best_all s4 1 (by decide) (by rw [hu])
      rw [hu, h] at hm
      exact absurd (show 2 ≤ 1 from hm) (by decide)
    · unfold loadN
      rw [if_neg (by decide)]
      show (bestS s4).2.2 = b
      rw [h, hu]
  · unfold loadN
    rw [if_neg (by decide)]
    show (bestS s5).2.2 = _
    rw [h5]
  · unfold loadN
    rw [if_neg (by decide), if_neg (by rw [h5]; exact Nat.succ_ne_zero _)]
theorem strL_beq (x y : List UInt8) : ((strL x).toList == (strL y).toList) = decide (x = y) := by
  rw [strL_list, strL_list, Bool.eq_iff_iff, beq_iff_eq, decide_eq_true_eq]
set_option maxRecDepth 100000 in
set_option maxHeartbeats 3200000 in
theorem slotEach_calls {A B : Option Addr} {n c m d : Nat} {a b : List UInt8} (k t : Int) {w : World} [ha : HR w A (bs a)] [hb : HR w B (bs b)] (hl : a.length = n) (hm : b.length = m) (hn9 : n ≤ 9223372036854775807) (hm9 : m ≤ 9223372036854775807) :
    Calls Try.prog 3 #[.slice A n c, .slice B m d, .int .i64 k, .int .i64 t] w fun e w' => e = .returned (.bool true) ∧ Chg nowhere w w' := by
  have HL := Lib.hid hl
  have HM := Lib.hid hm
  have HA0 := Lib.hid ha.out
  have HB0 := Lib.hid hb.out
  have kbz := run_byte1 122
  clear hl hm
  by_cases c1 : 400 < n
  · have c1I : 400 < (n : Int) := by omega
    go_enter Try.func3, Try.ntmps3
    go_wp2_with (first | go_skip | ((with_reducible apply (wpl_guard (op := .convert _ _ _))); (exact rfl)))
    go_ret
    exact ⟨rfl, (stepN (w0 := w)).chg⟩
  have c1I : ¬ 400 < (n : Int) := by omega
  by_cases c2 : 400 < m
  · have c2I : 400 < (m : Int) := by omega
    go_enter Try.func3, Try.ntmps3
    go_wp2_with (first | go_skip | ((with_reducible apply (wpl_guard (op := .convert _ _ _))); (exact rfl)))
    go_ret
    exact ⟨rfl, (stepN (w0 := w)).chg⟩
  have c2I : ¬ 400 < (m : Int) := by omega
  by_cases c3 : k < 0
  · go_enter Try.func3, Try.ntmps3
    go_wp2_with (first | go_skip | ((with_reducible apply (wpl_guard (op := .convert _ _ _))); (exact rfl)))
    go_ret
    exact ⟨rfl, (stepN (w0 := w)).chg⟩
  by_cases c4 : 20 < k
  · go_enter Try.func3, Try.ntmps3
    go_wp2_with (first | go_skip | ((with_reducible apply (wpl_guard (op := .convert _ _ _))); (exact rfl)))
    go_ret
    exact ⟨rfl, (stepN (w0 := w)).chg⟩
  obtain ⟨s1, s2, q, s3, s4, s5, e1, ok1, e2, ok2, e3, ok3, e4, ok4, e6, e7, e5, ok5, e8, e9⟩ := each_math (a := a) (b := b) (by have := HL.out; omega) (by have := HM.out; omega) k t (by omega)
  have E1 := Lib.hid e1
  have E2 := Lib.hid e2
  have E3 := Lib.hid e3
  have E4 := Lib.hid e4
  have E5 := Lib.hid e5
  have E7 := Lib.hid e7
  have OK1 := Lib.hid ok1
  have OK2 := Lib.hid ok2
  have OK3 := Lib.hid ok3
  have OK4 := Lib.hid ok4
  have OK5 := Lib.hid ok5
  have OK0 := Lib.hid (FS.fresh_ok (N := 80) (by decide))
  obtain ⟨Q, hQ⟩ : ∃ Q, Q = loadN 80 s4 := ⟨_, rfl⟩
  obtain ⟨R, hR⟩ : ∃ R, R = loadN 80 s5 := ⟨_, rfl⟩
  rw [← hQ] at e6 E7
  rw [← hR] at e8 e9
  obtain ⟨y, x2, x3⟩ := Q
  obtain ⟨z, z2, z3⟩ := R
  have e6' : x3 = 0 := e6
  have e8' : z = [122] := e8
  have e9' : z3 = 0 := e9
  subst e6' e8' e9'
  have HQ := Lib.hid hQ
  have HZ5 := Lib.hid hR
  clear e1 e2 e3 e4 e5 e6 e7 e8 e9 ok1 ok2 ok3 ok4 ok5 hQ hR
  go_enter Try.func3, Try.ntmps3
  go_wp2_with (first | go_skip | ((with_reducible apply (wpl_guard (op := .convert _ _ _))); (exact rfl)))
  refine (New_calls 80 _ (by decide) (by decide)).mono ?_
  rintro e w2 ⟨g, p, rfl, hF, hc2, hg, hp⟩
  have st2 : Step nowhere _ w2 := ⟨hc2.out⟩
  have HF2 := hF
  clear hF hc2
  go_wp2_with (first | go_skip | ((with_reducible apply (wpl_guard (op := .convert _ _ _))); (exact rfl)))
  refine (rfNew_calls 80 80 (by decide) _).mono ?_
  rintro e w3 ⟨x, T, rfl, hX, _, hT⟩
  have hg' : w.heap.size ≤ g := Nat.le_trans (inferInstance : SzLe w _).out hg
  have hp' : w.heap.size ≤ p := Nat.le_trans (inferInstance : SzLe w _).out hp
  obtain ⟨hgl, hpl⟩ := HF2.out.lts
  have HTW : Hid (∀ k, T k → w.heap.size ≤ k) := Lib.hid (fun k hk => Nat.le_trans (inferInstance : SzLe w w2).out (hT k hk).1)
  have HTL : Hid (∀ k, T k → k < w3.heap.size) := Lib.hid (fun k hk => (hT k hk).2)
  have abT : Above w T := ⟨HTW.out⟩
  have ab2 : Above w (Two g p) := ⟨fun k h => by
    rcases h with h | h
    · rw [h]; exact hg'
    · rw [h]; exact hp'⟩
  have HTg : Hid (¬ T g) := Lib.hid (fun h => absurd hgl (Nat.not_lt.2 (hT g h).1))
  have HTp : Hid (¬ T p) := Lib.hid (fun h => absurd hpl (Nat.not_lt.2 (hT p h).1))
  have oA : OffR T A (bs a) := ⟨fun hne ad e hk => by
    have h1 := rd_lt HA0.out hne e
    have h2 := HTW.out _ hk
    omega⟩
  have oB : OffR T B (bs b) := ⟨fun hne ad e hk => by
    have h1 := rd_lt HB0.out hne e
    have h2 := HTW.out _ hk
    omega⟩
  have HF3 : Hid (FlashAt w3 g p 80 (FS.fresh 80)) := Lib.hid (FlashAt.nw HF2.out)
  have HX3 := Lib.hid hX
  clear HF2 hX hT hg hp hgl hpl
  go_wp2_with (first | go_skip | ((with_reducible apply (wpl_guard (op := .convert _ _ _))); (exact rfl)))
  refine (rSave_calls (b := a) HX3.out (Rel.fresh 80) OK0.out HTL.out HL.out hn9).mono ?_
  rw [E1.out]
  rintro e w4 ⟨rfl, H4, st4⟩
  have n4 : Nw w w4 := inferInstance
  obtain ⟨r4, hX4, hR4⟩ := H4.out
  have HX4 := Lib.hid hX4
  have HR4 := Lib.hid hR4
  have HTL4 : Hid (∀ k, T k → k < w4.heap.size) := Lib.hid (fun k hk => Nat.lt_of_lt_of_le (HTL.out k hk) (inferInstance : SzLe w3 w4).out)
  clear hX4 hR4 H4
  go_wp2_with (first | go_skip | ((with_reducible apply (wpl_guard (op := .convert _ _ _))); (exact rfl)))
  refine (rfFuse_calls (HX4.out) k t).mono ?_
  rintro e w5 ⟨rfl, h5, c5⟩
  have st5 : Step T _ w5 := ⟨c5⟩
  have HX5 := Lib.hid h5
  have HR5 : Hid (Rel s2 _ 80) := Lib.hid (by rw [E2.out]; exact HR4.out.fuse k t)
  have HTL5 : Hid (∀ k, T k → k < w5.heap.size) := Lib.hid (fun k hk => Nat.lt_of_lt_of_le (HTL4.out k hk) (inferInstance : SzLe w4 w5).out)
  have n5 : Nw w w5 := inferInstance
  have hb5 : HR w5 B (bs b) := ⟨HB0.out.later n5.out⟩
  clear h5 c5
  go_wp2_with (first | go_skip | ((with_reducible apply (wpl_guard (op := .convert _ _ _))); (exact rfl)))
  refine (rSave_calls (b := b) HX5.out HR5.out OK2.out HTL5.out HM.out hm9).mono ?_
  rw [E3.out]
  rintro e w6 ⟨rfl, H6, st6⟩
  obtain ⟨r6, hX6, hR6⟩ := H6.out
  have HX6 := Lib.hid hX6
  have HR6 := Lib.hid hR6
  have n6 : Nw w w6 := inferInstance
  clear hX6 hR6 H6
  go_wp2_with (first | go_skip | ((with_reducible apply (wpl_guard (op := .convert _ _ _))); (exact rfl)))
  refine (rfBoot_calls HX6.out).mono ?_
  rintro e w7 ⟨rfl, h7, c7⟩
  have st7 : Step T _ w7 := ⟨c7⟩
  have HX7 := Lib.hid h7
  have HR7 : Hid (Rel s4 _ 80) := Lib.hid (by rw [E4.out]; exact HR6.out.boot)
  have n7 : Nw w w7 := inferInstance
  have st37 : Step T w3 w7 := ⟨(((st4.chg.trans st5.chg (fun _ _ h => h)).trans st6.chg (fun _ _ h => h)).trans st7.chg (fun _ _ h => h))⟩
  have HF7 : Hid (FlashAt w7 g p 80 (FS.fresh 80)) := Lib.hid (HF3.out.chg st37.chg HTg.out HTp.out)
  clear h7 c7
  go_wp2_with (first | go_skip | ((with_reducible apply (wpl_guard (op := .convert _ _ _))); (exact rfl)))
  refine (rLoad_calls HX7.out HR7.out OK4.out).mono ?_
  rw [← HQ.out]
  unfold LoadQ
  rintro e w8 ⟨B8, m8, d8, rfl, hm8, hd8, hB8, hnB8, _⟩
  have n8 : Nw w w8 := inferInstance
  have ha8 : HR w8 A (bs a) := ⟨HA0.out.later n8.out⟩
  have hb8 : HR w8 B (bs b) := ⟨HB0.out.later n8.out⟩
  have HF8 : Hid (FlashAt w8 g p 80 (FS.fresh 80)) := Lib.hid (FlashAt.nw HF7.out)
  have hm8' : y.length = m8 := hm8
  have hla : a.length = n := HL.out
  have hlb : b.length = m := HM.out
  by_cases hyab : y = a ∨ y = b
  · have HYAB := Lib.hid hyab
    have hne : ((strL y).toList != (strL a).toList && (strL y).toList != (strL b).toList) = false := by
      rw [bne, bne, strL_beq, strL_beq]
      rcases hyab with h | h <;> simp [h]
    obtain ⟨u, hu⟩ : ∃ u, u = ((strL y).toList == (strL a).toList) := ⟨_, rfl⟩
    obtain ⟨v, hv⟩ : ∃ v, v = ((strL y).toList == (strL b).toList) := ⟨_, rfl⟩
    obtain ⟨qe, hqe⟩ : ∃ x, x = ((q : Int) == 0) := ⟨_, rfl⟩
    have HU := Lib.hid hu
    have HV := Lib.hid hv
    have HQE := Lib.hid hqe
    have huv : u = true ∨ v = true := by
      rw [hu, hv, strL_beq, strL_beq]
      simpa using hyab
    have hqv : qe = true → v = true := fun h => by
      rw [hqe] at h
      have h2 : q = 0 := by simpa using h
      rw [hv, strL_beq]
      exact decide_eq_true (E7.out h2)
    have hcase : (u = true ∧ v = true ∧ qe = true) ∨ (u = false ∧ v = true ∧ qe = true) ∨ (u = true ∧ v = v ∧ qe = false) ∨ (u = false ∧ v = true ∧ qe = false) := by
      clear hne hu hv hqe
      revert huv hqv
      cases u <;> cases v <;> cases qe <;> simp
    clear hne hu hv hqe huv hqv hyab
    rcases hcase with ⟨rfl, rfl, rfl⟩ | ⟨rfl, rfl, rfl⟩ | ⟨rfl, _, rfl⟩ | ⟨rfl, rfl, rfl⟩
    all_goals
      have hy1 := HU.out.symm
      have hy2 := HV.out.symm
      go_wp2_with (first | go_skip | ((with_reducible apply (wpl_guard (op := .convert _ _ _))); (exact rfl)) | ((with_reducible apply wpl_conv); (exact rfl); infer_instance; (first | (with_reducible assumption) | (focus (simp; done)) | omega); (exact Try.underlying22); (exact Try.underlying5); (exact Try.underlying9)))
      refine (pSave_calls (b := a) HF8.out HL.out hn9).mono ?_
      rw [E1.out]
      rintro e w9 ⟨rfl, h9, _⟩
      have n9 : Nw w w9 := inferInstance
      go_wp2_with (first | go_skip | ((with_reducible apply (wpl_guard (op := .convert _ _ _))); (exact rfl)))
      refine (Fuse_calls g p 80 s1 k t _ h9.out (by omega)).mono ?_
      rw [← E2.out]
      rintro e w10 ⟨rfl, h10, c10⟩
      have st10 : Step (Two g p) _ w10 := ⟨c10.out⟩
      have n10 : Nw w w10 := inferInstance
      have hb10 : HR w10 B (bs b) := ⟨HB0.out.later n10.out⟩
      clear c10
      go_wp2_with (first | go_skip | ((with_reducible apply (wpl_guard (op := .convert _ _ _))); (exact rfl)))
      refine (pSave_calls (b := b) h10.out HM.out hm9).mono ?_
      rw [E3.out]
      rintro e w11 ⟨rfl, h11, _⟩
      have n11 : Nw w w11 := inferInstance
      go_wp2_with (first | go_skip | ((with_reducible apply (wpl_guard (op := .convert _ _ _))); (exact rfl)))
      refine (Boot_calls g p 80 s3 _ h11.out).mono ?_
      rw [← E4.out]
      rintro e w12 ⟨rfl, h12, c12⟩
      have st12 : Step (Two g p) _ w12 := ⟨c12.out⟩
      have n12 : Nw w w12 := inferInstance
      clear c12
      go_wp2_with (first | go_skip | ((with_reducible apply (wpl_guard (op := .convert _ _ _))); (exact rfl)))
      refine (pLoad_calls h12.out).mono ?_
      rw [← HQ.out]
      unfold LoadQ
      rintro e w13 ⟨B13, m13, d13, rfl, hm13, hd13, hB13, hnB13, _⟩
      have n13 : Nw w w13 := inferInstance
      have ha13 : HR w13 A (bs a) := ⟨HA0.out.later n13.out⟩
      have hb13 : HR w13 B (bs b) := ⟨HB0.out.later n13.out⟩
      have hm13' : y.length = m13 := hm13
      have hla : a.length = n := HL.out
      have hlb : b.length = m := HM.out
      have hqE := HQE.out.symm
      have hy1 := HU.out.symm
      have hy2 := HV.out.symm
      have HF13 : Hid (FlashAt w13 g p 80 s4) := Lib.hid (FlashAt.nw h12.out)
      clear h9 h10 h11 h12
      go_wp2_with (first | go_skip | ((with_reducible apply (wpl_lit (d1 := some 122))); (exact kbz _); (exact fun _ => rfl); (exact Try.underlying22); (exact Try.underlying5); intro zb wb _ _ _) | ((with_reducible apply (wpl_guard (op := .convert _ _ _))); (exact rfl)) | ((with_reducible apply wpl_conv); (exact rfl); infer_instance; (first | (with_reducible assumption) | (focus (simp; done)) | omega); (exact Try.underlying22); (exact Try.underlying5); (exact Try.underlying9)))
      have hrz : HR wb (some ⟨zb, 0, none⟩) (bs [122]) := inferInstance
      have n14 : Nw w wb := inferInstance
      have HF14 : Hid (FlashAt wb g p 80 s4) := Lib.hid (HF13.out.calm (inferInstance : Step nowhere w13 wb).chg)
      refine (pSave_calls (A := some ⟨zb, 0, none⟩) (n := 1) (c := 1) (b := [122]) HF14.out rfl (by decide)).mono ?_
      rw [E5.out]
      rintro e w15 ⟨rfl, h15, _⟩
      have n15 : Nw w w15 := inferInstance
      go_wp2_with (first | go_skip | ((with_reducible apply (wpl_guard (op := .convert _ _ _))); (exact rfl)))
      refine (pLoad_calls h15.out).mono ?_
      rw [← HZ5.out]
      unfold LoadQ
      rintro e w16 ⟨B16, m16, d16, rfl, hm16, hd16, hB16, hnB16, _⟩
      have n16 : Nw w w16 := inferInstance
      have hm16' : [122].length = m16 := hm16
      have hse : ((strL [122]).toList == [122]) = true := strL_self [122]
      go_wp2_with (first | go_skip | ((with_reducible apply (wpl_guard (op := .convert _ _ _))); (exact rfl)) | ((with_reducible apply wpl_conv); (exact rfl); infer_instance; (first | (with_reducible assumption) | (focus (simp; done)) | omega); (exact Try.underlying22); (exact Try.underlying5); (exact Try.underlying9)))
      refine (slKnown_calls _).mono ?_
      rintro e w17 ⟨rfl, _⟩
      go_wp2_with (first | go_skip | ((with_reducible apply (wpl_guard (op := .convert _ _ _))); (exact rfl)))
      go_ret
      exact ⟨rfl, (inferInstance : Nw w _).out⟩
  · have hy1 : ((strL y).toList == (strL a).toList) = false := by rw [strL_beq]; exact decide_eq_false (fun h => hyab (.inl h))
    have hy2 : ((strL y).toList == (strL b).toList) = false := by rw [strL_beq]; exact decide_eq_false (fun h => hyab (.inr h))
    clear hyab
    go_wp2_with (first | go_skip | ((with_reducible apply (wpl_guard (op := .convert _ _ _))); (exact rfl)) | ((with_reducible apply wpl_conv); (exact rfl); infer_instance; (first | (with_reducible assumption) | (focus (simp; done)) | omega); (exact Try.underlying22); (exact Try.underlying5); (exact Try.underlying9)))
    refine (slKnown_calls _).mono ?_
    rintro e w9 ⟨rfl, _⟩
    go_wp2_with (first | go_skip | ((with_reducible apply (wpl_guard (op := .convert _ _ _))); (exact rfl)))
    go_ret
    exact ⟨rfl, (inferInstance : Nw w _).out⟩
end Go.Proofs.Ytegdihpnefoolaa
