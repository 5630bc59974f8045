/- SxC -/
import Derived.Test.YtegdihpnefoolaaThSxB
open Go Go.RowKit
namespace Go.Proofs.Ytegdihpnefoolaa
theorem and_lowS (a : Int) : ∃ q : Nat, bits .and .i64 a 65535 = (q : Int) ∧ q ≤ 65535 := by
  have hle : (BitVec.ofInt 64 a &&& BitVec.ofInt 64 (65535 : Int)).toNat ≤ 65535 := by
    rw [BitVec.toNat_and]
    have h1 : (BitVec.ofInt 64 (65535 : Int)).toNat = 65535 := by decide
    rw [h1]
    exact Nat.and_le_right
  refine ⟨(BitVec.ofInt 64 a &&& BitVec.ofInt 64 (65535 : Int)).toNat, ?_, hle⟩
  show IntKind.i64.wrap ((BitVec.ofInt 64 a &&& BitVec.ofInt 64 (65535 : Int)).toNat : Int) = _
  rw [IntKind.wrap_i64]
  omega
theorem two_live {a b : List UInt8} (ha : a.length ≤ 2500) (hb : b.length ≤ 2500) : ∃ s1 s2, saveN 80 (FS.fresh 80) a = (0, s1) ∧ s1.ok 80 ∧ live s1 ∧ saveN 80 s1 b = (0, s2) ∧ s2.ok 80 ∧ live s2 ∧ unpS (slotB s2 0) = ⟨1, a, true⟩ := by
  obtain ⟨s1, e1, l1, ok1, u1, p1, b1⟩ := first_save ha
  obtain ⟨k1, _, k3, _, _⟩ := second_save (b := b) ok1 l1.1 u1 p1 hb b1
  obtain ⟨s2, e2, l2, _⟩ := save_live (b := b) ok1 (by decide) l1 hb (by rw [b1]; show 1 < 1073741824; decide)
  have e2' : saveN 80 s1 b = (0, s2) := by unfold saveN; rw [if_neg (by decide)]; exact e2
  rw [e2'] at k1 k3
  exact ⟨s1, s2, e1, ok1, l1, e2', k1, l2, k3⟩
theorem spoil_state {s : FS} (ok : s.ok 80) (hv : live s) (P : Nat) (hP : P < 80) (y : List UInt8) (hy : y.length = 64) :
    ∃ s3 s4, s.change 80 (P : Int) 64 erD = (0, s3) ∧ s3.change 80 (P : Int) 64 (prD y) = (0, s4) ∧ s4.ok 80 ∧ ∀ j, j < 80 → j ≠ P → s4.page j = s.page j := by
  have e3 := FS.change_plain (f := erD) hv.1 hv.2 hP (Nat.le_refl 64)
  obtain ⟨s3, h3⟩ : ∃ s3, s3 = ({ s with pages := erD s.pages (P * 64) 64 } : FS) := ⟨_, rfl⟩
  rw [← h3] at e3
  have ok3 : s3.ok 80 := by
    have := er_ok (P : Int) 64 ok
    rw [e3] at this
    exact this
  have hv3 : live s3 := by rw [h3]; exact hv
  have p3 : ∀ j, j < 80 → j ≠ P → s3.page j = s.page j := fun j hj hne => by
    have := (change_at (f := erD) (F := erF) ok hv.1 hP (Nat.le_refl 64) (deals_er 80 64)).2 j hj hne
    rw [e3] at this
    exact this
  have e4 := FS.change_plain (f := prD y) hv3.1 hv3.2 hP (Nat.le_refl 64)
  obtain ⟨s4, h4⟩ : ∃ s4, s4 = ({ s3 with pages := prD y s3.pages (P * 64) 64 } : FS) := ⟨_, rfl⟩
  rw [← h4] at e4
  have ok4 : s4.ok 80 := by
    have := pr_ok (P : Int) 64 y ok3
    rw [e4] at this
    exact this
  refine ⟨s3, s4, e3, e4, ok4, fun j hj hne => ?_⟩
  have hd := deals_pr y 80
  rw [hy] at hd
  have := (change_at (f := prD y) (F := prF y) ok3 hv3.1 hP (Nat.le_refl 64) hd).2 j hj hne
  rw [e4] at this
  rw [this, p3 j hj hne]
theorem pErase_at {g p N : Nat} {s : FS} {w : World} (i : Int) (j : Nat) (hi : i = (j : Int)) (h : FlashAt w g p N s) :
    Calls Try.prog 24 #[.pointer (some ⟨g, 0, none⟩), .int .i64 i] w fun e w' => e = .returned (.int .i64 ((s.change N (j : Int) 64 erD).1 : Int)) ∧ Hid (FlashAt w' g p N (s.change N (j : Int) 64 erD).2) ∧ Hid (Chg (Two g p) w w') := by
  subst hi
  exact Erase_calls g p N s j w h
theorem pProgram_at {g p N nb cb : Nat} {s : FS} {B : Option Addr} {ys : List UInt8} {w : World} (i : Int) (j : Nat) (hi : i = (j : Int)) (h : FlashAt w g p N s) [hy : HR w B (bs ys)] (hyn : ys.length = nb) (hB : Apart (Two g p) B (bs ys)) (hn : nb ≤ 9223372036854775807) :
    Calls Try.prog 25 #[.pointer (some ⟨g, 0, none⟩), .int .i64 i, .slice B nb cb] w fun e w' => e = .returned (.int .i64 ((s.change N (j : Int) nb (prD ys)).1 : Int)) ∧ Hid (FlashAt w' g p N (s.change N (j : Int) nb (prD ys)).2) ∧ Hid (Chg (Two g p) w w') := by
  subst hi
  exact Program_calls g p N s j B nb cb ys w h hy.out hyn hB hn
/-- the reference's flash, into which so many pages were copied -/
def cpF (s : FS) : Nat → FS
  | 0 => FS.fresh 80
  | i + 1 => ((cpF s i).change 80 (i : Int) (s.page i).length (prD (s.page i))).2
theorem cpF_is (s : FS) (ok : s.ok 80) : ∀ i, i ≤ 80 → (cpF s i).ok 80 ∧ live (cpF s i) ∧ ∀ j, j < 80 → (cpF s i).page j = if j < i then s.page j else ones 64
  | 0, _ => ⟨FS.fresh_ok (by decide), fresh_live 80, fun j hj => by
    rw [if_neg (by omega)]
    exact fresh_page 80 j hj⟩
  | i + 1, hi => by
    obtain ⟨h1, h2, h3⟩ := cpF_is s ok i (by omega)
    have hl := page_len' ok (show i < 80 by omega)
    have e := FS.change_plain (N := 80) (f := prD (s.page i)) h2.1 h2.2 (show i < 80 by omega) (show (s.page i).length ≤ 64 by omega)
    have hc := change_at (f := prD (s.page i)) (F := prF (s.page i)) h1 h2.1 (show i < 80 by omega) (show (s.page i).length ≤ 64 by omega) (deals_pr (s.page i) 80)
    have ok' : (cpF s (i + 1)).ok 80 := pr_ok _ _ _ h1
    refine ⟨ok', by
      show live ((cpF s i).change 80 (i : Int) (s.page i).length (prD (s.page i))).2
      rw [e]
      exact h2, fun j hj => ?_⟩
    by_cases hji : j = i
    · subst hji
      rw [if_pos (by omega)]
      have h4 : (cpF s (j + 1)).page j = prF (s.page j) ((cpF s j).page j) (s.page j).length := by
        rcases hc.1 with ⟨_, _, c⟩ | ⟨c, _⟩
        · exact c
        · rw [e] at c
          cases c
      rw [h4, h3 j hj, if_neg (by omega)]
      unfold prF
      rw [List.take_length, fall_ones _ _ (by omega), hl]
      unfold ones
      rw [List.drop_replicate, Nat.sub_self, List.replicate_zero, List.append_nil]
    · have h4 := hc.2 j hj hji
      show ((cpF s i).change 80 (i : Int) (s.page i).length (prD (s.page i))).2.page j = _
      rw [h4, h3 j hj]
      by_cases h5 : j < i
      · rw [if_pos h5, if_pos (by omega)]
      · rw [if_neg h5, if_neg (by omega)]
theorem load_same {s t : FS} (oks : s.ok 80) (okt : t.ok 80) (h : ∀ j, j < 80 → t.page j = s.page j) : loadN 80 t = loadN 80 s := by
  have hs : ∀ i, i < 2 → slotB t i = slotB s i := fun i hi => slot_same (fun j _ hj => h j (by omega)) (slotB_len okt (by decide) i hi) (slotB_len oks (by decide) i hi)
  have hk : ∀ k, k ≤ 2 → bestK t k = bestK s k := by
    intro k
    induction k with
    | zero => intro _; rfl
    | succ k ih =>
      intro hk
      rw [bestK, bestK, hs k (by omega), ih (by omega)]
  have hb : bestS t = bestS s := hk 2 (Nat.le_refl _)
  unfold loadN
  rw [hb]
theorem load_one {s : FS} {a : List UInt8} (h : unpS (slotB s 0) = ⟨1, a, true⟩) (h1 : (loadN 80 s).2.1 = 1) : loadN 80 s = (a, 1, 0) := by
  have b1 : bestK s 1 = (0, 1, a) := by
    have h := bestK_up (s := s) (k := 0) (by rw [h]) (by rw [h]; exact Nat.succ_pos _)
    rw [‹unpS (slotB s 0) = _›] at h
    exact h
  have hn : (bestS s).2.1 = 1 := by
    unfold loadN at h1
    rw [if_neg (by decide)] at h1
    exact h1
  have hb : bestS s = (0, 1, a) := by
    unfold bestS at *
    by_cases ho : (unpS (slotB s 1)).ok = true
    · by_cases hlt : (bestK s 1).2.1 < (unpS (slotB s 1)).n
      · rw [bestK_up ho hlt] at hn
        rw [b1] at hlt
        have h1' : (unpS (slotB s 1)).n = 1 := hn
        have h2' : 1 < (unpS (slotB s 1)).n := hlt
        omega
      · rw [bestK_low hlt, b1]
    · rw [bestK_no (by simpa using ho), b1]
  unfold loadN
  rw [if_neg (by decide), hb]
  rfl
theorem load_zero {s : FS} (h1 : (loadN 80 s).2.1 = 0) : loadN 80 s = ([], 0, 9) := by
  have hn : (bestS s).2.1 = 0 := by
    unfold loadN at h1
    rw [if_neg (by decide)] at h1
    exact h1
  have hb : bestS s = (0, 0, []) := bestK_zero 2 hn
  unfold loadN
  rw [if_neg (by decide), hb]
  rfl
set_option maxRecDepth 100000 in
set_option maxHeartbeats 3200000 in
theorem slotSpoilt_calls {A B : Option Addr} {n c m d : Nat} {a b : List UInt8} (at' y : Int) (once : Bool) {w : World} [ha : HR w A (bs a)] [hb : HR w B (bs b)] (hl : a.length = n) (hm : b.length = m) (hn9 : n ≤ 9223372036854775807) (hm9 : m ≤ 9223372036854775807) :
    Calls Try.prog 4 #[.slice A n c, .slice B m d, .int .i64 at', .int .u8 y, .bool once] w fun e w' => e = .returned (.bool true) ∧ Chg nowhere w w' := by
  have HL := Lib.hid hl
  have HM := Lib.hid hm
  have HA0 := Lib.hid ha.out
  have HB0 := Lib.hid hb.out
  clear hl hm
  by_cases c1 : 300 < n
  · have c1I : 300 < (n : Int) := by omega
    go_enter Try.func4, Try.ntmps4
    go_wp2_with (first | go_skip | ((with_reducible apply (wpl_guard (op := .convert _ _ _))); (exact rfl)) | ((with_reducible apply wpl_loadrow); (exact rfl); infer_instance; infer_instance; (first | (with_reducible assumption) | (with_reducible exact H32.size _) | kernel_rfl)) | ((with_reducible apply wpl_loadcellN); (exact rfl); infer_instance; (exact rfl)) | ((with_reducible apply wpl_storerow); (exact rfl); (exact rfl); infer_instance; infer_instance; (first | (with_reducible assumption) | (with_reducible exact H32.size _) | kernel_rfl); (first | (with_reducible assumption) | (with_reducible exact H32.size _) | kernel_rfl); (first | (with_reducible exact u8s_one _) | (with_reducible assumption) | kernel_rfl); intro ws _ _) | ((with_reducible apply wpl_storecell); (exact rfl); (exact rfl); infer_instance; (exact rfl); (first | (with_reducible assumption) | omega | (focus (simp; done)) | (focus (simp; omega; done)) | decide); intro ws _ _))
    go_ret
    exact ⟨rfl, (stepN (w0 := w)).chg⟩
  have c1I : ¬ 300 < (n : Int) := by omega
  by_cases c2 : 300 < m
  · have c2I : 300 < (m : Int) := by omega
    go_enter Try.func4, Try.ntmps4
    go_wp2_with (first | go_skip | ((with_reducible apply (wpl_guard (op := .convert _ _ _))); (exact rfl)) | ((with_reducible apply wpl_loadrow); (exact rfl); infer_instance; infer_instance; (first | (with_reducible assumption) | (with_reducible exact H32.size _) | kernel_rfl)) | ((with_reducible apply wpl_loadcellN); (exact rfl); infer_instance; (exact rfl)) | ((with_reducible apply wpl_storerow); (exact rfl); (exact rfl); infer_instance; infer_instance; (first | (with_reducible assumption) | (with_reducible exact H32.size _) | kernel_rfl); (first | (with_reducible assumption) | (with_reducible exact H32.size _) | kernel_rfl); (first | (with_reducible exact u8s_one _) | (with_reducible assumption) | kernel_rfl); intro ws _ _) | ((with_reducible apply wpl_storecell); (exact rfl); (exact rfl); infer_instance; (exact rfl); (first | (with_reducible assumption) | omega | (focus (simp; done)) | (focus (simp; omega; done)) | decide); intro ws _ _))
    go_ret
    exact ⟨rfl, (stepN (w0 := w)).chg⟩
  have c2I : ¬ 300 < (m : Int) := by omega
  by_cases c3 : y = 0
  · have c3B : (y == 0) = true := by simp [c3]
    clear c3
    go_enter Try.func4, Try.ntmps4
    go_wp2_with (first | go_skip | ((with_reducible apply (wpl_guard (op := .convert _ _ _))); (exact rfl)) | ((with_reducible apply wpl_loadrow); (exact rfl); infer_instance; infer_instance; (first | (with_reducible assumption) | (with_reducible exact H32.size _) | kernel_rfl)) | ((with_reducible apply wpl_loadcellN); (exact rfl); infer_instance; (exact rfl)) | ((with_reducible apply wpl_storerow); (exact rfl); (exact rfl); infer_instance; infer_instance; (first | (with_reducible assumption) | (with_reducible exact H32.size _) | kernel_rfl); (first | (with_reducible assumption) | (with_reducible exact H32.size _) | kernel_rfl); (first | (with_reducible exact u8s_one _) | (with_reducible assumption) | kernel_rfl); intro ws _ _) | ((with_reducible apply wpl_storecell); (exact rfl); (exact rfl); infer_instance; (exact rfl); (first | (with_reducible assumption) | omega | (focus (simp; done)) | (focus (simp; omega; done)) | decide); intro ws _ _))
    go_ret
    exact ⟨rfl, (stepN (w0 := w)).chg⟩
  have c3B : (y == 0) = false := by simp [c3]
  clear c3
  obtain ⟨s1, s2, e1, ok1, l1, e2, ok2, l2, u2⟩ := two_live (a := a) (b := b) (by have := HL.out; omega) (by have := HM.out; omega)
  have E1 := Lib.hid e1
  have E2 := Lib.hid e2
  have OK1 := Lib.hid ok1
  have OK2 := Lib.hid ok2
  have L1 := Lib.hid l1
  have L2 := Lib.hid l2
  have U2 := Lib.hid u2
  have hp1 := packS_len 1 a
  have hp2 := packN_len 1 a (by have := HL.out; omega)
  have hp3 := packS_len 2 b
  have hp4 := packN_len 2 b (by have := HM.out; omega)
  have HP1 : Hid ((packS 1 a).length ≤ 350 ∧ 32 ≤ (packS 1 a).length) := Lib.hid (by have := HL.out; have := packS_pos 1 a; omega)
  have HP2 : Hid ((packS 2 b).length ≤ 350 ∧ 32 ≤ (packS 2 b).length) := Lib.hid (by have := HM.out; have := packS_pos 2 b; omega)
  obtain ⟨q0, hq0, _⟩ := and_lowS at'
  have HAND := Lib.hid hq0
  clear e1 e2 ok1 ok2 l1 l2 u2 hp1 hp2 hp3 hp4 hq0
  go_enter Try.func4, Try.ntmps4
  go_wp2_with (first | go_skip | ((with_reducible apply (wpl_guard (op := .convert _ _ _))); (exact rfl)) | ((with_reducible apply wpl_loadrow); (exact rfl); infer_instance; infer_instance; (first | (with_reducible assumption) | (with_reducible exact H32.size _) | kernel_rfl)) | ((with_reducible apply wpl_loadcellN); (exact rfl); infer_instance; (exact rfl)) | ((with_reducible apply wpl_storerow); (exact rfl); (exact rfl); infer_instance; infer_instance; (first | (with_reducible assumption) | (with_reducible exact H32.size _) | kernel_rfl); (first | (with_reducible assumption) | (with_reducible exact H32.size _) | kernel_rfl); (first | (with_reducible exact u8s_one _) | (with_reducible assumption) | kernel_rfl); intro ws _ _) | ((with_reducible apply wpl_storecell); (exact rfl); (exact rfl); infer_instance; (exact rfl); (first | (with_reducible assumption) | omega | (focus (simp; done)) | (focus (simp; omega; done)) | decide); intro ws _ _))
  refine (New_calls 80 _ (by decide) (by decide)).mono ?_
  rintro e w2 ⟨g, p, rfl, hF, hc2, hg, hp⟩
  have st2 : Step nowhere _ w2 := ⟨hc2.out⟩
  have hg' : w.heap.size ≤ g := Nat.le_trans (inferInstance : SzLe w _).out hg
  have hp' : w.heap.size ≤ p := Nat.le_trans (inferInstance : SzLe w _).out hp
  have ab2 : Above w (Two g p) := ⟨fun k h => by
    rcases h with h | h
    · rw [h]; exact hg'
    · rw [h]; exact hp'⟩
  have HF2 := hF
  clear hF hc2 hg hp
  go_wp2_with (first | go_skip | ((with_reducible apply (wpl_guard (op := .convert _ _ _))); (exact rfl)) | ((with_reducible apply wpl_loadrow); (exact rfl); infer_instance; infer_instance; (first | (with_reducible assumption) | (with_reducible exact H32.size _) | kernel_rfl)) | ((with_reducible apply wpl_loadcellN); (exact rfl); infer_instance; (exact rfl)) | ((with_reducible apply wpl_storerow); (exact rfl); (exact rfl); infer_instance; infer_instance; (first | (with_reducible assumption) | (with_reducible exact H32.size _) | kernel_rfl); (first | (with_reducible assumption) | (with_reducible exact H32.size _) | kernel_rfl); (first | (with_reducible exact u8s_one _) | (with_reducible assumption) | kernel_rfl); intro ws _ _) | ((with_reducible apply wpl_storecell); (exact rfl); (exact rfl); infer_instance; (exact rfl); (first | (with_reducible assumption) | omega | (focus (simp; done)) | (focus (simp; omega; done)) | decide); intro ws _ _))
  refine (pSave_calls (b := a) HF2.out HL.out hn9).mono ?_
  rw [E1.out]
  rintro e w3 ⟨rfl, HF3, _⟩
  have n3 : Nw w w3 := inferInstance
  have ha3 : HR w3 A (bs a) := ⟨HA0.out.later n3.out⟩
  go_wp2_with (first | go_skip | ((with_reducible apply (wpl_guard (op := .convert _ _ _))); (exact rfl)) | ((with_reducible apply wpl_loadrow); (exact rfl); infer_instance; infer_instance; (first | (with_reducible assumption) | (with_reducible exact H32.size _) | kernel_rfl)) | ((with_reducible apply wpl_loadcellN); (exact rfl); infer_instance; (exact rfl)) | ((with_reducible apply wpl_storerow); (exact rfl); (exact rfl); infer_instance; infer_instance; (first | (with_reducible assumption) | (with_reducible exact H32.size _) | kernel_rfl); (first | (with_reducible assumption) | (with_reducible exact H32.size _) | kernel_rfl); (first | (with_reducible exact u8s_one _) | (with_reducible assumption) | kernel_rfl); intro ws _ _) | ((with_reducible apply wpl_storecell); (exact rfl); (exact rfl); infer_instance; (exact rfl); (first | (with_reducible assumption) | omega | (focus (simp; done)) | (focus (simp; omega; done)) | decide); intro ws _ _))
  refine (refPack_calls (b := a) 1 HL.out (by omega)).mono ?_
  obtain ⟨Z1, hZ1⟩ : ∃ Z1, Z1 = (packS 1 a).length := ⟨_, rfl⟩
  rintro e w4 ⟨A4, n4', c4, rfl, hl4, _, _⟩
  have hZ : n4' ≤ 350 ∧ 32 ≤ n4' := by rw [← hl4]; exact HP1.out
  have HF4 : Hid (FlashAt w4 g p 80 s1) := Lib.hid (FlashAt.nw HF3.out)
  have n4 : Nw w w4 := inferInstance
  clear hl4 hZ1
  cases once
  case true =>
    obtain ⟨Z, hZ0⟩ : ∃ Z, Z = n4' := ⟨_, rfl⟩
    rw [← hZ0] at hZ ⊢
    clear hZ0
    have hFF : ∃ s, Hid (FlashAt w4 g p 80 s) ∧ Hid (s.ok 80) ∧ Hid (live s) ∧ Hid (true = false → unpS (slotB s 0) = ⟨1, a, true⟩) := ⟨s1, HF4, OK1, L1, Lib.hid (fun h => by cases h)⟩
    obtain ⟨s, HF5, OK5, L5, U5⟩ := hFF
    obtain ⟨j, hj⟩ : ∃ j, j = q0 % Z := ⟨_, rfl⟩
    have hjZ : j < Z := by rw [hj]; exact Nat.mod_lt _ (by omega)
    have hrem : (bits .and .i64 at' 65535).tmod (Z : Int) = (j : Int) := by rw [HAND.out, hj]; exact (Int.ofNat_tmod q0 Z).symm
    obtain ⟨v, hv⟩ : ∃ v, v = j / 64 := ⟨_, rfl⟩
    obtain ⟨o, ho⟩ : ∃ o, o = j % 64 := ⟨_, rfl⟩
    have hv5 : v ≤ 5 := by rw [hv]; omega
    have ho64 : o < 64 := by rw [ho]; exact Nat.mod_lt _ (by decide)
    have hquo : (j : Int).tdiv 64 = (v : Int) := by rw [hv]; exact (Int.ofNat_tdiv j 64).symm
    have hre2 : (j : Int).tmod 64 = (o : Int) := by rw [ho]; exact (Int.ofNat_tmod j 64).symm
    have hZ0 : ¬ Z = 0 := by omega
    obtain ⟨P, hP⟩ : ∃ P : Nat, P = 0 + v := ⟨_, rfl⟩
    have hP80 : P < 80 := by omega
    obtain ⟨hgl, hpl⟩ := HF5.out.lts
    have HPL := Lib.hid (page_len' OK5.out hP80)
    clear hj hv ho
    go_wp2_with (first | go_skip | ((with_reducible apply (wpl_guard (op := .convert _ _ _))); (exact rfl)) | ((with_reducible apply wpl_loadrow); (exact rfl); infer_instance; infer_instance; (first | (with_reducible assumption) | (with_reducible exact H32.size _) | kernel_rfl)) | ((with_reducible apply wpl_loadcellN); (exact rfl); infer_instance; (exact rfl)) | ((with_reducible apply wpl_storerow); (exact rfl); (exact rfl); infer_instance; infer_instance; (first | (with_reducible assumption) | (with_reducible exact H32.size _) | kernel_rfl); (first | (with_reducible assumption) | (with_reducible exact H32.size _) | kernel_rfl); (first | (with_reducible exact u8s_one _) | (with_reducible assumption) | kernel_rfl); intro ws _ _) | ((with_reducible apply wpl_storecell); (exact rfl); (exact rfl); infer_instance; (exact rfl); (first | (with_reducible assumption) | omega | (focus (simp; done)) | (focus (simp; omega; done)) | decide); intro ws _ _))
    refine (Read_at g p 80 s _ P _ HF5.out (by omega) hP80).mono ?_
    obtain ⟨pg, hpg⟩ : ∃ pg, pg = s.page P := ⟨_, rfl⟩
    rw [← hpg] at HPL ⊢
    clear hpg
    rintro e w7 ⟨R, rc, rfl, hR, _, hnR⟩
    have oR : OffA (Two g p) R := ⟨fun ad e hk => by
      have h1 := hnR.out ad e
      rcases hk with hk | hk <;> omega⟩
    have n7 : Nw w w7 := inferInstance
    have hrR : HR w7 R (bs pg) := ⟨hR.out.rd⟩
    have hbl : 0 < (bs pg).length := by rw [bs_length, HPL.out]; decide
    obtain ⟨u, hu⟩ : ∃ u : UInt8, (bs pg)[o]? = some (.int .u8 (u.toNat : Int)) := ⟨pg[o]'(by rw [HPL.out]; exact ho64), by simp [bs, u8v, HPL.out, ho64]⟩
    obtain ⟨x, hx⟩ : ∃ x, x = bits .xor .u8 (u.toNat : Int) y := ⟨_, rfl⟩
    have hx0 : 0 ≤ x ∧ x < 256 := by rw [hx]; exact xor_u8_in _ _
    have hxe : bits .xor .u8 (u.toNat : Int) y = x := hx.symm
    have hop : o < pg.length := by rw [HPL.out]; exact ho64
    have HF7 : Hid (FlashAt w7 g p 80 s) := Lib.hid (FlashAt.nw HF5.out)
    have aR : Above w (rowOf R) := by
      have nmw : NewA w R := NewA.monoS hnR
      have := NewA.mono (w0 := w) nmw
      infer_instance
    clear hx
    go_wp2_with (first | go_skip | ((with_reducible apply wpl_index1); (exact rfl); (exact rfl); infer_instance; (exact hrR); (exact hbl); (exact ho64)) | ((with_reducible apply wpl_load1); (exact rfl); (exact hrR); infer_instance; (exact hu)) | ((with_reducible apply wpl_storeB); (exact rfl); (exact rfl); infer_instance; (exact hop); (exact hx0); intro ws _ hO8) | ((with_reducible apply (wpl_guard (op := .convert _ _ _))); (exact rfl)) | ((with_reducible apply wpl_loadrow); (exact rfl); infer_instance; infer_instance; (first | (with_reducible assumption) | (with_reducible exact H32.size _) | kernel_rfl)) | ((with_reducible apply wpl_loadcellN); (exact rfl); infer_instance; (exact rfl)) | ((with_reducible apply wpl_storerow); (exact rfl); (exact rfl); infer_instance; infer_instance; (first | (with_reducible assumption) | (with_reducible exact H32.size _) | kernel_rfl); (first | (with_reducible assumption) | (with_reducible exact H32.size _) | kernel_rfl); (first | (with_reducible exact u8s_one _) | (with_reducible assumption) | kernel_rfl); intro ws _ _) | ((with_reducible apply wpl_storecell); (exact rfl); (exact rfl); infer_instance; (exact rfl); (first | (with_reducible assumption) | omega | (focus (simp; done)) | (focus (simp; omega; done)) | decide); intro ws _ _))
    obtain ⟨yy, hyy⟩ : ∃ yy, yy = pg.set o (b8 x) := ⟨_, rfl⟩
    rw [← hyy] at hO8
    have HYL : Hid (yy.length = 64) := Lib.hid (by rw [hyy, List.length_set, HPL.out])
    have HF8 : Hid (FlashAt ws g p 80 s) := Lib.hid (HF7.out.chg (inferInstance : Step (rowOf R) w7 ws).chg (fun ⟨ad, e, h⟩ => oR.out ad e (.inl h)) (fun ⟨ad, e, h⟩ => oR.out ad e (.inr h)))
    have n8 : Nw w ws := inferInstance
    obtain ⟨s3, s4, e3, e4, ok4, p4⟩ := spoil_state OK5.out L5.out P hP80 yy HYL.out
    have E3 := Lib.hid e3
    have E4 := Lib.hid e4
    have OK4 := Lib.hid ok4
    have P4 := Lib.hid p4
    clear hyy e3 e4 ok4 p4 hxe hu hrR hR HF7
    go_wp2_with (first | go_skip | ((with_reducible apply (wpl_guard (op := .convert _ _ _))); (exact rfl)) | ((with_reducible apply wpl_loadrow); (exact rfl); infer_instance; infer_instance; (first | (with_reducible assumption) | (with_reducible exact H32.size _) | kernel_rfl)) | ((with_reducible apply wpl_loadcellN); (exact rfl); infer_instance; (exact rfl)) | ((with_reducible apply wpl_storerow); (exact rfl); (exact rfl); infer_instance; infer_instance; (first | (with_reducible assumption) | (with_reducible exact H32.size _) | kernel_rfl); (first | (with_reducible assumption) | (with_reducible exact H32.size _) | kernel_rfl); (first | (with_reducible exact u8s_one _) | (with_reducible assumption) | kernel_rfl); intro ws _ _) | ((with_reducible apply wpl_storecell); (exact rfl); (exact rfl); infer_instance; (exact rfl); (first | (with_reducible assumption) | omega | (focus (simp; done)) | (focus (simp; omega; done)) | decide); intro ws _ _))
    refine (pErase_at _ P (by omega) HF8.out).mono ?_
    rw [E3.out]
    rintro e w9 ⟨rfl, h9, c9⟩
    have st9 : Step (Two g p) _ w9 := ⟨c9.out⟩
    have n9 : Nw w w9 := inferInstance
    have hr9 : HR w9 R (bs yy) := inferInstance
    clear c9
    go_wp2_with (first | go_skip | ((with_reducible apply (wpl_guard (op := .convert _ _ _))); (exact rfl)) | ((with_reducible apply wpl_loadrow); (exact rfl); infer_instance; infer_instance; (first | (with_reducible assumption) | (with_reducible exact H32.size _) | kernel_rfl)) | ((with_reducible apply wpl_loadcellN); (exact rfl); infer_instance; (exact rfl)) | ((with_reducible apply wpl_storerow); (exact rfl); (exact rfl); infer_instance; infer_instance; (first | (with_reducible assumption) | (with_reducible exact H32.size _) | kernel_rfl); (first | (with_reducible assumption) | (with_reducible exact H32.size _) | kernel_rfl); (first | (with_reducible exact u8s_one _) | (with_reducible assumption) | kernel_rfl); intro ws _ _) | ((with_reducible apply wpl_storecell); (exact rfl); (exact rfl); infer_instance; (exact rfl); (first | (with_reducible assumption) | omega | (focus (simp; done)) | (focus (simp; omega; done)) | decide); intro ws _ _))
    refine (pProgram_at _ P (by omega) h9.out HYL.out (fun _ ad e => oR.out ad e) (by decide)).mono ?_
    rw [E4.out]
    rintro e w10 ⟨rfl, h10, c10⟩
    have st10 : Step (Two g p) _ w10 := ⟨c10.out⟩
    have n10 : Nw w w10 := inferInstance
    have HF10 := h10
    clear c10 h10 h9
    go_wp2_with (first | go_skip | ((with_reducible apply (wpl_guard (op := .convert _ _ _))); (exact rfl)) | ((with_reducible apply wpl_loadrow); (exact rfl); infer_instance; infer_instance; (first | (with_reducible assumption) | (with_reducible exact H32.size _) | kernel_rfl)) | ((with_reducible apply wpl_loadcellN); (exact rfl); infer_instance; (exact rfl)) | ((with_reducible apply wpl_storerow); (exact rfl); (exact rfl); infer_instance; infer_instance; (first | (with_reducible assumption) | (with_reducible exact H32.size _) | kernel_rfl); (first | (with_reducible assumption) | (with_reducible exact H32.size _) | kernel_rfl); (first | (with_reducible exact u8s_one _) | (with_reducible assumption) | kernel_rfl); intro ws _ _) | ((with_reducible apply wpl_storecell); (exact rfl); (exact rfl); infer_instance; (exact rfl); (first | (with_reducible assumption) | omega | (focus (simp; done)) | (focus (simp; omega; done)) | decide); intro ws _ _))
    refine (rfNew_calls 80 80 (by decide) _).mono ?_
    rintro e w11 ⟨xf, T, rfl, hX, _, hT⟩
    have HTW : Hid (∀ k, T k → w.heap.size ≤ k) := Lib.hid (fun k hk => Nat.le_trans (inferInstance : SzLe w w10).out (hT k hk).1)
    have abT : Above w T := ⟨HTW.out⟩
    have hlt10 := HF10.out.lts
    have HTg : Hid (¬ T g) := Lib.hid (fun h => absurd hlt10.1 (Nat.not_lt.2 (hT g h).1))
    have HTp : Hid (¬ T p) := Lib.hid (fun h => absurd hlt10.2 (Nat.not_lt.2 (hT p h).1))
    have HTL : Hid (∀ k, T k → k < w11.heap.size) := Lib.hid (fun k hk => (hT k hk).2)
    have HF11 : Hid (FlashAt w11 g p 80 s4) := Lib.hid (FlashAt.nw HF10.out)
    have HX11 : Hid (∃ r, RF w11 xf T r ∧ Rel (cpF s4 0) r 80) := Lib.hid ⟨_, hX, Rel.fresh 80⟩
    have n11 : Nw w w11 := inferInstance
    have HCP := Lib.hid (cpF_is s4 OK4.out)
    have ab3 : Above w11 nowhere := ⟨fun _ h => h.elim⟩
    clear hX hT hlt10 hgl hpl
    go_wp2_with (first | go_skip | ((with_reducible apply (wpl_guard (op := .convert _ _ _))); (exact rfl)) | ((with_reducible apply wpl_loadrow); (exact rfl); infer_instance; infer_instance; (first | (with_reducible assumption) | (with_reducible exact H32.size _) | kernel_rfl)) | ((with_reducible apply wpl_loadcellN); (exact rfl); infer_instance; (exact rfl)) | ((with_reducible apply wpl_storerow); (exact rfl); (exact rfl); infer_instance; infer_instance; (first | (with_reducible assumption) | (with_reducible exact H32.size _) | kernel_rfl); (first | (with_reducible assumption) | (with_reducible exact H32.size _) | kernel_rfl); (first | (with_reducible exact u8s_one _) | (with_reducible assumption) | kernel_rfl); intro ws _ _) | ((with_reducible apply wpl_storecell); (exact rfl); (exact rfl); infer_instance; (exact rfl); (first | (with_reducible assumption) | omega | (focus (simp; done)) | (focus (simp; omega; done)) | decide); intro ws _ _))
    go_loopw [18] (fun iv wr => ∃ i : Nat, i ≤ 80 ∧ iv = .int .i64 (i : Int) ∧ Nw w wr ∧ Step T w11 wr ∧ Hid (∃ r, RF wr xf T r ∧ Rel (cpF s4 i) r 80)) (fun iv _ => 80 - (intOf iv).toNat)
    case atStart => exact ⟨0, Nat.zero_le _, rfl, inferInstance, ⟨Chg.refl _ _⟩, HX11⟩
    case round =>
      obtain ⟨i, hi, rfl, nr, sr, HXr⟩ := hrel
      clear HX11
      have HFr : Hid (FlashAt wr g p 80 s4) := Lib.hid (HF11.out.chg sr.chg HTg.out HTp.out)
      by_cases hlt : i < 80
      · have hltI : (i : Int) < 80 := by omega
        have HPI := Lib.hid (page_len' OK4.out hlt)
        have HCI := Lib.hid ((HCP.out i hi).1)
        obtain ⟨r, hX, hR⟩ := HXr.out
        have HX := Lib.hid hX
        have HRel := Lib.hid hR
        have hnx : cpF s4 (i + 1) = ((cpF s4 i).change 80 (i : Int) (s4.page i).length (prD (s4.page i))).2 := rfl
        have HNX := Lib.hid hnx
        clear hX hR hnx
        go_wp2_with (first | go_skip | ((with_reducible apply (wpl_guard (op := .convert _ _ _))); (exact rfl)) | ((with_reducible apply wpl_loadrow); (exact rfl); infer_instance; infer_instance; (first | (with_reducible assumption) | (with_reducible exact H32.size _) | kernel_rfl)) | ((with_reducible apply wpl_loadcellN); (exact rfl); infer_instance; (exact rfl)) | ((with_reducible apply wpl_storerow); (exact rfl); (exact rfl); infer_instance; infer_instance; (first | (with_reducible assumption) | (with_reducible exact H32.size _) | kernel_rfl); (first | (with_reducible assumption) | (with_reducible exact H32.size _) | kernel_rfl); (first | (with_reducible exact u8s_one _) | (with_reducible assumption) | kernel_rfl); intro ws _ _) | ((with_reducible apply wpl_storecell); (exact rfl); (exact rfl); infer_instance; (exact rfl); (first | (with_reducible assumption) | omega | (focus (simp; done)) | (focus (simp; omega; done)) | decide); intro ws _ _))
        refine (Read_at g p 80 s4 _ i _ HFr.out rfl hlt).mono ?_
        obtain ⟨pi, hpi⟩ : ∃ pi, pi = s4.page i := ⟨_, rfl⟩
        rw [← hpi] at HPI HNX ⊢
        clear hpi
        rintro e w12 ⟨R2, rc2, rfl, hR2, _, hnR2⟩
        have hr2 : HR w12 R2 (bs pi) := ⟨hR2.out.rd⟩
        have HAP : Hid (Apart T R2 (bs pi)) := Lib.hid (fun _ ad e hk => by
          have h1 := hnR2.out ad e
          have h2 := HTL.out _ hk
          have h3 := sr.chg.size
          omega)
        go_wp2_with (first | go_skip | ((with_reducible apply (wpl_guard (op := .convert _ _ _))); (exact rfl)) | ((with_reducible apply wpl_loadrow); (exact rfl); infer_instance; infer_instance; (first | (with_reducible assumption) | (with_reducible exact H32.size _) | kernel_rfl)) | ((with_reducible apply wpl_loadcellN); (exact rfl); infer_instance; (exact rfl)) | ((with_reducible apply wpl_storerow); (exact rfl); (exact rfl); infer_instance; infer_instance; (first | (with_reducible assumption) | (with_reducible exact H32.size _) | kernel_rfl); (first | (with_reducible assumption) | (with_reducible exact H32.size _) | kernel_rfl); (first | (with_reducible exact u8s_one _) | (with_reducible assumption) | kernel_rfl); intro ws _ _) | ((with_reducible apply wpl_storecell); (exact rfl); (exact rfl); infer_instance; (exact rfl); (first | (with_reducible assumption) | omega | (focus (simp; done)) | (focus (simp; omega; done)) | decide); intro ws _ _))
        refine (rProg_at _ i rfl (RF.nw HX.out) HRel.out HCI.out HPI.out HAP.out (by decide)).mono ?_
        rw [← HNX.out]
        rintro e w13 ⟨rfl, H13, s13⟩
        have n13 : Nw w w13 := inferInstance
        have sw13 : Step T w11 w13 := ⟨(sr.chg.trans (inferInstance : Step nowhere wr w12).chg (fun _ _ h => h.elim)).trans s13.chg (fun _ _ h => h)⟩
        go_wp2_with (first | go_skip | ((with_reducible apply (wpl_guard (op := .convert _ _ _))); (exact rfl)) | ((with_reducible apply wpl_loadrow); (exact rfl); infer_instance; infer_instance; (first | (with_reducible assumption) | (with_reducible exact H32.size _) | kernel_rfl)) | ((with_reducible apply wpl_loadcellN); (exact rfl); infer_instance; (exact rfl)) | ((with_reducible apply wpl_storerow); (exact rfl); (exact rfl); infer_instance; infer_instance; (first | (with_reducible assumption) | (with_reducible exact H32.size _) | kernel_rfl); (first | (with_reducible assumption) | (with_reducible exact H32.size _) | kernel_rfl); (first | (with_reducible exact u8s_one _) | (with_reducible assumption) | kernel_rfl); intro ws _ _) | ((with_reducible apply wpl_storecell); (exact rfl); (exact rfl); infer_instance; (exact rfl); (first | (with_reducible assumption) | omega | (focus (simp; done)) | (focus (simp; omega; done)) | decide); intro ws _ _))
        exact ⟨⟨i + 1, by omega, by go_num, inferInstance, sw13, H13⟩, by simp [intOf]; omega⟩
      · have hltI : ¬ (i : Int) < 80 := by omega
        obtain rfl : i = 80 := by omega
        obtain ⟨r, hX, hR⟩ := HXr.out
        obtain ⟨C, hC⟩ : ∃ C, C = cpF s4 80 := ⟨_, rfl⟩
        have hcp := HCP.out 80 (Nat.le_refl _)
        have hld : loadN 80 C = loadN 80 s4 := by
          rw [hC]
          exact load_same OK4.out hcp.1 (fun j hj => by rw [hcp.2.2 j hj, if_pos hj])
        have hokC : C.ok 80 := by rw [hC]; exact hcp.1
        rw [← hC] at hR
        obtain ⟨Q, hQ⟩ : ∃ Q, Q = loadN 80 s4 := ⟨_, rfl⟩
        have h0 : Q.2.1 = 0 → Q = ([], 0, 9) := fun h => by rw [hQ] at h ⊢; exact load_zero h
        have h1 : true = false → Q.2.1 = 1 → Q = (a, 1, 0) := fun hu h => by
          cases hu
        rw [← hQ] at hld
        have HQ := Lib.hid hQ
        have HX := Lib.hid hX
        have HRel := Lib.hid hR
        have HLD := Lib.hid hld
        have HOKC := Lib.hid hokC
        have H0 := Lib.hid h0
        have H1 := Lib.hid h1
        clear hX hR hC hcp hld hokC hQ h0 h1 HCP
        go_wp2_with (first | go_skip | ((with_reducible apply (wpl_guard (op := .convert _ _ _))); (exact rfl)) | ((with_reducible apply wpl_loadrow); (exact rfl); infer_instance; infer_instance; (first | (with_reducible assumption) | (with_reducible exact H32.size _) | kernel_rfl)) | ((with_reducible apply wpl_loadcellN); (exact rfl); infer_instance; (exact rfl)) | ((with_reducible apply wpl_storerow); (exact rfl); (exact rfl); infer_instance; infer_instance; (first | (with_reducible assumption) | (with_reducible exact H32.size _) | kernel_rfl); (first | (with_reducible assumption) | (with_reducible exact H32.size _) | kernel_rfl); (first | (with_reducible exact u8s_one _) | (with_reducible assumption) | kernel_rfl); intro ws _ _) | ((with_reducible apply wpl_storecell); (exact rfl); (exact rfl); infer_instance; (exact rfl); (first | (with_reducible assumption) | omega | (focus (simp; done)) | (focus (simp; omega; done)) | decide); intro ws _ _))
        refine (rLoad_calls HX.out HRel.out HOKC.out).mono ?_
        rw [HLD.out]
        unfold LoadQ
        rintro e w14 ⟨B14, m14, d14, rfl, hm14, hd14, hB14, hnB14, _⟩
        have n14 : Nw w w14 := inferInstance
        have HF14 : Hid (FlashAt w14 g p 80 s4) := Lib.hid (FlashAt.nw HFr.out)
        by_cases hNN : Q.2.1 = 0
        · have hQe := H0.out hNN
          have hNB : ((Q.2.1 : Int) != 0) = false := by simp [hNN]
          clear hNN
          go_wp2_with (first | go_skip | ((with_reducible apply (wpl_guard (op := .convert _ _ _))); (exact rfl)) | ((with_reducible apply wpl_loadrow); (exact rfl); infer_instance; infer_instance; (first | (with_reducible assumption) | (with_reducible exact H32.size _) | kernel_rfl)) | ((with_reducible apply wpl_loadcellN); (exact rfl); infer_instance; (exact rfl)) | ((with_reducible apply wpl_storerow); (exact rfl); (exact rfl); infer_instance; infer_instance; (first | (with_reducible assumption) | (with_reducible exact H32.size _) | kernel_rfl); (first | (with_reducible assumption) | (with_reducible exact H32.size _) | kernel_rfl); (first | (with_reducible exact u8s_one _) | (with_reducible assumption) | kernel_rfl); intro ws _ _) | ((with_reducible apply wpl_storecell); (exact rfl); (exact rfl); infer_instance; (exact rfl); (first | (with_reducible assumption) | omega | (focus (simp; done)) | (focus (simp; omega; done)) | decide); intro ws _ _))
          refine (pLoad_calls HF14.out).mono ?_
          rw [← HQ.out]
          unfold LoadQ
          rintro e w15 ⟨B15, m15, d15, rfl, hm15, hd15, hB15, hnB15, _⟩
          subst hQe
          have n15 : Nw w w15 := inferInstance
          have ha15 : HR w15 A (bs a) := ⟨HA0.out.later n15.out⟩
          have hla : a.length = n := HL.out
          have hse : ((strL a).toList == (strL a).toList) = true := by simp
          have hm15' : m15 = 0 := hm15.symm
          subst hm15'
          go_wp2_with (first | go_skip | ((with_reducible apply (wpl_guard (op := .convert _ _ _))); (exact rfl)) | ((with_reducible apply wpl_loadrow); (exact rfl); infer_instance; infer_instance; (first | (with_reducible assumption) | (with_reducible exact H32.size _) | kernel_rfl)) | ((with_reducible apply wpl_loadcellN); (exact rfl); infer_instance; (exact rfl)) | ((with_reducible apply wpl_storerow); (exact rfl); (exact rfl); infer_instance; infer_instance; (first | (with_reducible assumption) | (with_reducible exact H32.size _) | kernel_rfl); (first | (with_reducible assumption) | (with_reducible exact H32.size _) | kernel_rfl); (first | (with_reducible exact u8s_one _) | (with_reducible assumption) | kernel_rfl); intro ws _ _) | ((with_reducible apply wpl_storecell); (exact rfl); (exact rfl); infer_instance; (exact rfl); (first | (with_reducible assumption) | omega | (focus (simp; done)) | (focus (simp; omega; done)) | decide); intro ws _ _) | ((with_reducible apply wpl_indexH); (exact rfl); (exact rfl); infer_instance; infer_instance; (first | (with_reducible assumption) | omega); (first | (with_reducible assumption) | omega); (first | (with_reducible assumption) | omega)) | ((with_reducible apply wpl_indexH'); (exact rfl); (exact rfl); infer_instance; infer_instance; (first | (with_reducible assumption) | omega); (first | (with_reducible assumption) | omega); (first | (with_reducible assumption) | omega)) | ((with_reducible apply (wpl_loadhash (t := 52))); (exact rfl); infer_instance; infer_instance; (first | (with_reducible assumption) | omega)) | ((with_reducible apply (wpl_storehash (t := 52))); (exact rfl); (exact rfl); infer_instance; infer_instance; (first | (with_reducible assumption) | omega | (focus (simp; done)) | (focus (simp; omega; done)) | decide); intro ws _ _) | ((with_reducible apply wpl_conv); (exact rfl); infer_instance; (first | (with_reducible assumption) | (focus (simp; done)) | omega); (exact Try.underlying22); (exact Try.underlying5); (exact Try.underlying9)) | ((with_reducible apply (wpl_loadint (t := 3))); (exact rfl); infer_instance; infer_instance; (first | (with_reducible assumption) | omega)) | ((with_reducible apply (wpl_loadbyte (t := 5))); (exact rfl); infer_instance; infer_instance; (first | (with_reducible assumption) | omega)) | ((with_reducible apply (wpl_storeint (t := 3))); (exact rfl); (exact rfl); infer_instance; (first | (with_reducible assumption) | omega); intro ws _ _) | ((with_reducible apply (wpl_storebyte (t := 5))); (exact rfl); (exact rfl); infer_instance; (first | (with_reducible assumption) | omega | (focus (simp; done)) | (focus (simp; omega; done)) | decide); (constructor <;> omega); intro ws _ _))
          refine (slKnown_calls _).mono ?_
          rintro e w16 ⟨rfl, _⟩
          go_wp2_with (first | go_skip | ((with_reducible apply (wpl_guard (op := .convert _ _ _))); (exact rfl)) | ((with_reducible apply wpl_loadrow); (exact rfl); infer_instance; infer_instance; (first | (with_reducible assumption) | (with_reducible exact H32.size _) | kernel_rfl)) | ((with_reducible apply wpl_loadcellN); (exact rfl); infer_instance; (exact rfl)) | ((with_reducible apply wpl_storerow); (exact rfl); (exact rfl); infer_instance; infer_instance; (first | (with_reducible assumption) | (with_reducible exact H32.size _) | kernel_rfl); (first | (with_reducible assumption) | (with_reducible exact H32.size _) | kernel_rfl); (first | (with_reducible exact u8s_one _) | (with_reducible assumption) | kernel_rfl); intro ws _ _) | ((with_reducible apply wpl_storecell); (exact rfl); (exact rfl); infer_instance; (exact rfl); (first | (with_reducible assumption) | omega | (focus (simp; done)) | (focus (simp; omega; done)) | decide); intro ws _ _))
          go_ret
          exact ⟨rfl, (inferInstance : Nw w _).out⟩
        · have hNB : ((Q.2.1 : Int) != 0) = true := by simp; omega
          clear hNN
          go_wp2_with (first | go_skip | ((with_reducible apply (wpl_guard (op := .convert _ _ _))); (exact rfl)) | ((with_reducible apply wpl_loadrow); (exact rfl); infer_instance; infer_instance; (first | (with_reducible assumption) | (with_reducible exact H32.size _) | kernel_rfl)) | ((with_reducible apply wpl_loadcellN); (exact rfl); infer_instance; (exact rfl)) | ((with_reducible apply wpl_storerow); (exact rfl); (exact rfl); infer_instance; infer_instance; (first | (with_reducible assumption) | (with_reducible exact H32.size _) | kernel_rfl); (first | (with_reducible assumption) | (with_reducible exact H32.size _) | kernel_rfl); (first | (with_reducible exact u8s_one _) | (with_reducible assumption) | kernel_rfl); intro ws _ _) | ((with_reducible apply wpl_storecell); (exact rfl); (exact rfl); infer_instance; (exact rfl); (first | (with_reducible assumption) | omega | (focus (simp; done)) | (focus (simp; omega; done)) | decide); intro ws _ _))
          refine (slKnown_calls _).mono ?_
          rintro e w16 ⟨rfl, _⟩
          go_wp2_with (first | go_skip | ((with_reducible apply (wpl_guard (op := .convert _ _ _))); (exact rfl)) | ((with_reducible apply wpl_loadrow); (exact rfl); infer_instance; infer_instance; (first | (with_reducible assumption) | (with_reducible exact H32.size _) | kernel_rfl)) | ((with_reducible apply wpl_loadcellN); (exact rfl); infer_instance; (exact rfl)) | ((with_reducible apply wpl_storerow); (exact rfl); (exact rfl); infer_instance; infer_instance; (first | (with_reducible assumption) | (with_reducible exact H32.size _) | kernel_rfl); (first | (with_reducible assumption) | (with_reducible exact H32.size _) | kernel_rfl); (first | (with_reducible exact u8s_one _) | (with_reducible assumption) | kernel_rfl); intro ws _ _) | ((with_reducible apply wpl_storecell); (exact rfl); (exact rfl); infer_instance; (exact rfl); (first | (with_reducible assumption) | omega | (focus (simp; done)) | (focus (simp; omega; done)) | decide); intro ws _ _))
          go_ret
          exact ⟨rfl, (inferInstance : Nw w _).out⟩
  case false =>
    have hb4 : HR w4 B (bs b) := ⟨HB0.out.later n4.out⟩
    go_wp2_with (first | go_skip | ((with_reducible apply (wpl_guard (op := .convert _ _ _))); (exact rfl)) | ((with_reducible apply wpl_loadrow); (exact rfl); infer_instance; infer_instance; (first | (with_reducible assumption) | (with_reducible exact H32.size _) | kernel_rfl)) | ((with_reducible apply wpl_loadcellN); (exact rfl); infer_instance; (exact rfl)) | ((with_reducible apply wpl_storerow); (exact rfl); (exact rfl); infer_instance; infer_instance; (first | (with_reducible assumption) | (with_reducible exact H32.size _) | kernel_rfl); (first | (with_reducible assumption) | (with_reducible exact H32.size _) | kernel_rfl); (first | (with_reducible exact u8s_one _) | (with_reducible assumption) | kernel_rfl); intro ws _ _) | ((with_reducible apply wpl_storecell); (exact rfl); (exact rfl); infer_instance; (exact rfl); (first | (with_reducible assumption) | omega | (focus (simp; done)) | (focus (simp; omega; done)) | decide); intro ws _ _))
    refine (pSave_calls (b := b) HF4.out HM.out hm9).mono ?_
    rw [E2.out]
    rintro e w5 ⟨rfl, HF5, _⟩
    have n5 : Nw w w5 := inferInstance
    have hb5 : HR w5 B (bs b) := ⟨HB0.out.later n5.out⟩
    go_wp2_with (first | go_skip | ((with_reducible apply (wpl_guard (op := .convert _ _ _))); (exact rfl)) | ((with_reducible apply wpl_loadrow); (exact rfl); infer_instance; infer_instance; (first | (with_reducible assumption) | (with_reducible exact H32.size _) | kernel_rfl)) | ((with_reducible apply wpl_loadcellN); (exact rfl); infer_instance; (exact rfl)) | ((with_reducible apply wpl_storerow); (exact rfl); (exact rfl); infer_instance; infer_instance; (first | (with_reducible assumption) | (with_reducible exact H32.size _) | kernel_rfl); (first | (with_reducible assumption) | (with_reducible exact H32.size _) | kernel_rfl); (first | (with_reducible exact u8s_one _) | (with_reducible assumption) | kernel_rfl); intro ws _ _) | ((with_reducible apply wpl_storecell); (exact rfl); (exact rfl); infer_instance; (exact rfl); (first | (with_reducible assumption) | omega | (focus (simp; done)) | (focus (simp; omega; done)) | decide); intro ws _ _))
    refine (refPack_calls (b := b) 2 HM.out (by omega)).mono ?_
    clear hZ
    rintro e w6 ⟨A6, Z, c6, rfl, hl6, _, _⟩
    have hZ : Z ≤ 350 ∧ 32 ≤ Z := by rw [← hl6]; exact HP2.out
    clear hl6
    have HF6 : Hid (FlashAt w6 g p 80 s2) := Lib.hid (FlashAt.nw HF5.out)
    have hFF : ∃ s, Hid (FlashAt w6 g p 80 s) ∧ Hid (s.ok 80) ∧ Hid (live s) ∧ Hid (false = false → unpS (slotB s 0) = ⟨1, a, true⟩) := ⟨s2, HF6, OK2, L2, Lib.hid (fun _ => U2.out)⟩
    clear HF5
    obtain ⟨s, HF5, OK5, L5, U5⟩ := hFF
    obtain ⟨j, hj⟩ : ∃ j, j = q0 % Z := ⟨_, rfl⟩
    have hjZ : j < Z := by rw [hj]; exact Nat.mod_lt _ (by omega)
    have hrem : (bits .and .i64 at' 65535).tmod (Z : Int) = (j : Int) := by rw [HAND.out, hj]; exact (Int.ofNat_tmod q0 Z).symm
    obtain ⟨v, hv⟩ : ∃ v, v = j / 64 := ⟨_, rfl⟩
    obtain ⟨o, ho⟩ : ∃ o, o = j % 64 := ⟨_, rfl⟩
    have hv5 : v ≤ 5 := by rw [hv]; omega
    have ho64 : o < 64 := by rw [ho]; exact Nat.mod_lt _ (by decide)
    have hquo : (j : Int).tdiv 64 = (v : Int) := by rw [hv]; exact (Int.ofNat_tdiv j 64).symm
    have hre2 : (j : Int).tmod 64 = (o : Int) := by rw [ho]; exact (Int.ofNat_tmod j 64).symm
    have hZ0 : ¬ Z = 0 := by omega
    obtain ⟨P, hP⟩ : ∃ P : Nat, P = 40 + v := ⟨_, rfl⟩
    have hP80 : P < 80 := by omega
    obtain ⟨hgl, hpl⟩ := HF5.out.lts
    have HPL := Lib.hid (page_len' OK5.out hP80)
    clear hj hv ho
    go_wp2_with (first | go_skip | ((with_reducible apply (wpl_guard (op := .convert _ _ _))); (exact rfl)) | ((with_reducible apply wpl_loadrow); (exact rfl); infer_instance; infer_instance; (first | (with_reducible assumption) | (with_reducible exact H32.size _) | kernel_rfl)) | ((with_reducible apply wpl_loadcellN); (exact rfl); infer_instance; (exact rfl)) | ((with_reducible apply wpl_storerow); (exact rfl); (exact rfl); infer_instance; infer_instance; (first | (with_reducible assumption) | (with_reducible exact H32.size _) | kernel_rfl); (first | (with_reducible assumption) | (with_reducible exact H32.size _) | kernel_rfl); (first | (with_reducible exact u8s_one _) | (with_reducible assumption) | kernel_rfl); intro ws _ _) | ((with_reducible apply wpl_storecell); (exact rfl); (exact rfl); infer_instance; (exact rfl); (first | (with_reducible assumption) | omega | (focus (simp; done)) | (focus (simp; omega; done)) | decide); intro ws _ _))
    refine (Read_at g p 80 s _ P _ HF5.out (by omega) hP80).mono ?_
    obtain ⟨pg, hpg⟩ : ∃ pg, pg = s.page P := ⟨_, rfl⟩
    rw [← hpg] at HPL ⊢
    clear hpg
    rintro e w7 ⟨R, rc, rfl, hR, _, hnR⟩
    have oR : OffA (Two g p) R := ⟨fun ad e hk => by
      have h1 := hnR.out ad e
      rcases hk with hk | hk <;> omega⟩
    have n7 : Nw w w7 := inferInstance
    have hrR : HR w7 R (bs pg) := ⟨hR.out.rd⟩
    have hbl : 0 < (bs pg).length := by rw [bs_length, HPL.out]; decide
    obtain ⟨u, hu⟩ : ∃ u : UInt8, (bs pg)[o]? = some (.int .u8 (u.toNat : Int)) := ⟨pg[o]'(by rw [HPL.out]; exact ho64), by simp [bs, u8v, HPL.out, ho64]⟩
    obtain ⟨x, hx⟩ : ∃ x, x = bits .xor .u8 (u.toNat : Int) y := ⟨_, rfl⟩
    have hx0 : 0 ≤ x ∧ x < 256 := by rw [hx]; exact xor_u8_in _ _
    have hxe : bits .xor .u8 (u.toNat : Int) y = x := hx.symm
    have hop : o < pg.length := by rw [HPL.out]; exact ho64
    have HF7 : Hid (FlashAt w7 g p 80 s) := Lib.hid (FlashAt.nw HF5.out)
    have aR : Above w (rowOf R) := by
      have nmw : NewA w R := NewA.monoS hnR
      have := NewA.mono (w0 := w) nmw
      infer_instance
    clear hx
    go_wp2_with (first | go_skip | ((with_reducible apply wpl_index1); (exact rfl); (exact rfl); infer_instance; (exact hrR); (exact hbl); (exact ho64)) | ((with_reducible apply wpl_load1); (exact rfl); (exact hrR); infer_instance; (exact hu)) | ((with_reducible apply wpl_storeB); (exact rfl); (exact rfl); infer_instance; (exact hop); (exact hx0); intro ws _ hO8) | ((with_reducible apply (wpl_guard (op := .convert _ _ _))); (exact rfl)) | ((with_reducible apply wpl_loadrow); (exact rfl); infer_instance; infer_instance; (first | (with_reducible assumption) | (with_reducible exact H32.size _) | kernel_rfl)) | ((with_reducible apply wpl_loadcellN); (exact rfl); infer_instance; (exact rfl)) | ((with_reducible apply wpl_storerow); (exact rfl); (exact rfl); infer_instance; infer_instance; (first | (with_reducible assumption) | (with_reducible exact H32.size _) | kernel_rfl); (first | (with_reducible assumption) | (with_reducible exact H32.size _) | kernel_rfl); (first | (with_reducible exact u8s_one _) | (with_reducible assumption) | kernel_rfl); intro ws _ _) | ((with_reducible apply wpl_storecell); (exact rfl); (exact rfl); infer_instance; (exact rfl); (first | (with_reducible assumption) | omega | (focus (simp; done)) | (focus (simp; omega; done)) | decide); intro ws _ _))
    obtain ⟨yy, hyy⟩ : ∃ yy, yy = pg.set o (b8 x) := ⟨_, rfl⟩
    rw [← hyy] at hO8
    have HYL : Hid (yy.length = 64) := Lib.hid (by rw [hyy, List.length_set, HPL.out])
    have HF8 : Hid (FlashAt ws g p 80 s) := Lib.hid (HF7.out.chg (inferInstance : Step (rowOf R) w7 ws).chg (fun ⟨ad, e, h⟩ => oR.out ad e (.inl h)) (fun ⟨ad, e, h⟩ => oR.out ad e (.inr h)))
    have n8 : Nw w ws := inferInstance
    obtain ⟨s3, s4, e3, e4, ok4, p4⟩ := spoil_state OK5.out L5.out P hP80 yy HYL.out
    have E3 := Lib.hid e3
    have E4 := Lib.hid e4
    have OK4 := Lib.hid ok4
    have P4 := Lib.hid p4
    clear hyy e3 e4 ok4 p4 hxe hu hrR hR HF7
    go_wp2_with (first | go_skip | ((with_reducible apply (wpl_guard (op := .convert _ _ _))); (exact rfl)) | ((with_reducible apply wpl_loadrow); (exact rfl); infer_instance; infer_instance; (first | (with_reducible assumption) | (with_reducible exact H32.size _) | kernel_rfl)) | ((with_reducible apply wpl_loadcellN); (exact rfl); infer_instance; (exact rfl)) | ((with_reducible apply wpl_storerow); (exact rfl); (exact rfl); infer_instance; infer_instance; (first | (with_reducible assumption) | (with_reducible exact H32.size _) | kernel_rfl); (first | (with_reducible assumption) | (with_reducible exact H32.size _) | kernel_rfl); (first | (with_reducible exact u8s_one _) | (with_reducible assumption) | kernel_rfl); intro ws _ _) | ((with_reducible apply wpl_storecell); (exact rfl); (exact rfl); infer_instance; (exact rfl); (first | (with_reducible assumption) | omega | (focus (simp; done)) | (focus (simp; omega; done)) | decide); intro ws _ _))
    refine (pErase_at _ P (by omega) HF8.out).mono ?_
    rw [E3.out]
    rintro e w9 ⟨rfl, h9, c9⟩
    have st9 : Step (Two g p) _ w9 := ⟨c9.out⟩
    have n9 : Nw w w9 := inferInstance
    have hr9 : HR w9 R (bs yy) := inferInstance
    clear c9
    go_wp2_with (first | go_skip | ((with_reducible apply (wpl_guard (op := .convert _ _ _))); (exact rfl)) | ((with_reducible apply wpl_loadrow); (exact rfl); infer_instance; infer_instance; (first | (with_reducible assumption) | (with_reducible exact H32.size _) | kernel_rfl)) | ((with_reducible apply wpl_loadcellN); (exact rfl); infer_instance; (exact rfl)) | ((with_reducible apply wpl_storerow); (exact rfl); (exact rfl); infer_instance; infer_instance; (first | (with_reducible assumption) | (with_reducible exact H32.size _) | kernel_rfl); (first | (with_reducible assumption) | (with_reducible exact H32.size _) | kernel_rfl); (first | (with_reducible exact u8s_one _) | (with_reducible assumption) | kernel_rfl); intro ws _ _) | ((with_reducible apply wpl_storecell); (exact rfl); (exact rfl); infer_instance; (exact rfl); (first | (with_reducible assumption) | omega | (focus (simp; done)) | (focus (simp; omega; done)) | decide); intro ws _ _))
    refine (pProgram_at _ P (by omega) h9.out HYL.out (fun _ ad e => oR.out ad e) (by decide)).mono ?_
    rw [E4.out]
    rintro e w10 ⟨rfl, h10, c10⟩
    have st10 : Step (Two g p) _ w10 := ⟨c10.out⟩
    have n10 : Nw w w10 := inferInstance
    have HF10 := h10
    clear c10 h10 h9
    go_wp2_with (first | go_skip | ((with_reducible apply (wpl_guard (op := .convert _ _ _))); (exact rfl)) | ((with_reducible apply wpl_loadrow); (exact rfl); infer_instance; infer_instance; (first | (with_reducible assumption) | (with_reducible exact H32.size _) | kernel_rfl)) | ((with_reducible apply wpl_loadcellN); (exact rfl); infer_instance; (exact rfl)) | ((with_reducible apply wpl_storerow); (exact rfl); (exact rfl); infer_instance; infer_instance; (first | (with_reducible assumption) | (with_reducible exact H32.size _) | kernel_rfl); (first | (with_reducible assumption) | (with_reducible exact H32.size _) | kernel_rfl); (first | (with_reducible exact u8s_one _) | (with_reducible assumption) | kernel_rfl); intro ws _ _) | ((with_reducible apply wpl_storecell); (exact rfl); (exact rfl); infer_instance; (exact rfl); (first | (with_reducible assumption) | omega | (focus (simp; done)) | (focus (simp; omega; done)) | decide); intro ws _ _))
    refine (rfNew_calls 80 80 (by decide) _).mono ?_
    rintro e w11 ⟨xf, T, rfl, hX, _, hT⟩
    have HTW : Hid (∀ k, T k → w.heap.size ≤ k) := Lib.hid (fun k hk => Nat.le_trans (inferInstance : SzLe w w10).out (hT k hk).1)
    have abT : Above w T := ⟨HTW.out⟩
    have hlt10 := HF10.out.lts
    have HTg : Hid (¬ T g) := Lib.hid (fun h => absurd hlt10.1 (Nat.not_lt.2 (hT g h).1))
    have HTp : Hid (¬ T p) := Lib.hid (fun h => absurd hlt10.2 (Nat.not_lt.2 (hT p h).1))
    have HTL : Hid (∀ k, T k → k < w11.heap.size) := Lib.hid (fun k hk => (hT k hk).2)
    have HF11 : Hid (FlashAt w11 g p 80 s4) := Lib.hid (FlashAt.nw HF10.out)
    have HX11 : Hid (∃ r, RF w11 xf T r ∧ Rel (cpF s4 0) r 80) := Lib.hid ⟨_, hX, Rel.fresh 80⟩
    have n11 : Nw w w11 := inferInstance
    have HCP := Lib.hid (cpF_is s4 OK4.out)
    have ab3 : Above w11 nowhere := ⟨fun _ h => h.elim⟩
    clear hX hT hlt10 hgl hpl
    go_wp2_with (first | go_skip | ((with_reducible apply (wpl_guard (op := .convert _ _ _))); (exact rfl)) | ((with_reducible apply wpl_loadrow); (exact rfl); infer_instance; infer_instance; (first | (with_reducible assumption) | (with_reducible exact H32.size _) | kernel_rfl)) | ((with_reducible apply wpl_loadcellN); (exact rfl); infer_instance; (exact rfl)) | ((with_reducible apply wpl_storerow); (exact rfl); (exact rfl); infer_instance; infer_instance; (first | (with_reducible assumption) | (with_reducible exact H32.size _) | kernel_rfl); (first | (with_reducible assumption) | (with_reducible exact H32.size _) | kernel_rfl); (first | (with_reducible exact u8s_one _) | (with_reducible assumption) | kernel_rfl); intro ws _ _) | ((with_reducible apply wpl_storecell); (exact rfl); (exact rfl); infer_instance; (exact rfl); (first | (with_reducible assumption) | omega | (focus (simp; done)) | (focus (simp; omega; done)) | decide); intro ws _ _))
    go_loopw [18] (fun iv wr => ∃ i : Nat, i ≤ 80 ∧ iv = .int .i64 (i : Int) ∧ Nw w wr ∧ Step T w11 wr ∧ Hid (∃ r, RF wr xf T r ∧ Rel (cpF s4 i) r 80)) (fun iv _ => 80 - (intOf iv).toNat)
    case atStart => exact ⟨0, Nat.zero_le _, rfl, inferInstance, ⟨Chg.refl _ _⟩, HX11⟩
    case round =>
      obtain ⟨i, hi, rfl, nr, sr, HXr⟩ := hrel
      clear HX11
      have HFr : Hid (FlashAt wr g p 80 s4) := Lib.hid (HF11.out.chg sr.chg HTg.out HTp.out)
      by_cases hlt : i < 80
      · have hltI : (i : Int) < 80 := by omega
        have HPI := Lib.hid (page_len' OK4.out hlt)
        have HCI := Lib.hid ((HCP.out i hi).1)
        obtain ⟨r, hX, hR⟩ := HXr.out
        have HX := Lib.hid hX
        have HRel := Lib.hid hR
        have hnx : cpF s4 (i + 1) = ((cpF s4 i).change 80 (i : Int) (s4.page i).length (prD (s4.page i))).2 := rfl
        have HNX := Lib.hid hnx
        clear hX hR hnx
        go_wp2_with (first | go_skip | ((with_reducible apply (wpl_guard (op := .convert _ _ _))); (exact rfl)) | ((with_reducible apply wpl_loadrow); (exact rfl); infer_instance; infer_instance; (first | (with_reducible assumption) | (with_reducible exact H32.size _) | kernel_rfl)) | ((with_reducible apply wpl_loadcellN); (exact rfl); infer_instance; (exact rfl)) | ((with_reducible apply wpl_storerow); (exact rfl); (exact rfl); infer_instance; infer_instance; (first | (with_reducible assumption) | (with_reducible exact H32.size _) | kernel_rfl); (first | (with_reducible assumption) | (with_reducible exact H32.size _) | kernel_rfl); (first | (with_reducible exact u8s_one _) | (with_reducible assumption) | kernel_rfl); intro ws _ _) | ((with_reducible apply wpl_storecell); (exact rfl); (exact rfl); infer_instance; (exact rfl); (first | (with_reducible assumption) | omega | (focus (simp; done)) | (focus (simp; omega; done)) | decide); intro ws _ _))
        refine (Read_at g p 80 s4 _ i _ HFr.out rfl hlt).mono ?_
        obtain ⟨pi, hpi⟩ : ∃ pi, pi = s4.page i := ⟨_, rfl⟩
        rw [← hpi] at HPI HNX ⊢
        clear hpi
        rintro e w12 ⟨R2, rc2, rfl, hR2, _, hnR2⟩
        have hr2 : HR w12 R2 (bs pi) := ⟨hR2.out.rd⟩
        have HAP : Hid (Apart T R2 (bs pi)) := Lib.hid (fun _ ad e hk => by
          have h1 := hnR2.out ad e
          have h2 := HTL.out _ hk
          have h3 := sr.chg.size
          omega)
        go_wp2_with (first | go_skip | ((with_reducible apply (wpl_guard (op := .convert _ _ _))); (exact rfl)) | ((with_reducible apply wpl_loadrow); (exact rfl); infer_instance; infer_instance; (first | (with_reducible assumption) | (with_reducible exact H32.size _) | kernel_rfl)) | ((with_reducible apply wpl_loadcellN); (exact rfl); infer_instance; (exact rfl)) | ((with_reducible apply wpl_storerow); (exact rfl); (exact rfl); infer_instance; infer_instance; (first | (with_reducible assumption) | (with_reducible exact H32.size _) | kernel_rfl); (first | (with_reducible assumption) | (with_reducible exact H32.size _) | kernel_rfl); (first | (with_reducible exact u8s_one _) | (with_reducible assumption) | kernel_rfl); intro ws _ _) | ((with_reducible apply wpl_storecell); (exact rfl); (exact rfl); infer_instance; (exact rfl); (first | (with_reducible assumption) | omega | (focus (simp; done)) | (focus (simp; omega; done)) | decide); intro ws _ _))
        refine (rProg_at _ i rfl (RF.nw HX.out) HRel.out HCI.out HPI.out HAP.out (by decide)).mono ?_
        rw [← HNX.out]
        rintro e w13 ⟨rfl, H13, s13⟩
        have n13 : Nw w w13 := inferInstance
        have sw13 : Step T w11 w13 := ⟨(sr.chg.trans (inferInstance : Step nowhere wr w12).chg (fun _ _ h => h.elim)).trans s13.chg (fun _ _ h => h)⟩
        go_wp2_with (first | go_skip | ((with_reducible apply (wpl_guard (op := .convert _ _ _))); (exact rfl)) | ((with_reducible apply wpl_loadrow); (exact rfl); infer_instance; infer_instance; (first | (with_reducible assumption) | (with_reducible exact H32.size _) | kernel_rfl)) | ((with_reducible apply wpl_loadcellN); (exact rfl); infer_instance; (exact rfl)) | ((with_reducible apply wpl_storerow); (exact rfl); (exact rfl); infer_instance; infer_instance; (first | (with_reducible assumption) | (with_reducible exact H32.size _) | kernel_rfl); (first | (with_reducible assumption) | (with_reducible exact H32.size _) | kernel_rfl); (first | (with_reducible exact u8s_one _) | (with_reducible assumption) | kernel_rfl); intro ws _ _) | ((with_reducible apply wpl_storecell); (exact rfl); (exact rfl); infer_instance; (exact rfl); (first | (with_reducible assumption) | omega | (focus (simp; done)) | (focus (simp; omega; done)) | decide); intro ws _ _))
        exact ⟨⟨i + 1, by omega, by go_num, inferInstance, sw13, H13⟩, by simp [intOf]; omega⟩
      · have hltI : ¬ (i : Int) < 80 := by omega
        obtain rfl : i = 80 := by omega
        obtain ⟨r, hX, hR⟩ := HXr.out
        obtain ⟨C, hC⟩ : ∃ C, C = cpF s4 80 := ⟨_, rfl⟩
        have hcp := HCP.out 80 (Nat.le_refl _)
        have hld : loadN 80 C = loadN 80 s4 := by
          rw [hC]
          exact load_same OK4.out hcp.1 (fun j hj => by rw [hcp.2.2 j hj, if_pos hj])
        have hokC : C.ok 80 := by rw [hC]; exact hcp.1
        rw [← hC] at hR
        obtain ⟨Q, hQ⟩ : ∃ Q, Q = loadN 80 s4 := ⟨_, rfl⟩
        have h0 : Q.2.1 = 0 → Q = ([], 0, 9) := fun h => by rw [hQ] at h ⊢; exact load_zero h
        have h1 : false = false → Q.2.1 = 1 → Q = (a, 1, 0) := fun hu h => by
          rw [hQ] at h ⊢
          have hsl : slotB s4 0 = slotB s 0 := slot_same (fun j _ hj => P4.out j (by omega) (by omega)) (slotB_len OK4.out (by decide) 0 (by decide)) (slotB_len OK5.out (by decide) 0 (by decide))
          exact load_one (by rw [hsl]; exact U5.out trivial) h
        rw [← hQ] at hld
        have HQ := Lib.hid hQ
        have HX := Lib.hid hX
        have HRel := Lib.hid hR
        have HLD := Lib.hid hld
        have HOKC := Lib.hid hokC
        have H0 := Lib.hid h0
        have H1 := Lib.hid h1
        clear hX hR hC hcp hld hokC hQ h0 h1 HCP
        go_wp2_with (first | go_skip | ((with_reducible apply (wpl_guard (op := .convert _ _ _))); (exact rfl)) | ((with_reducible apply wpl_loadrow); (exact rfl); infer_instance; infer_instance; (first | (with_reducible assumption) | (with_reducible exact H32.size _) | kernel_rfl)) | ((with_reducible apply wpl_loadcellN); (exact rfl); infer_instance; (exact rfl)) | ((with_reducible apply wpl_storerow); (exact rfl); (exact rfl); infer_instance; infer_instance; (first | (with_reducible assumption) | (with_reducible exact H32.size _) | kernel_rfl); (first | (with_reducible assumption) | (with_reducible exact H32.size _) | kernel_rfl); (first | (with_reducible exact u8s_one _) | (with_reducible assumption) | kernel_rfl); intro ws _ _) | ((with_reducible apply wpl_storecell); (exact rfl); (exact rfl); infer_instance; (exact rfl); (first | (with_reducible assumption) | omega | (focus (simp; done)) | (focus (simp; omega; done)) | decide); intro ws _ _))
        refine (rLoad_calls HX.out HRel.out HOKC.out).mono ?_
        rw [HLD.out]
        unfold LoadQ
        rintro e w14 ⟨B14, m14, d14, rfl, hm14, hd14, hB14, hnB14, _⟩
        have n14 : Nw w w14 := inferInstance
        have HF14 : Hid (FlashAt w14 g p 80 s4) := Lib.hid (FlashAt.nw HFr.out)
        by_cases hNN : Q.2.1 = 1
        · have hQe := H1.out trivial hNN
          have hNB : ((Q.2.1 : Int) != 1) = false := by simp [hNN]
          clear hNN
          go_wp2_with (first | go_skip | ((with_reducible apply (wpl_guard (op := .convert _ _ _))); (exact rfl)) | ((with_reducible apply wpl_loadrow); (exact rfl); infer_instance; infer_instance; (first | (with_reducible assumption) | (with_reducible exact H32.size _) | kernel_rfl)) | ((with_reducible apply wpl_loadcellN); (exact rfl); infer_instance; (exact rfl)) | ((with_reducible apply wpl_storerow); (exact rfl); (exact rfl); infer_instance; infer_instance; (first | (with_reducible assumption) | (with_reducible exact H32.size _) | kernel_rfl); (first | (with_reducible assumption) | (with_reducible exact H32.size _) | kernel_rfl); (first | (with_reducible exact u8s_one _) | (with_reducible assumption) | kernel_rfl); intro ws _ _) | ((with_reducible apply wpl_storecell); (exact rfl); (exact rfl); infer_instance; (exact rfl); (first | (with_reducible assumption) | omega | (focus (simp; done)) | (focus (simp; omega; done)) | decide); intro ws _ _))
          refine (pLoad_calls HF14.out).mono ?_
          rw [← HQ.out]
          unfold LoadQ
          rintro e w15 ⟨B15, m15, d15, rfl, hm15, hd15, hB15, hnB15, _⟩
          subst hQe
          have n15 : Nw w w15 := inferInstance
          have ha15 : HR w15 A (bs a) := ⟨HA0.out.later n15.out⟩
          have hla : a.length = n := HL.out
          have hse : ((strL a).toList == (strL a).toList) = true := by simp
          have hm15' : a.length = m15 := hm15
          go_wp2_with (first | go_skip | ((with_reducible apply (wpl_guard (op := .convert _ _ _))); (exact rfl)) | ((with_reducible apply wpl_loadrow); (exact rfl); infer_instance; infer_instance; (first | (with_reducible assumption) | (with_reducible exact H32.size _) | kernel_rfl)) | ((with_reducible apply wpl_loadcellN); (exact rfl); infer_instance; (exact rfl)) | ((with_reducible apply wpl_storerow); (exact rfl); (exact rfl); infer_instance; infer_instance; (first | (with_reducible assumption) | (with_reducible exact H32.size _) | kernel_rfl); (first | (with_reducible assumption) | (with_reducible exact H32.size _) | kernel_rfl); (first | (with_reducible exact u8s_one _) | (with_reducible assumption) | kernel_rfl); intro ws _ _) | ((with_reducible apply wpl_storecell); (exact rfl); (exact rfl); infer_instance; (exact rfl); (first | (with_reducible assumption) | omega | (focus (simp; done)) | (focus (simp; omega; done)) | decide); intro ws _ _) | ((with_reducible apply wpl_indexH); (exact rfl); (exact rfl); infer_instance; infer_instance; (first | (with_reducible assumption) | omega); (first | (with_reducible assumption) | omega); (first | (with_reducible assumption) | omega)) | ((with_reducible apply wpl_indexH'); (exact rfl); (exact rfl); infer_instance; infer_instance; (first | (with_reducible assumption) | omega); (first | (with_reducible assumption) | omega); (first | (with_reducible assumption) | omega)) | ((with_reducible apply (wpl_loadhash (t := 52))); (exact rfl); infer_instance; infer_instance; (first | (with_reducible assumption) | omega)) | ((with_reducible apply (wpl_storehash (t := 52))); (exact rfl); (exact rfl); infer_instance; infer_instance; (first | (with_reducible assumption) | omega | (focus (simp; done)) | (focus (simp; omega; done)) | decide); intro ws _ _) | ((with_reducible apply wpl_conv); (exact rfl); infer_instance; (first | (with_reducible assumption) | (focus (simp; done)) | omega); (exact Try.underlying22); (exact Try.underlying5); (exact Try.underlying9)) | ((with_reducible apply (wpl_loadint (t := 3))); (exact rfl); infer_instance; infer_instance; (first | (with_reducible assumption) | omega)) | ((with_reducible apply (wpl_loadbyte (t := 5))); (exact rfl); infer_instance; infer_instance; (first | (with_reducible assumption) | omega)) | ((with_reducible apply (wpl_storeint (t := 3))); (exact rfl); (exact rfl); infer_instance; (first | (with_reducible assumption) | omega); intro ws _ _) | ((with_reducible apply (wpl_storebyte (t := 5))); (exact rfl); (exact rfl); infer_instance; (first | (with_reducible assumption) | omega | (focus (simp; done)) | (focus (simp; omega; done)) | decide); (constructor <;> omega); intro ws _ _))
          refine (slKnown_calls _).mono ?_
          rintro e w16 ⟨rfl, _⟩
          go_wp2_with (first | go_skip | ((with_reducible apply (wpl_guard (op := .convert _ _ _))); (exact rfl)) | ((with_reducible apply wpl_loadrow); (exact rfl); infer_instance; infer_instance; (first | (with_reducible assumption) | (with_reducible exact H32.size _) | kernel_rfl)) | ((with_reducible apply wpl_loadcellN); (exact rfl); infer_instance; (exact rfl)) | ((with_reducible apply wpl_storerow); (exact rfl); (exact rfl); infer_instance; infer_instance; (first | (with_reducible assumption) | (with_reducible exact H32.size _) | kernel_rfl); (first | (with_reducible assumption) | (with_reducible exact H32.size _) | kernel_rfl); (first | (with_reducible exact u8s_one _) | (with_reducible assumption) | kernel_rfl); intro ws _ _) | ((with_reducible apply wpl_storecell); (exact rfl); (exact rfl); infer_instance; (exact rfl); (first | (with_reducible assumption) | omega | (focus (simp; done)) | (focus (simp; omega; done)) | decide); intro ws _ _))
          go_ret
          exact ⟨rfl, (inferInstance : Nw w _).out⟩
        · have hNB : ((Q.2.1 : Int) != 1) = true := by simp; omega
          clear hNN
          go_wp2_with (first | go_skip | ((with_reducible apply (wpl_guard (op := .convert _ _ _))); (exact rfl)) | ((with_reducible apply wpl_loadrow); (exact rfl); infer_instance; infer_instance; (first | (with_reducible assumption) | (with_reducible exact H32.size _) | kernel_rfl)) | ((with_reducible apply wpl_loadcellN); (exact rfl); infer_instance; (exact rfl)) | ((with_reducible apply wpl_storerow); (exact rfl); (exact rfl); infer_instance; infer_instance; (first | (with_reducible assumption) | (with_reducible exact H32.size _) | kernel_rfl); (first | (with_reducible assumption) | (with_reducible exact H32.size _) | kernel_rfl); (first | (with_reducible exact u8s_one _) | (with_reducible assumption) | kernel_rfl); intro ws _ _) | ((with_reducible apply wpl_storecell); (exact rfl); (exact rfl); infer_instance; (exact rfl); (first | (with_reducible assumption) | omega | (focus (simp; done)) | (focus (simp; omega; done)) | decide); intro ws _ _))
          refine (slKnown_calls _).mono ?_
          rintro e w16 ⟨rfl, _⟩
          go_wp2_with (first | go_skip | ((with_reducible apply (wpl_guard (op := .convert _ _ _))); (exact rfl)) | ((with_reducible apply wpl_loadrow); (exact rfl); infer_instance; infer_instance; (first | (with_reducible assumption) | (with_reducible exact H32.size _) | kernel_rfl)) | ((with_reducible apply wpl_loadcellN); (exact rfl); infer_instance; (exact rfl)) | ((with_reducible apply wpl_storerow); (exact rfl); (exact rfl); infer_instance; infer_instance; (first | (with_reducible assumption) | (with_reducible exact H32.size _) | kernel_rfl); (first | (with_reducible assumption) | (with_reducible exact H32.size _) | kernel_rfl); (first | (with_reducible exact u8s_one _) | (with_reducible assumption) | kernel_rfl); intro ws _ _) | ((with_reducible apply wpl_storecell); (exact rfl); (exact rfl); infer_instance; (exact rfl); (first | (with_reducible assumption) | omega | (focus (simp; done)) | (focus (simp; omega; done)) | decide); intro ws _ _))
          go_ret
          exact ⟨rfl, (inferInstance : Nw w _).out⟩
end Go.Proofs.Ytegdihpnefoolaa
