/- SlN -/
import Derived.Test.YtfkjjlalfcajlaaTdSlK
open Go Go.RowKit
namespace Go.Proofs.Ytfkjjlalfcajlaa
theorem bestK_pages {s t : FS} (h : t.pages = s.pages) : ∀ k, bestK t k = bestK s k
  | 0 => rfl
  | k + 1 => by
    have e : slotB t k = slotB s k := by unfold slotB; rw [h]
    rw [bestK, bestK, e, bestK_pages h k]
theorem bestS_pages {s t : FS} (h : t.pages = s.pages) : bestS t = bestS s := bestK_pages h 2
/-- the power goes off at the first act, ahead of its first byte -/
theorem save_burn {N : Nat} {s : FS} {b : List UInt8} (hN : 80 ≤ N) (hd : s.dead = false) (hf : s.fused = true) (hl : s.left = 0) (ht : s.tear = 0) (hb : b.length ≤ 2500) (hn : (bestS s).2.1 < 1073741824) : ∃ t, saveS N s b = (11, t) ∧ t.pages = s.pages ∧ t.dead = true := by
  obtain ⟨P, hP⟩ : ∃ P, P = packS (((bestS s).2.1 + 1 : Nat) : Int) b := ⟨_, rfl⟩
  have hpl : 0 < P.length := by
    rw [hP]
    have := packS_pos (((bestS s).2.1 + 1 : Nat) : Int) b
    omega
  have hnx := nextP_le s
  have hbu : s.burn = (true, s) := by
    unfold FS.burn
    rw [if_neg (by rw [hf]; decide), if_pos hl]
  have e1 : eraseK N s (nextP s) 1 = (11, { s with pages := erD s.pages ((((nextP s + 0 : Nat) : Int)).toNat * 64) (min 64 s.tear), dead := true }) := by
    show (if (0 : Nat) = 0 then s.change N ((nextP s + 0 : Nat) : Int) 64 erD else (0, s)) = _
    rw [if_pos rfl, FS.change, if_neg (by rw [hd]; decide), if_neg (by omega), hbu, if_pos rfl]
  have e2 : writeS N s (nextP s) P = eraseK N s (nextP s) 1 := write_erase (by unfold manyC; omega) (by rw [e1]; show (11 : Nat) ≠ 0; decide)
  refine ⟨{ s with pages := erD s.pages ((((nextP s + 0 : Nat) : Int)).toNat * 64) (min 64 s.tear), dead := true }, ?_, ?_, rfl⟩
  · unfold saveS
    rw [if_neg (by rw [hd]; decide), if_neg (by omega), if_neg (by omega), ← hP, e2, e1]
  · show erD s.pages _ (min 64 s.tear) = s.pages
    rw [ht, Nat.min_zero]
    exact patch_nil _ _
set_option maxRecDepth 100000 in
set_option maxHeartbeats 3200000 in
theorem slotSmall_calls {A : Option Addr} {n c : Nat} {b : List UInt8} (pages : Int) {w : World} [hr : HR w A (bs b)] (hl : b.length = n) (hmax : n ≤ 9223372036854775807) :
    Calls Try.prog 8 #[.int .i64 pages, .slice A n c] w fun e w' => e = .returned (.bool true) ∧ Chg nowhere w w' := by
  have HL := Lib.hid hl
  have HRR := Lib.hid hr.out
  have kbz := run_byte1 122
  clear hl
  by_cases c1 : pages < 1
  · go_enter Try.func8, Try.ntmps8
    go_wp2_with (first | go_skip | ((with_reducible apply (wpl_guard (op := .convert _ _ _))); (exact rfl)))
    go_ret
    exact ⟨rfl, (stepN (w0 := w)).chg⟩
  by_cases c2 : 90 < pages
  · go_enter Try.func8, Try.ntmps8
    go_wp2_with (first | go_skip | ((with_reducible apply (wpl_guard (op := .convert _ _ _))); (exact rfl)))
    go_ret
    exact ⟨rfl, (stepN (w0 := w)).chg⟩
  by_cases c3 : 200 < n
  · have c3I : 200 < (n : Int) := by omega
    go_enter Try.func8, Try.ntmps8
    go_wp2_with (first | go_skip | ((with_reducible apply (wpl_guard (op := .convert _ _ _))); (exact rfl)))
    go_ret
    exact ⟨rfl, (stepN (w0 := w)).chg⟩
  have c3I : ¬ 200 < (n : Int) := by omega
  obtain ⟨N, rfl⟩ : ∃ N : Nat, pages = (N : Int) := ⟨pages.toNat, by omega⟩
  go_enter Try.func8, Try.ntmps8
  go_wp2_with (first | go_skip | ((with_reducible apply (wpl_guard (op := .convert _ _ _))); (exact rfl)))
  refine (New_calls N _ (by omega) (by omega)).mono ?_
  rintro e w1 ⟨g, p, rfl, h1, hc1, hg, hp⟩
  have s1 : Step nowhere w w1 := ⟨hc1.out⟩
  have ab := above_two hg hp
  clear hc1
  by_cases cN : N < 80
  · have cNI : (N : Int) < 80 := by omega
    go_wp2_with (first | go_skip | ((with_reducible apply (wpl_guard (op := .convert _ _ _))); (exact rfl)))
    refine (loadLow_calls h1.out cN).mono ?_
    rintro e w2 ⟨rfl, _⟩
    go_wp2_with (first | go_skip | ((with_reducible apply (wpl_guard (op := .convert _ _ _))); (exact rfl)))
    refine (saveLow_calls A n c (h1.out.calm (stepN (w0 := w1)).chg) cN).mono ?_
    rintro e w3 ⟨rfl, _⟩
    go_wp2_with (first | go_skip | ((with_reducible apply (wpl_guard (op := .convert _ _ _))); (exact rfl)))
    refine (slKnown_calls _).mono ?_
    rintro e w4 ⟨rfl, _⟩
    go_wp2_with (first | go_skip | ((with_reducible apply (wpl_guard (op := .convert _ _ _))); (exact rfl)))
    go_ret
    exact ⟨rfl, (stepN (w0 := w)).chg⟩
  · have cNI : ¬ (N : Int) < 80 := by omega
    have hN : 80 ≤ N := by omega
    have hS1 : Hid (SlotAt w1 g p N 0 []) := Lib.hid ⟨⟨_, h1.out, fresh_live N, by rw [fresh_best N hN]⟩, hN⟩
    clear h1
    go_wp2_with (first | go_skip | ((with_reducible apply (wpl_guard (op := .convert _ _ _))); (exact rfl)))
    refine (slLoad0_calls hS1.out).mono ?_
    rintro e w2 ⟨B0, m0, d0, rfl, _⟩
    have n2 : Nw w w2 := inferInstance
    have h2 : SlotAt w2 g p N 0 [] := hS1.out.calm (stepN (w0 := w1)).chg
    have hb2 : HR w2 A (bs b) := ⟨HRR.out.later n2.out⟩
    have H2 := Lib.hid h2
    clear h2
    go_wp2_with (first | go_skip | ((with_reducible apply (wpl_guard (op := .convert _ _ _))); (exact rfl)))
    refine (slSave_calls (A := A) (m := n) (c := c) (x := b) H2.out HL.out (by omega) (by decide)).mono ?_
    rintro e w3 ⟨rfl, h3, _⟩
    obtain ⟨⟨s, f1, f2, f3⟩, _⟩ := h3.out
    have F1 := Lib.hid f1
    have F2 := Lib.hid f2
    have F3 := Lib.hid f3
    clear f1 f2 f3 h3
    go_wp2_with (first | go_skip | ((with_reducible apply (wpl_guard (op := .convert _ _ _))); (exact rfl)))
    refine (Fuse_calls g p N s 0 0 w3 F1.out (by decide)).mono ?_
    rintro e w4 ⟨rfl, h4, c4⟩
    have s4 : Step (Two g p) w3 w4 := ⟨c4.out⟩
    have n4 : Nw w w4 := inferInstance
    obtain ⟨t, ht⟩ : ∃ t, t = ({ s with fused := decide ((0 : Int) ≤ 0), left := 0, tear := (min (max (0 : Int) 0) 64).toNat } : FS) := ⟨_, rfl⟩
    have htb : (bestS t).2 = (1, b) := by
      have e : bestS t = bestS s := bestS_pages (by rw [ht])
      rw [e]
      exact F3.out
    obtain ⟨u, g1, g2, g3⟩ := save_burn (N := N) (s := t) (b := [122]) hN (by rw [ht]; exact F2.out.1) (by rw [ht]; rfl) (by rw [ht]) (by rw [ht]; rfl) (by decide) (by rw [htb]; show (1 : Nat) < 1073741824; decide)
    have hub : (bestS u).2 = (1, b) := by rw [bestS_pages g2]; exact htb
    rw [← ht] at h4
    have H4 := h4
    have G1 := Lib.hid g1
    have G3 := Lib.hid g3
    have HUB := Lib.hid hub
    clear h4 c4 ht htb g1 g2 g3 hub
    go_wp2_with (first | go_skip | ((with_reducible apply (wpl_lit (d1 := some 56))); (exact kbz _); (exact fun _ => rfl); (exact Try.underlying28); (exact Try.underlying5); intro za wb _ _ _) | ((with_reducible apply (wpl_guard (op := .convert _ _ _))); (exact rfl)))
    have hrz : HR wb (some ⟨za, 0, none⟩) (bs [122]) := inferInstance
    have f5 : FlashAt wb g p N t := H4.out.calm (inferInstance : Step nowhere w4 wb).chg
    refine (save_calls (A := some ⟨za, 0, none⟩) (n := 1) (c := 1) (b := [122]) f5 hN rfl (by decide)).mono ?_
    rw [G1.out]
    rintro e w5 ⟨rfl, h5, _⟩
    have H5 := Lib.hid h5
    clear h5 f5
    go_wp2_with (first | go_skip | ((with_reducible apply (wpl_lit (d1 := some 60))); (exact kbz _); (exact fun _ => rfl); (exact Try.underlying28); (exact Try.underlying5); intro zb wb _ _ _) | ((with_reducible apply (wpl_guard (op := .convert _ _ _))); (exact rfl)))
    have hrz2 : HR wb (some ⟨zb, 0, none⟩) (bs [122]) := inferInstance
    have f6 : FlashAt wb g p N u := H5.out.calm (inferInstance : Step nowhere w5 wb).chg
    have g6 : saveS N u [122] = (11, u) := by unfold saveS; rw [if_pos G3.out]
    have G6 := Lib.hid g6
    clear g6
    refine (save_calls (A := some ⟨zb, 0, none⟩) (n := 1) (c := 1) (b := [122]) f6 hN rfl (by decide)).mono ?_
    rw [G6.out]
    rintro e w6 ⟨rfl, h6, _⟩
    have H6 := Lib.hid h6
    clear h6 f6
    go_wp2_with (first | go_skip | ((with_reducible apply (wpl_guard (op := .convert _ _ _))); (exact rfl)))
    refine (load_calls H6.out hN).mono ?_
    unfold LoadPost
    rw [HUB.out, if_neg (show ¬ (1 : Nat) = 0 by decide)]
    rintro e w7 ⟨B, m, d, rfl, hm, hmd, _, hnB, _⟩
    go_wp2_with (first | go_skip | ((with_reducible apply (wpl_guard (op := .convert _ _ _))); (exact rfl)))
    refine (loadNil_calls _).mono ?_
    rintro e w8 ⟨rfl, _⟩
    have n8 : Nw w w8 := inferInstance
    have hb8 : HR w8 A (bs b) := ⟨HRR.out.later n8.out⟩
    have hm' : b.length = m := hm
    have hn' : b.length = n := HL.out
    have hse : ((strL b).toList == (strL b).toList) = true := by simp
    go_wp2_with (first | go_skip | ((with_reducible apply (wpl_guard (op := .convert _ _ _))); (exact rfl)) | ((with_reducible apply wpl_conv); (exact rfl); infer_instance; (first | (with_reducible assumption) | (focus (simp; done)) | omega); (exact Try.underlying28); (exact Try.underlying5); (exact Try.underlying9)))
    refine (saveNil_calls A n c _).mono ?_
    rintro e w9 ⟨rfl, _⟩
    go_wp2_with (first | go_skip | ((with_reducible apply (wpl_guard (op := .convert _ _ _))); (exact rfl)))
    refine (slKnown_calls _).mono ?_
    rintro e w10 ⟨rfl, _⟩
    go_wp2_with (first | go_skip | ((with_reducible apply (wpl_guard (op := .convert _ _ _))); (exact rfl)))
    go_ret
    exact ⟨rfl, (stepN (w0 := w)).chg⟩
end Go.Proofs.Ytfkjjlalfcajlaa
