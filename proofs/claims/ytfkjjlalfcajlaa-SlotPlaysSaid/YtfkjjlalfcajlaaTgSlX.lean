/- SlW, SlX -/
import Derived.Test.YtfkjjlalfcajlaaTgSlV
section
open Go Go.RowKit
namespace Go.Proofs.Ytfkjjlalfcajlaa
/-- an act of the law's -/
structure SAct where
  kind : Int
  A : Option Addr
  c : Nat
  b : List UInt8
  n : Int
  tear : Int
def SAct.cells (a : SAct) : List Value := [.int .i64 a.kind, .slice a.A a.b.length a.c, .int .i64 a.n, .int .i64 a.tear]
def sactsV (l : List SAct) : List Value := l.flatMap SAct.cells
theorem sactsV_get (l : List SAct) : ∀ (k j : Nat) (hk : k < l.length), j < 4 → (sactsV l)[k * 4 + j]? = (l[k].cells)[j]? := by
  induction l with
  | nil => intro k j hk; simp at hk
  | cons a l ih =>
    intro k j hk hj
    have e : sactsV (a :: l) = a.cells ++ sactsV l := rfl
    have h5 : a.cells.length = 4 := rfl
    rcases k with _ | k
    · rw [e, Nat.zero_mul, Nat.zero_add, List.getElem?_append_left (by omega)]
      rfl
    · rw [e, List.getElem?_append_right (by omega), h5, show (k + 1) * 4 + j - 4 = k * 4 + j by omega]
      exact ih k j (by simpa using hk) hj
theorem sadd_field (ad : Addr) (m j : Nat) (hj : 0 < j) : ({ block := (ad.add m).block, off := (ad.add m).off + j } : Addr) = ad.add (m + j) := by
  unfold Addr.add
  rw [if_neg (show ¬ m + j = 0 by omega)]
  split
  · subst m; simp
  · simp [Nat.add_assoc]
instance : RowC SAct := ⟨4, SAct.cells, fun _ => rfl, fun a u hu => by
  simp only [SAct.cells, List.mem_cons, List.not_mem_nil, or_false] at hu
  rcases hu with rfl | rfl | rfl | rfl <;> rfl, ⟨0, none, 0, [], 0, 0⟩⟩
instance : RowT Try.prog 30 4 := ⟨by kernel_rfl, _, Try.underlying30, rfl⟩
set_option maxRecDepth 100000 in
set_option maxHeartbeats 800000 in
theorem slLong (A : Option Addr) (n c : Nat) (l : List SAct) (w : World) (ha : Rd w A (sactsV l)) (hn : l.length = n) :
    Calls Try.prog 9 #[.slice A n c] w fun e w' => (e = .returned (.bool false) ∨ e = .returned (.bool true)) ∧ w' = w := by
  have HA := Lib.hid ha
  have HN := Lib.hid hn
  clear ha hn
  go_enter Try.func9, Try.ntmps9
  go_wp2_with fail
  go_loop [3, 4] (fun tn ti => ∃ (k : Nat) (z : Int), k ≤ n ∧ ti = .int .i64 k ∧ tn = .int .i64 z) (fun _ ti => n - (intOf ti).toNat)
  case atStart => exact ⟨0, 0, Nat.zero_le _, rfl, rfl⟩
  case round =>
    obtain ⟨k, z, hk, rfl, rfl⟩ := hrel
    by_cases hlt : k < n
    · have f1 : (k : Int) < n := by omega
      have f0 : (0 : Int) ≤ k := by omega
      by_cases h80 : k < 20
      · have f2 : (k : Int) < 20 := by omega
        have hkl : k < l.length := by have := HN.out; omega
        obtain ⟨ad, rfl, hc⟩ := HA.out (k * 4 + 1) (.slice l[k].A l[k].b.length l[k].c) (by rw [sactsV_get l k 1 hkl (by decide)]; rfl)
        rw [← sadd_field ad (k * 4) 1 (by decide)] at hc
        generalize l[k].b.length = m at *
        generalize l[k].A = B at *
        generalize l[k].c = d at *
        by_cases hb : 12000 < wrap64 (wrap64 (z + 1) + m)
        · go_wp2_with fail
          go_ret
          exact ⟨.inr rfl, rfl⟩
        · go_wp2_with fail
          exact ⟨⟨k + 1, wrap64 (wrap64 (z + 1) + m), by omega, by go_num, rfl⟩, by simp [intOf]; omega⟩
      · have f2 : (20 : Int) ≤ k := by omega
        go_wp2_with fail
        go_ret
        exact ⟨.inl rfl, rfl⟩
    · have f1 : (n : Int) ≤ k := by omega
      go_wp2_with fail
      go_ret
      exact ⟨.inl rfl, rfl⟩
set_option maxRecDepth 100000 in
set_option maxHeartbeats 1600000 in
theorem slAlike_calls {w : World} {g p N x : Nat} {s : FS} {T : Nat → Prop} {r : RFS} (hF : FlashAt w g p N s) (h : RF w x T r) (hR : Rel s r N) :
    Calls Try.prog 20 #[.pointer (some ⟨g, 0, none⟩), .pointer (some ⟨x, 0, none⟩)] w fun e w' => e = .returned (.bool true) ∧ Step nowhere w w' := by
  obtain ⟨A, kk, c, rows, h1, h2, h3, h4, h5⟩ := h
  have hb : HB w x 60 _ := ⟨h1.head⟩
  have hl : kk = N := by rw [← hR.num, ← h2, List.length_map, h1.num]
  subst hl
  have hk : kk ≤ 256 := h1.most
  have ht : HR w A (cellsOf rows) := ⟨h1.tab.rd⟩
  have hlt0 : 0 < kk → 0 < (cellsOf rows).length := fun h0 => by rw [cellsOf_rows, rowsV, List.length_map, h1.num]; exact h0
  have hpg : ∀ j, j < kk → (cellsOf rows)[j]? = some (.slice (gt rows j).A 64 (gt rows j).c) ∧ (s.page j).length = 64 ∧ Rd w (gt rows j).A (bs (s.page j)) := fun j hj => by
    have hjr : j < rows.length := by rw [h1.num]; exact hj
    have hm := gt_mem rows j hjr
    have hP := row_page h2 j hjr
    rw [hR.page j hj] at hP
    exact ⟨tab_get j hjr h1.len, by rw [← hP]; exact h1.len _ hm, by rw [← hP]; exact (h1.each _ hm).rd⟩
  have HPG := Lib.hid hpg
  have HF := Lib.hid hF
  have H0 := Lib.hid hlt0
  clear h1 h2 h3 h4 h5 hpg hF hR hlt0
  go_enter Try.func20, Try.ntmps20
  go_wp2_with (first | go_skip | ((with_reducible apply (wpl_guard (op := .load _ _))); (exact rfl)) | ((with_reducible apply (wpl_guard (op := .indexAddr _ _ _))); (exact rfl)) | ((with_reducible apply (wpl_guard (op := .fieldAddr _ _ _))); (exact rfl)) | ((with_reducible apply (wpl_guard (op := .convert _ _ _))); (exact rfl)) | ((with_reducible apply wpl_loadrow); (exact rfl); infer_instance; infer_instance; (first | (with_reducible assumption) | (with_reducible exact H32.size _) | kernel_rfl)) | ((with_reducible apply wpl_loadcellN); (exact rfl); infer_instance; (exact rfl)))
  go_loopw [5] (fun iv wr => ∃ k : Nat, k ≤ kk ∧ iv = .int .i64 (k : Int) ∧ Step nowhere w wr) (fun iv _ => kk - (intOf iv).toNat)
  case atStart => exact ⟨0, Nat.zero_le _, rfl, stepN⟩
  case round =>
    obtain ⟨k, hk1, rfl, _⟩ := hrel
    have n0 : Nw w wr := inferInstance
    have hbr : HB wr x 60 #[.slice A kk c, .int .i64 r.left, .int .i64 (r.tear : Int), .bool r.off] := inferInstance
    by_cases hkk : k < kk
    · have hkI : (k : Int) < (kk : Int) := by omega
      have hlt := H0.out (by omega)
      obtain ⟨hvt, hlen, hrd⟩ := HPG.out k hkk
      go_wp2_with (first | go_skip | ((with_reducible apply (wpl_guard (op := .load _ _))); (exact rfl)) | ((with_reducible apply (wpl_guard (op := .indexAddr _ _ _))); (exact rfl)) | ((with_reducible apply (wpl_guard (op := .fieldAddr _ _ _))); (exact rfl)) | ((with_reducible apply (wpl_guard (op := .convert _ _ _))); (exact rfl)) | ((with_reducible apply wpl_loadrow); (exact rfl); infer_instance; infer_instance; (first | (with_reducible assumption) | (with_reducible exact H32.size _) | kernel_rfl)) | ((with_reducible apply wpl_loadcellN); (exact rfl); infer_instance; (exact rfl)))
      refine (Read_at g p kk s _ k _ (HF.out.calm (stepN (w0 := w)).chg) rfl hkk).mono ?_
      obtain ⟨R, hR⟩ : ∃ R, R = (gt rows k).A := ⟨_, rfl⟩
      obtain ⟨rc, hrc⟩ : ∃ R, R = (gt rows k).c := ⟨_, rfl⟩
      obtain ⟨pg, hpgE⟩ : ∃ R, R = s.page k := ⟨_, rfl⟩
      rw [← hR, ← hrc] at hvt
      rw [← hR, ← hpgE] at hrd
      rw [← hpgE] at hlen ⊢
      clear hR hrc hpgE
      rintro e w5 ⟨A5, c5, rfl, hA5, _, hn5⟩
      have n5 : Nw w w5 := inferInstance
      have hpg : HR w5 R (bs pg) := ⟨hrd.later n5.out⟩
      have HSE : Hid (((strL pg).toList == (strL pg).toList) = true) := Lib.hid (by simp)
      clear hrd
      go_wp2_with (first | go_skip | ((with_reducible apply (wpl_guard (op := .load _ _))); (exact rfl)) | ((with_reducible apply (wpl_guard (op := .indexAddr _ _ _))); (exact rfl)) | ((with_reducible apply (wpl_guard (op := .fieldAddr _ _ _))); (exact rfl)) | ((with_reducible apply (wpl_guard (op := .convert _ _ _))); (exact rfl)) | ((with_reducible apply wpl_loadrow); (exact rfl); infer_instance; infer_instance; (first | (with_reducible assumption) | (with_reducible exact H32.size _) | kernel_rfl)) | ((with_reducible apply wpl_loadcellN); (exact rfl); infer_instance; (exact rfl)))
      refine wp_region_N (nowhere) (by kernel_rfl) (fun wd _ _ => ?_)
      refine' takeH (i := 0) (v := _) rfl (by kernel_rfl) (by kernel_rfl) (by kernel_rfl) (fun _ _ _ h => h) (yields_of (by rfl) (fun w' _ => ?_)) inferInstance ?_
      rotate_left
      · (go_simp; try with_reducible rfl)
      try simp only [Act.put, sA]; try simp only [sB, sC]
      refine' takeH (i := 1) (v := _) rfl (by kernel_rfl) (by kernel_rfl) (by kernel_rfl) (fun _ _ _ h => h) (yields_of (by rfl) (fun w' _ => ?_)) inferInstance ?_
      rotate_left
      · (go_simp; try with_reducible rfl)
      try simp only [Act.put, sA]; try simp only [sB, sC]
      try simp only [HSE.out]
      refine' takeH (i := 2) (v := _) rfl (by kernel_rfl) (by kernel_rfl) (by kernel_rfl) (fun _ _ _ h => h) (yields_of (by rfl) (fun w' _ => ?_)) inferInstance ?_
      rotate_left
      · (go_simp; try with_reducible rfl)
      try simp only [Act.put, sA]; try simp only [sB, sC]
      refine' takeH (i := 3) (v := _) rfl (by kernel_rfl) (by kernel_rfl) (by kernel_rfl) (fun _ _ _ h => h) (yields_of (by rfl) (fun w' _ => ?_)) inferInstance ?_
      rotate_left
      · (go_simp; try with_reducible rfl)
      try simp only [Act.put, sA]; try simp only [sB, sC]
      refine' takeH (i := 4) (v := _) rfl (by kernel_rfl) (by kernel_rfl) (by kernel_rfl) (fun _ _ _ h => h) (yields_of (by rfl) (fun w' _ => ?_)) inferInstance ?_
      rotate_left
      · (first | ((with_reducible apply ev_conv); (exact rfl); infer_instance; (first | (with_reducible assumption) | (focus (simp; done)) | omega); (exact Try.underlying28); (exact Try.underlying5); (exact Try.underlying9)) | (go_simp; try with_reducible rfl))
      try simp only [Act.put, sA]; try simp only [sB, sC]
      refine' takeH (i := 5) (v := _) rfl (by kernel_rfl) (by kernel_rfl) (by kernel_rfl) (fun _ _ _ h => h) (yields_of (by rfl) (fun w' _ => ?_)) inferInstance ?_
      rotate_left
      · (go_simp; try with_reducible rfl)
      try simp only [Act.put, sA]; try simp only [sB, sC]
      refine' takeH (i := 6) (v := _) rfl (by kernel_rfl) (by kernel_rfl) (by kernel_rfl) (fun _ _ _ h => h) (yields_of (by rfl) (fun w' _ => ?_)) inferInstance ?_
      rotate_left
      · (go_simp; try with_reducible rfl)
      try simp only [Act.put, sA]; try simp only [sB, sC]
      refine' takeH (i := 7) (v := _) rfl (by kernel_rfl) (by kernel_rfl) (by kernel_rfl) (fun _ _ _ h => h) (yields_of (by rfl) (fun w' _ => ?_)) inferInstance ?_
      rotate_left
      · (go_simp; try with_reducible rfl)
      try simp only [Act.put, sA]; try simp only [sB, sC]
      refine' takeH (i := 8) (v := _) rfl (by kernel_rfl) (by kernel_rfl) (by kernel_rfl) (fun _ _ _ h => h) (yields_of (by rfl) (fun w' _ => ?_)) inferInstance ?_
      rotate_left
      · (first | ((with_reducible apply ev_loadcellN); (exact rfl); infer_instance; infer_instance; (exact rfl)))
      try simp only [Act.put, sA]; try simp only [sB, sC]
      refine' takeH (i := 9) (v := _) rfl (by kernel_rfl) (by kernel_rfl) (by kernel_rfl) (fun _ _ _ h => h) (yields_of (by rfl) (fun w' _ => ?_)) inferInstance ?_
      rotate_left
      · (go_simp; try with_reducible rfl)
      try simp only [Act.put, sA]; try simp only [sB, sC]
      refine' takeH (i := 10) (v := _) rfl (by kernel_rfl) (by kernel_rfl) (by kernel_rfl) (fun _ _ _ h => h) (yields_of (by rfl) (fun w' _ => ?_)) inferInstance ?_
      rotate_left
      · (first | ((with_reducible apply (ev_index1 (k := k))); (exact rfl); (exact rfl); infer_instance; infer_instance; (exact hlt); (exact hkk)))
      try simp only [Act.put, sA]; try simp only [sB, sC]
      refine' takeH (i := 11) (v := _) rfl (by kernel_rfl) (by kernel_rfl) (by kernel_rfl) (fun _ _ _ h => h) (yields_of (by rfl) (fun w' _ => ?_)) inferInstance ?_
      rotate_left
      · (first | ((with_reducible apply (ev_load1 (k := k))); (exact rfl); infer_instance; infer_instance; (exact hvt)))
      try simp only [Act.put, sA]; try simp only [sB, sC]
      refine' takeH (i := 12) (v := _) rfl (by kernel_rfl) (by kernel_rfl) (by kernel_rfl) (fun _ _ _ h => h) (yields_of (by rfl) (fun w' _ => ?_)) inferInstance ?_
      rotate_left
      · (first | ((with_reducible apply ev_conv); (exact rfl); infer_instance; (first | (with_reducible assumption) | (focus (simp; done)) | omega); (exact Try.underlying28); (exact Try.underlying5); (exact Try.underlying9)) | (go_simp; try with_reducible rfl))
      try simp only [Act.put, sA]; try simp only [sB, sC]
      refine' takeH (i := 13) (v := _) rfl (by kernel_rfl) (by kernel_rfl) (by kernel_rfl) (fun _ _ _ h => h) (yields_of (by rfl) (fun w' _ => ?_)) inferInstance ?_
      rotate_left
      · (go_simp; try with_reducible rfl)
      try simp only [Act.put, sA]; try simp only [sB, sC]
      try simp only [HSE.out]
      refine' takeH (i := 14) (v := _) rfl (by kernel_rfl) (by kernel_rfl) (by kernel_rfl) (fun _ _ _ h => h) (yields_of (by rfl) (fun w' _ => ?_)) inferInstance ?_
      rotate_left
      · (go_simp; try with_reducible rfl)
      try simp only [Act.put, sA]; try simp only [sB, sC]
      refine wpAnyH_done (by kernel_rfl) ?_ _
      go_wp2_with (first | go_skip | ((with_reducible apply (wpl_guard (op := .load _ _))); (exact rfl)) | ((with_reducible apply (wpl_guard (op := .indexAddr _ _ _))); (exact rfl)) | ((with_reducible apply (wpl_guard (op := .fieldAddr _ _ _))); (exact rfl)) | ((with_reducible apply (wpl_guard (op := .convert _ _ _))); (exact rfl)) | ((with_reducible apply wpl_loadrow); (exact rfl); infer_instance; infer_instance; (first | (with_reducible assumption) | (with_reducible exact H32.size _) | kernel_rfl)) | ((with_reducible apply wpl_loadcellN); (exact rfl); infer_instance; (exact rfl)))
      exact ⟨⟨k + 1, by omega, by go_num, stepN⟩, by simp [intOf]; omega⟩
    · have hkI : ¬ (k : Int) < (kk : Int) := by omega
      go_wp2_with (first | go_skip | ((with_reducible apply (wpl_guard (op := .load _ _))); (exact rfl)) | ((with_reducible apply (wpl_guard (op := .indexAddr _ _ _))); (exact rfl)) | ((with_reducible apply (wpl_guard (op := .fieldAddr _ _ _))); (exact rfl)) | ((with_reducible apply (wpl_guard (op := .convert _ _ _))); (exact rfl)) | ((with_reducible apply wpl_loadrow); (exact rfl); infer_instance; infer_instance; (first | (with_reducible assumption) | (with_reducible exact H32.size _) | kernel_rfl)) | ((with_reducible apply wpl_loadcellN); (exact rfl); infer_instance; (exact rfl)))
      go_ret
      exact ⟨rfl, stepN⟩
end Go.Proofs.Ytfkjjlalfcajlaa
end
section
open Go Go.RowKit
namespace Go.Proofs.Ytfkjjlalfcajlaa
/-- a record, its number, an error -/
def loadN (N : Nat) (s : FS) : List UInt8 × Nat × Nat := if N < 80 then ([], 0, 1) else ((bestS s).2.2, (bestS s).2.1, if (bestS s).2.1 = 0 then 9 else 0)
def saveN (N : Nat) (s : FS) (b : List UInt8) : Nat × FS := if N < 80 then (1, s) else saveS N s b
def LoadQ (Q : List UInt8 × Nat × Nat) (w : World) (e : Ending) (w' : World) : Prop :=
  ∃ B m d, e = .returned (.tuple #[.slice B m d, .int .i64 (Q.2.1 : Int), .int .i64 (Q.2.2 : Int)]) ∧ Q.1.length = m ∧ m ≤ d ∧ HR w' B (bs Q.1) ∧ NewA w B ∧ Step nowhere w w'
theorem loadQ_none {w w' : World} {e : Ending} (he : e = .returned (.tuple #[.slice none 0 0, .int .i64 0, .int .i64 1])) (st : Step nowhere w w') : LoadQ ([], 0, 1) w e w' := ⟨none, 0, 0, he, rfl, Nat.le_refl _, ⟨Rd.nil _ _⟩, ⟨fun ad e => by cases e⟩, st⟩
section
variable {g p N x : Nat} {T : Nat → Prop} {s : FS} {r : RFS} {w : World}
theorem pLoad_calls (hF : FlashAt w g p N s) : Calls Try.prog 18 #[.pointer (some ⟨g, 0, none⟩)] w (LoadQ (loadN N s) w) := by
  by_cases h : N < 80
  · rw [loadN, if_pos h]
    exact (loadLow_calls hF h).mono fun e w' ⟨h1, h2⟩ => loadQ_none h1 h2
  · rw [loadN, if_neg h]
    refine (load_calls hF (by omega)).mono fun e w' ⟨B, m, d, h1, h2, h3, h4, h5, h6⟩ => ⟨B, m, d, ?_, h2, h3, h4, h5, h6⟩
    rw [h1]
    by_cases h0 : (bestS s).2.1 = 0
    · rw [if_pos h0, if_pos h0]; rfl
    · rw [if_neg h0, if_neg h0]; rfl
theorem rLoad_calls (hX : RF w x T r) (hR : Rel s r N) (ok : s.ok N) : Calls Try.prog 19 #[.pointer (some ⟨x, 0, none⟩)] w (LoadQ (loadN N s) w) := by
  by_cases h : N < 80
  · rw [loadN, if_pos h]
    exact (rloadLow_calls hX (by rw [hR.num]; exact h)).mono fun e w' ⟨h1, h2⟩ => loadQ_none h1 h2
  · have e : ((findS r).2.1, (findS r).2.2.1, (findS r).2.2.2) = loadN N s := by
      rw [loadN, if_neg h, find_best hR ok (by omega)]
      by_cases h0 : (bestS s).2.1 = 0
      · rw [if_pos h0, if_pos h0, show bestS s = (0, 0, []) from bestK_zero 2 h0]
      · rw [if_neg h0, if_neg h0]
    rw [← e]
    exact (rload_calls hX (by rw [hR.num]; omega)).mono fun _ _ h => h
theorem pSave_calls {A : Option Addr} {n c : Nat} {b : List UInt8} (hF : FlashAt w g p N s) [hr : HR w A (bs b)] (hl : b.length = n) (hn : n ≤ 9223372036854775807) :
    Calls Try.prog 12 #[.pointer (some ⟨g, 0, none⟩), .slice A n c] w fun e w' => e = .returned (.int .i64 ((saveN N s b).1 : Int)) ∧ Hid (FlashAt w' g p N (saveN N s b).2) ∧ Step (Two g p) w w' := by
  by_cases h : N < 80
  · rw [saveN, if_pos h]
    exact (saveLow_calls A n c hF h).mono fun e w' ⟨h1, h2⟩ => ⟨h1, Lib.hid (hF.calm h2.chg), ⟨h2.chg.mono (fun _ _ h => h.elim)⟩⟩
  · rw [saveN, if_neg h]
    exact (save_calls hF (by omega) hl hn).mono fun e w' ⟨h1, h2, h3⟩ => ⟨h1, Lib.hid h2, h3⟩
set_option maxRecDepth 100000 in
theorem rsaveLow_calls (A : Option Addr) (n c : Nat) (hX : RF w x T r) (hN : r.pgs.length < 80) :
    Calls Try.prog 13 #[.pointer (some ⟨x, 0, none⟩), .slice A n c] w fun e w' => e = .returned (.int .i64 1) ∧ Step nowhere w w' := by
  go_enter Try.func13, Try.ntmps13
  go_wp2_with (first | ((with_reducible apply wpl_loadrow); (exact rfl); infer_instance; infer_instance; (first | (with_reducible assumption) | (with_reducible exact H32.size _) | kernel_rfl)) | ((with_reducible apply wpl_loadcellN); (exact rfl); infer_instance; (exact rfl)))
  refine (findLow_calls hX hN).mono ?_
  rintro e w1 ⟨rfl, _⟩
  go_wp2_with (first | ((with_reducible apply wpl_loadrow); (exact rfl); infer_instance; infer_instance; (first | (with_reducible assumption) | (with_reducible exact H32.size _) | kernel_rfl)) | ((with_reducible apply wpl_loadcellN); (exact rfl); infer_instance; (exact rfl)))
  go_ret
  exact ⟨rfl, stepN⟩
theorem rSave_calls {A : Option Addr} {n c : Nat} {b : List UInt8} (hX : RF w x T r) (hR : Rel s r N) (ok : s.ok N) (hT : ∀ k, T k → k < w.heap.size) [hr : HR w A (bs b)] (hl : b.length = n) (hn : n ≤ 9223372036854775807) :
    Calls Try.prog 13 #[.pointer (some ⟨x, 0, none⟩), .slice A n c] w fun e w' => e = .returned (.int .i64 ((saveN N s b).1 : Int)) ∧ Hid (∃ r', RF w' x T r' ∧ Rel (saveN N s b).2 r' N) ∧ Step T w w' := by
  by_cases h : N < 80
  · rw [saveN, if_pos h]
    exact (rsaveLow_calls A n c hX (by rw [hR.num]; exact h)).mono fun e w' ⟨h1, h2⟩ => ⟨h1, Lib.hid ⟨r, hX.calm h2.chg, hR⟩, ⟨h2.chg.mono (fun _ _ h => h.elim)⟩⟩
  · rw [saveN, if_neg h]
    exact (rsave_calls hX hR ok (by omega) hT hl hn).mono fun e w' ⟨h1, h2, h3⟩ => ⟨h1, Lib.hid h2, h3⟩
end
end Go.Proofs.Ytfkjjlalfcajlaa
end
