/- SlS, SlT, SlU -/
import Derived.Test.YtegdihpnefoolaaTjSlR
import Derived.Test.YtegdihpnefoolaaTjSlI
section
open Go Go.RowKit
namespace Go.Proofs.Ytegdihpnefoolaa
def findW (a b : List UInt8 × Nat) : Int × List UInt8 × Nat × Nat := if a.2 = 0 ∧ b.2 = 0 then (-1, [], 0, 9) else if b.2 ≤ a.2 then (0, a.1, a.2, 0) else (1, b.1, b.2, 0)
def findS (s : RFS) : Int × List UInt8 × Nat × Nat := findW (wholeS (flatF s 0 (0 + 40))) (wholeS (flatF s 40 (40 + 40)))
theorem results4 {fn : Func} {a b c d : Tmp} (h : fn.results = #[.tmp a, .tmp b, .tmp c, .tmp d]) (tmps : Array Value) (P : Program) (w : World) : (results fn tmps).run P w = .ok (.tuple #[tmps.getD a undef, tmps.getD b undef, tmps.getD c undef, tmps.getD d undef]) w := by
  simp [results, h]
def FindPost (F : Int × List UInt8 × Nat × Nat) (w : World) (e : Ending) (w' : World) : Prop :=
  ∃ B m d, e = .returned (.tuple #[.int .i64 F.1, .slice B m d, .int .i64 (F.2.2.1 : Int), .int .i64 (F.2.2.2 : Int)]) ∧ F.2.1.length = m ∧ m ≤ d ∧ HR w' B (bs F.2.1) ∧ NewA w B ∧ Step nowhere w w'
set_option maxRecDepth 100000 in
set_option maxHeartbeats 1600000 in
theorem find_calls {w : World} {x : Nat} {T : Nat → Prop} {s : RFS} (h : RF w x T s) (hN : 80 ≤ s.pgs.length) :
    Calls Try.prog 40 #[.pointer (some ⟨x, 0, none⟩)] w (FindPost (findS s) w) := by
  have HF := Lib.hid h
  have HN := Lib.hid hN
  obtain ⟨A, kk, c, rows, h1, h2, h3, h4, h5⟩ := h
  have hb : HB w x 63 _ := ⟨h1.head⟩
  have hl : s.pgs.length = kk := by rw [← h2, List.length_map, h1.num]
  have hk : kk ≤ 256 := h1.most
  have hkI : ¬ (kk : Int) < 80 := by omega
  obtain ⟨W0, hW0⟩ : ∃ W, W = wholeS (flatF s 0 (0 + 40)) := ⟨_, rfl⟩
  obtain ⟨W1, hW1⟩ : ∃ W, W = wholeS (flatF s 40 (40 + 40)) := ⟨_, rfl⟩
  obtain ⟨F, hF⟩ : ∃ F, F = findS s := ⟨_, rfl⟩
  have HFS : Hid (F = findW W0 W1) := Lib.hid (by rw [hF, hW0, hW1]; rfl)
  have HW0 := Lib.hid hW0
  have HW1 := Lib.hid hW1
  rw [← hF]
  clear h1 h2 h3 h4 h5 hl hN hW0 hW1 hF
  go_enter Try.func40, Try.ntmps40
  go_wp2_with (first | go_skip | ((with_reducible apply wpl_loadrow); (exact rfl); infer_instance; infer_instance; (first | (with_reducible assumption) | (with_reducible exact H32.size _) | kernel_rfl)) | ((with_reducible apply wpl_loadcellN); (exact rfl); infer_instance; (exact rfl)))
  refine (whole_calls 0 (HF.out.calm (stepN (w0 := w)).chg) (by have := HN.out; omega) 0 rfl).mono ?_
  rw [← HW0.out]
  rintro e w1 ⟨B0, m0, d0, rfl, hm0, hd0, hB0, hn0, _⟩
  go_wp2_with (first | go_skip | ((with_reducible apply wpl_loadrow); (exact rfl); infer_instance; infer_instance; (first | (with_reducible assumption) | (with_reducible exact H32.size _) | kernel_rfl)) | ((with_reducible apply wpl_loadcellN); (exact rfl); infer_instance; (exact rfl)))
  refine (whole_calls 40 (HF.out.calm (stepN (w0 := w)).chg) (by have := HN.out; omega) 40 rfl).mono ?_
  rw [← HW1.out]
  rintro e w2 ⟨B1, m1, d1, rfl, hm1, hd1, hB1, hn1, _⟩
  have nB0 : NewA w B0 := inferInstance
  have nB1 : NewA w B1 := NewA.monoS hn1
  obtain ⟨x0, hx0⟩ : ∃ x0 : Int, x0 = (W0.2 : Int) := ⟨_, rfl⟩
  obtain ⟨x1, hx1⟩ : ∃ x1 : Int, x1 = (W1.2 : Int) := ⟨_, rfl⟩
  rw [← hx0, ← hx1]
  have HX0 := Lib.hid hx0
  have HX1 := Lib.hid hx1
  have hp0 : 0 ≤ x0 := by omega
  have hp1 : 0 ≤ x1 := by omega
  have HM0 := Lib.hid hm0
  have HM1 := Lib.hid hm1
  clear hx0 hx1 hm0 hm1
  by_cases hz0 : x0 = 0
  · have e0 : (x0 == 0) = true := by simp [hz0]
    by_cases hz1 : x1 = 0
    · have e1 : (x1 == 0) = true := by simp [hz1]
      have HF2 : Hid (F = (-1, [], 0, 9)) := Lib.hid (by rw [HFS.out, findW, if_pos (by have := HX0.out; have := HX1.out; omega)])
      clear hz0 hz1 HFS
      go_wp2_with (first | go_skip | ((with_reducible apply wpl_loadrow); (exact rfl); infer_instance; infer_instance; (first | (with_reducible assumption) | (with_reducible exact H32.size _) | kernel_rfl)) | ((with_reducible apply wpl_loadcellN); (exact rfl); infer_instance; (exact rfl)))
      refine bodyPost_ret (results4 rfl _ _ _) rfl ?_
      show FindPost F w _ _
      unfold FindPost
      rw [HF2.out]
      exact ⟨none, 0, 0, rfl, rfl, Nat.le_refl _, ⟨Rd.nil _ _⟩, ⟨fun ad e => by cases e⟩, stepN⟩
    · have e1 : (x1 == 0) = false := by simp [hz1]
      have g1 : ¬ x1 ≤ x0 := by omega
      have HF2 : Hid (F = (1, W1.1, W1.2, 0)) := Lib.hid (by rw [HFS.out, findW, if_neg (by have := HX0.out; have := HX1.out; omega), if_neg (by have := HX0.out; have := HX1.out; omega)])
      clear hz0 hz1 HFS
      go_wp2_with (first | go_skip | ((with_reducible apply wpl_loadrow); (exact rfl); infer_instance; infer_instance; (first | (with_reducible assumption) | (with_reducible exact H32.size _) | kernel_rfl)) | ((with_reducible apply wpl_loadcellN); (exact rfl); infer_instance; (exact rfl)))
      refine bodyPost_ret (results4 rfl _ _ _) rfl ?_
      show FindPost F w _ _
      unfold FindPost
      rw [HF2.out, HX1.out]
      exact ⟨B1, m1, d1, rfl, HM1.out, hd1, inferInstance, nB1, stepN⟩
  · have e0 : (x0 == 0) = false := by simp [hz0]
    by_cases g1 : x1 ≤ x0
    · have HF2 : Hid (F = (0, W0.1, W0.2, 0)) := Lib.hid (by rw [HFS.out, findW, if_neg (by have := HX0.out; have := HX1.out; omega), if_pos (by have := HX0.out; have := HX1.out; omega)])
      clear hz0 HFS
      go_wp2_with (first | go_skip | ((with_reducible apply wpl_loadrow); (exact rfl); infer_instance; infer_instance; (first | (with_reducible assumption) | (with_reducible exact H32.size _) | kernel_rfl)) | ((with_reducible apply wpl_loadcellN); (exact rfl); infer_instance; (exact rfl)))
      refine bodyPost_ret (results4 rfl _ _ _) rfl ?_
      show FindPost F w _ _
      unfold FindPost
      rw [HF2.out, HX0.out]
      exact ⟨B0, m0, d0, rfl, HM0.out, hd0, inferInstance, nB0, stepN⟩
    · have HF2 : Hid (F = (1, W1.1, W1.2, 0)) := Lib.hid (by rw [HFS.out, findW, if_neg (by have := HX0.out; have := HX1.out; omega), if_neg (by have := HX0.out; have := HX1.out; omega)])
      clear hz0 HFS
      go_wp2_with (first | go_skip | ((with_reducible apply wpl_loadrow); (exact rfl); infer_instance; infer_instance; (first | (with_reducible assumption) | (with_reducible exact H32.size _) | kernel_rfl)) | ((with_reducible apply wpl_loadcellN); (exact rfl); infer_instance; (exact rfl)))
      refine bodyPost_ret (results4 rfl _ _ _) rfl ?_
      show FindPost F w _ _
      unfold FindPost
      rw [HF2.out, HX1.out]
      exact ⟨B1, m1, d1, rfl, HM1.out, hd1, inferInstance, nB1, stepN⟩
set_option maxRecDepth 100000 in
theorem findLow_calls {w : World} {x : Nat} {T : Nat → Prop} {s : RFS} (h : RF w x T s) (hN : s.pgs.length < 80) :
    Calls Try.prog 40 #[.pointer (some ⟨x, 0, none⟩)] w fun e w' => e = .returned (.tuple #[.int .i64 0, .slice none 0 0, .int .i64 0, .int .i64 1]) ∧ Step nowhere w w' := by
  obtain ⟨A, kk, c, rows, h1, h2, h3, h4, h5⟩ := h
  have hb : HB w x 63 _ := ⟨h1.head⟩
  have hl : s.pgs.length = kk := by rw [← h2, List.length_map, h1.num]
  have hkI : (kk : Int) < 80 := by omega
  clear h1 h2 h3 h4 h5 hl hN
  go_enter Try.func40, Try.ntmps40
  go_wp2_with (first | go_skip | ((with_reducible apply wpl_loadrow); (exact rfl); infer_instance; infer_instance; (first | (with_reducible assumption) | (with_reducible exact H32.size _) | kernel_rfl)) | ((with_reducible apply wpl_loadcellN); (exact rfl); infer_instance; (exact rfl)))
  exact bodyPost_ret (results4 rfl _ _ _) rfl ⟨rfl, stepN⟩
set_option maxRecDepth 100000 in
theorem rload_calls {w : World} {x : Nat} {T : Nat → Prop} {s : RFS} (h : RF w x T s) (hN : 80 ≤ s.pgs.length) :
    Calls Try.prog 16 #[.pointer (some ⟨x, 0, none⟩)] w fun e w' => ∃ B m d, e = .returned (.tuple #[.slice B m d, .int .i64 ((findS s).2.2.1 : Int), .int .i64 ((findS s).2.2.2 : Int)]) ∧ (findS s).2.1.length = m ∧ m ≤ d ∧ HR w' B (bs (findS s).2.1) ∧ NewA w B ∧ Step nowhere w w' := by
  obtain ⟨F, hF⟩ : ∃ F, F = findS s := ⟨_, rfl⟩
  have HF := Lib.hid hF
  rw [← hF]
  clear hF
  go_enter Try.func16, Try.ntmps16
  go_wp2_with (first | fail)
  refine (find_calls h hN).mono ?_
  unfold FindPost
  rw [← HF.out]
  rintro e w1 ⟨B, m, d, rfl, hm, hd, hB, hn, _⟩
  go_wp2_with (first | fail)
  refine bodyPost_ret (results_tmp3 rfl _ _ _) rfl ?_
  exact ⟨B, m, d, rfl, hm, hd, inferInstance, hn, stepN⟩
set_option maxRecDepth 100000 in
theorem rloadLow_calls {w : World} {x : Nat} {T : Nat → Prop} {s : RFS} (h : RF w x T s) (hN : s.pgs.length < 80) :
    Calls Try.prog 16 #[.pointer (some ⟨x, 0, none⟩)] w fun e w' => e = .returned (.tuple #[.slice none 0 0, .int .i64 0, .int .i64 1]) ∧ Step nowhere w w' := by
  go_enter Try.func16, Try.ntmps16
  go_wp2_with (first | fail)
  refine (findLow_calls h hN).mono ?_
  rintro e w1 ⟨rfl, _⟩
  go_wp2_with (first | fail)
  refine bodyPost_ret (results_tmp3 rfl _ _ _) rfl ?_
  exact ⟨rfl, stepN⟩
end Go.Proofs.Ytegdihpnefoolaa
end
section
open Go Go.RowKit
namespace Go.Proofs.Ytegdihpnefoolaa
theorem change_ok {N : Nat} {s : FS} {i : Int} {n : Nat} {f : Deed} (h : s.ok N) (hf : ∀ (xs : List UInt8) (o k : Nat), k ≤ 64 → o + k ≤ xs.length → (f xs o k).length = xs.length) : (s.change N i n f).2.ok N := by
  obtain ⟨h1, h2, h3, _, h5⟩ := FS.burn_ok h
  unfold FS.change
  split
  · exact h
  · split
    · exact h
    · rename_i hb
      have hi : i.toNat < N := by omega
      have hl := h.len
      have hc := h.fit
      have ht := h.tear
      split
      · exact ⟨by show (f s.pages _ _).length = _; rw [hf _ _ _ (by omega) (by omega), h5]; exact hl, h1.fit, h1.most, h1.tear, h1.left⟩
      · exact ⟨by show (f s.pages _ _).length = _; rw [hf _ _ _ (by omega) (by omega), h5]; exact hl, h1.fit, h1.most, h1.tear, h1.left⟩
theorem er_ok {N : Nat} {s : FS} (i : Int) (n : Nat) (h : s.ok N) : (s.change N i n erD).2.ok N := change_ok h (fun _ _ _ _ h2 => erD_len h2)
theorem pr_ok {N : Nat} {s : FS} (i : Int) (n : Nat) (b : List UInt8) (h : s.ok N) : (s.change N i n (prD b)).2.ok N := change_ok h (fun _ _ _ _ h2 => prD_len h2)
theorem eraseK_ok {N : Nat} {s : FS} (first : Nat) (h : s.ok N) : ∀ k, (eraseK N s first k).2.ok N
  | 0 => h
  | k + 1 => by
    have ih := eraseK_ok first h k
    rw [eraseK]
    split
    · exact er_ok _ _ ih
    · exact ih
theorem progK_ok {N : Nat} {r0 : Nat × FS} (first : Nat) (b : List UInt8) (many : Nat) (h : r0.2.ok N) : ∀ k, (progK N r0 first b many k).2.ok N
  | 0 => h
  | k + 1 => by
    have ih := progK_ok first b many h k
    rw [progK]
    split
    · exact pr_ok _ _ _ ih
    · exact ih
theorem writeS_ok {N : Nat} {s : FS} (first : Nat) (b : List UInt8) (h : s.ok N) : (writeS N s first b).2.ok N := progK_ok first b _ (eraseK_ok first h _) _
theorem saveS_ok {N : Nat} {s : FS} (b : List UInt8) (h : s.ok N) : (saveS N s b).2.ok N := by
  unfold saveS
  split
  · exact h
  · split
    · exact h
    · split
      · exact h
      · exact writeS_ok _ _ h
theorem rel_slot {s : FS} {r : RFS} {N : Nat} (h : Rel s r N) (ok : s.ok N) (hN : 80 ≤ N) (i : Nat) (hi : i < 2) : flatF r (i * 40) (i * 40 + 40) = slotB s i := by
  rw [← slot_flat ok hN i hi, flatF, show i * 40 + 40 - i * 40 = 40 by omega]
  congr 1
  apply List.map_congr_left
  intro j hj
  rw [List.mem_range] at hj
  exact h.page _ (by omega)
theorem bestS_eq (s : FS) : (((bestS s).1 : Int), (bestS s).2.2, (bestS s).2.1, (0 : Nat)) = if (wholeS (slotB s 0)).2 < (wholeS (slotB s 1)).2 then (1, (wholeS (slotB s 1)).1, (wholeS (slotB s 1)).2, 0) else if (wholeS (slotB s 0)).2 = 0 then (0, [], 0, 0) else (0, (wholeS (slotB s 0)).1, (wholeS (slotB s 0)).2, 0) := by
  have h0 := unp_n (slotB s 0)
  have h1 := unp_n (slotB s 1)
  have k0 : bestK s 0 = (0, 0, []) := rfl
  unfold bestS wholeS
  rcases e0 : (unpS (slotB s 0)).ok with _ | _ <;> rcases e1 : (unpS (slotB s 1)).ok with _ | _
  · rw [bestK_no (k := 1) e1, bestK_no (k := 0) e0, k0]
    rfl
  · have a1 := (h1 e1).1
    have hk : bestK s 1 = (0, 0, []) := by rw [bestK_no (k := 0) e0, k0]
    rw [bestK_up (k := 1) e1 (by rw [hk]; exact a1)]
    exact (if_pos (show 0 < (unpS (slotB s 1)).n by omega)).symm
  · have a0 := (h0 e0).1
    rw [bestK_no (k := 1) e1, bestK_up (k := 0) e0 (by rw [k0]; exact a0)]
    exact ((if_neg (show ¬ (unpS (slotB s 0)).n < 0 by omega)).trans (if_neg (show ¬ (unpS (slotB s 0)).n = 0 by omega))).symm
  · have a0 := (h0 e0).1
    have a1 := (h1 e1).1
    have hk : bestK s 1 = (0, (unpS (slotB s 0)).n, (unpS (slotB s 0)).b) := bestK_up (k := 0) e0 (by rw [k0]; exact a0)
    by_cases hlt : (unpS (slotB s 0)).n < (unpS (slotB s 1)).n
    · rw [bestK_up (k := 1) e1 (by rw [hk]; exact hlt)]
      exact (if_pos hlt).symm
    · rw [bestK_low (k := 1) (by rw [hk]; exact hlt), hk]
      exact ((if_neg hlt).trans (if_neg (show ¬ (unpS (slotB s 0)).n = 0 by omega))).symm
theorem find_best {s : FS} {r : RFS} {N : Nat} (h : Rel s r N) (ok : s.ok N) (hN : 80 ≤ N) : findS r = if (bestS s).2.1 = 0 then (-1, [], 0, 9) else (((bestS s).1 : Int), (bestS s).2.2, (bestS s).2.1, 0) := by
  have e0 := rel_slot h ok hN 0 (by decide)
  have e1 := rel_slot h ok hN 1 (by decide)
  have e0' : flatF r 0 (0 + 40) = slotB s 0 := e0
  have e1' : flatF r 40 (40 + 40) = slotB s 1 := e1
  have hb := bestS_eq s
  unfold findS findW
  rw [e0', e1']
  by_cases hlt : (wholeS (slotB s 0)).2 < (wholeS (slotB s 1)).2
  · rw [if_pos hlt] at hb
    have hn : (bestS s).2.1 = (wholeS (slotB s 1)).2 := congrArg (fun x => x.2.2.1) hb
    rw [if_neg (by omega), if_neg (by omega), if_neg (by omega)]
    exact hb.symm
  · rw [if_neg hlt] at hb
    by_cases hz : (wholeS (slotB s 0)).2 = 0
    · rw [if_pos hz] at hb
      have hn : (bestS s).2.1 = 0 := congrArg (fun x => x.2.2.1) hb
      rw [if_pos (by omega), if_pos hn]
    · rw [if_neg hz] at hb
      have hn : (bestS s).2.1 = (wholeS (slotB s 0)).2 := congrArg (fun x => x.2.2.1) hb
      rw [if_neg (by omega), if_pos (by omega), if_neg (by omega)]
      exact hb.symm
end Go.Proofs.Ytegdihpnefoolaa
end
section
open Go Go.RowKit
namespace Go.Proofs.Ytegdihpnefoolaa
theorem HR.cutS {w : World} {A : Option Addr} {xs : List UInt8} (h : HR w A (bs xs)) {n c : Nat} (hl : xs.length = n) (hc : n ≤ c) (k : Nat) : HR w (cutA A k c 1) (bs (xs.drop k)) := ⟨by
  unfold cutA
  split
  · rw [List.drop_eq_nil_of_le (by omega)]
    exact Rd.nil _ _
  · have := h.out.drop k
    rw [Nat.mul_one, show bs (xs.drop k) = (bs xs).drop k from List.map_drop]
    exact this⟩
theorem cutS_block {A : Option Addr} {k c s : Nat} {ad : Addr} (h : cutA A k c s = some ad) : ∃ ad0, A = some ad0 ∧ ad.block = ad0.block := by
  unfold cutA shift at h
  split at h
  · exact ⟨ad, h, rfl⟩
  · cases A with
    | none => cases h
    | some a0 =>
      injection h with h
      exact ⟨a0, rfl, by rw [← h, block_of_add]⟩
theorem wpl_sl_lhS {P : Program} {ops : Array Oper} {rest : List Oper} {a : Act} {w : World} {Q : Exit → Act → World → Prop} {dst : Option Tmp} {ty : TypeId} {pos : String} {after : Array Edge} {t e : TypeId} {size bytes : Nat} {z : Value} {x y y2 : Operand} {A : Option Addr} {n c : Nat} {v v2 : Int} (k m : Nat) (hx : a.eval x = .slice A n c) (hy : a.eval y = .int .i64 v) (hy2 : a.eval y2 = .int .i64 v2) (hv : v = (k : Int)) (hv2 : v2 = (m : Int)) (E : ElemT P t e size bytes z) (hk : k ≤ m) (hm : m ≤ c)
    (h : wpList P ops Q rest (a.put dst (.slice (cutA A k c size) (m - k) (c - k))) w) : wpList P ops Q (⟨dst, .slice t x (some y) (some y2) none, ty, pos, after, none⟩ :: rest) a w :=
  wpl_sl_lh hx (hy.trans (by rw [hv])) (hy2.trans (by rw [hv2])) E hk hm h
set_option maxRecDepth 100000 in
set_option maxHeartbeats 1600000 in
theorem part_calls {A : Option Addr} {n c : Nat} {b : List UInt8} (i : Nat) (v : Int) (hv : v = (i : Int)) {w : World} [hr : HR w A (bs b)] (hl : b.length = n) (hc : n ≤ c) (hi : i * 64 < n) (hn : n ≤ 1000000) :
    Calls Try.prog 42 #[.slice A n c, .int .i64 v] w fun e w' => ∃ A' c' m, e = .returned (.slice A' m c') ∧ (pieceB b i).length = m ∧ HR w' A' (bs (pieceB b i)) ∧ (∀ ad, A' = some ad → ∃ ad0, A = some ad0 ∧ ad.block = ad0.block) ∧ Step nowhere w w' := by
  subst hv
  obtain ⟨m, hm⟩ : ∃ m : Nat, min (n : Int) (((i : Int) + 1) * 64) = (m : Int) := ⟨min n ((i + 1) * 64), by omega⟩
  have hm1 : m ≤ c := by omega
  have hm2 : i * 64 ≤ m := by omega
  have HM := Lib.hid hm
  have HL := Lib.hid hl
  have hrp : HR w (cutA A (i * 64) c 1) (bs (pieceB b i)) := by
    have h := hr.cutS hl hc (i * 64)
    have h2 := h.out.take 64
    rw [bs, ← List.map_take] at h2
    rw [pieceB, Nat.mul_comm 64 i]
    exact ⟨h2⟩
  have hpl : (pieceB b i).length = m - i * 64 := by rw [pieceB, List.length_take, List.length_drop, hl]; omega
  clear hm hl
  go_enter Try.func42, Try.ntmps42
  go_wp2_with (first | ((with_reducible apply wpl_mineq); (exact rfl); (exact rfl); (exact HM.out)) | ((with_reducible apply (wpl_sl_lhS (i * 64) m)); (exact rfl); (exact rfl); (exact rfl); (first | omega | go_num); (first | omega | go_num); infer_instance; (exact hm2); (exact hm1)))
  go_ret
  exact ⟨_, _, _, rfl, hpl, hrp, fun ad e => cutS_block e, stepN⟩
end Go.Proofs.Ytegdihpnefoolaa
end
