/- SegTakes. -/
import Derived.Test.YtmeeopfdplaiaaaSgRg
open Go Go.RowKit
namespace Go.Proofs.Ytmeeopfdplaiaaa
/-- what both Joins are left in behind so many frames -/
structure SegInv (w wr : World) (z zx : Nat) (S X : Nat → Prop) (s : St) (i : Nat) (now : Int) : Prop where
  jj : JS wr z S s
  xx : XS wr zx X s
  ls : ∀ x, S x → w.heap.size ≤ x
  lx : ∀ x, X x → w.heap.size ≤ x
  dis : ∀ x, S x → ¬ X x
  n0 : 0 ≤ now
  n1 : now ≤ 40 * i
  N : s.N ≤ 2 * i
  m : s.m ≤ i
  lo : Lo s
theorem and31b (x : Int) : ∃ g : Nat, bits .and .i64 x 31 = (g : Int) ∧ g ≤ 31 := by
  have hle : (BitVec.ofInt 64 x &&& BitVec.ofInt 64 (31 : Int)).toNat ≤ 31 := by
    rw [BitVec.toNat_and]
    exact Nat.le_trans Nat.and_le_right (by decide)
  refine ⟨(BitVec.ofInt 64 x &&& BitVec.ofInt 64 (31 : Int)).toNat, ?_, hle⟩
  show IntKind.i64.wrap ((BitVec.ofInt 64 x &&& BitVec.ofInt 64 (31 : Int)).toNat : Int) = _
  rw [IntKind.wrap_i64]
  omega
set_option maxRecDepth 100000 in
set_option maxHeartbeats 3200000 in
theorem segTakes_calls {A : Option Addr} {n c : Nat} (l : List AM) {w : World} [h : HR w A (cellsOf l)] (hl : l.length = n) (hmax : n ≤ 9223372036854775807) (hok : ∀ a ∈ l, AOk w a) :
    Calls Try.prog 4 #[.slice A n c] w fun e w' => e = .returned (.bool true) ∧ Chg nowhere w w' := by
  have HLL := Lib.hid hl
  clear hl
  go_enter Try.func4, Try.ntmps4
  go_wp2_with fail
  refine (newJ_calls _).mono ?_
  rintro e w1 ⟨z, rfl, hs1, hJ1, hz⟩
  go_wp2_with (first | go_skip | ((with_reducible apply wpl_build); (exact run_newX _)) | ((with_reducible apply (wpl_box_agg (dst := some 13))); exact rfl; intro zx wzx _ _ _) | ((with_reducible apply (wpl_box_int (dst := some 13))); exact rfl; intro zx wzx _ _ _) | ((with_reducible apply (wpl_box_slice (dst := some 13))); exact rfl; intro zx wzx _ _ _) | ((with_reducible apply (wpl_box_str (dst := some 13))); exact rfl; intro zx wzx _ _ _) | ((with_reducible apply (wpl_box_bool (dst := some 13))); exact rfl; intro zx wzx _ _ _) | ((with_reducible apply (wpl_box_ptr (dst := some 13))); exact rfl; intro zx wzx _ _ _) | ((with_reducible apply wpl_box_agg); exact rfl; intro z wz _ _ _) | ((with_reducible apply wpl_box_int); exact rfl; intro z wz _ _ _) | ((with_reducible apply wpl_box_slice); exact rfl; intro z wz _ _ _) | ((with_reducible apply wpl_box_str); exact rfl; intro z wz _ _ _) | ((with_reducible apply wpl_box_bool); exact rfl; intro z wz _ _ _) | ((with_reducible apply wpl_box_ptr); exact rfl; intro z wz _ _ _) | ((with_reducible apply (wpl_guard (op := .load _ _))); exact rfl) | ((with_reducible apply (wpl_guard (op := .fieldAddr _ _ _))); exact rfl) | ((with_reducible apply wpl_loadrow); exact rfl; infer_instance; infer_instance; (first | with_reducible assumption | (with_reducible exact enc_sz _ rfl) | kernel_rfl)) | ((with_reducible apply wpl_loadcellN); exact rfl; infer_instance; exact rfl))
  have hX0 : XS wzx zx (only zx) st0 := XS.new inferInstance
  have hJ0 : JS wzx z (only z) st0 := hJ1.calm (stepN (w0 := w1) (w := wzx)).chg (fun _ _ hk => hk)
  have hzx : zx = w1.heap.size := (inferInstance : Born w1 zx).eq
  have hzl := hJ1.lt
  have hws := (inferInstance : SzLe w w1).out
  have HI := Lib.hid (show SegInv w wzx z zx (only z) (only zx) st0 0 0 from ⟨hJ0, hX0, fun x hx => by rw [show x = z from hx]; exact hz, fun x hx => by rw [show x = zx from hx]; omega, fun x hx hk => by
    have h1 : x = z := hx
    have h2 : x = zx := hk
    omega, Int.le_refl _, Int.le_refl _, Nat.le_refl _, Nat.le_refl _, Lo.st0⟩)
  clear hX0 hJ0 hzx hzl hws
  go_loopw [5, 6] (fun nv iv wr => ∃ (i : Nat) (now : Int) (S X : Nat → Prop) (s : St), i ≤ n ∧ i ≤ 200 ∧ nv = .int .i64 now ∧ iv = .int .i64 (i : Int) ∧ Step nowhere w wr ∧ Hid (SegInv w wr z zx S X s i now)) (fun _ iv _ => n - (intOf iv).toNat)
  case atStart => exact ⟨0, 0, _, _, _, Nat.zero_le _, Nat.zero_le _, rfl, rfl, stepN, HI⟩
  case round =>
    obtain ⟨i, now, S, X, s, hi, hi2, rfl, rfl, _, HI⟩ := hrel
    have stw : Step nowhere w wr := inferInstance
    by_cases hend : i < n ∧ i < 200
    · obtain ⟨hlt, hlt2⟩ := hend
      have hltI : (i : Int) < n := by omega
      have hltI2 : (i : Int) < 200 := by omega
      have hil : i < l.length := by have := HLL.out; omega
      have hln : l.length = n := HLL.out
      obtain ⟨k1, k2, k3, k4, k5⟩ := hok _ (gt_mem l i hil)
      by_cases h30 : 30 < (gt l i).n
      · have i30 : (30 : Int) < (gt l i).n := by omega
        have HI2 := Lib.hid (show SegInv w wr z zx S X s (i + 1) now from ⟨HI.out.jj, HI.out.xx, HI.out.ls, HI.out.lx, HI.out.dis, HI.out.n0, by have := HI.out.n1; omega, by have := HI.out.N; omega, by have := HI.out.m; omega, HI.out.lo⟩)
        go_wp2_with (first | go_skip | ((with_reducible apply wpl_box_agg); exact rfl; intro z wz _ _ _) | ((with_reducible apply wpl_box_int); exact rfl; intro z wz _ _ _) | ((with_reducible apply wpl_box_slice); exact rfl; intro z wz _ _ _) | ((with_reducible apply wpl_box_str); exact rfl; intro z wz _ _ _) | ((with_reducible apply wpl_box_bool); exact rfl; intro z wz _ _ _) | ((with_reducible apply wpl_box_ptr); exact rfl; intro z wz _ _ _) | ((with_reducible apply (wpl_guard (op := .load _ _))); exact rfl) | ((with_reducible apply (wpl_guard (op := .fieldAddr _ _ _))); exact rfl) | ((with_reducible apply wpl_loadrow); exact rfl; infer_instance; infer_instance; (first | with_reducible assumption | (with_reducible exact enc_sz _ rfl) | kernel_rfl)) | ((with_reducible apply wpl_loadcellN); exact rfl; infer_instance; exact rfl) | ((with_reducible apply wpl_max); exact rfl; exact rfl) | ((with_reducible apply (wpl_indexE (α := AM) (t := 32))); exact rfl; exact rfl; infer_instance; infer_instance; (first | with_reducible assumption | omega | (focus (simp; done)) | (focus (simp; omega; done)) | decide); exact rfl; (decide); (first | with_reducible assumption | omega | (focus (simp; done)) | (focus (simp; omega; done)) | decide)) | ((with_reducible apply (wpl_indexE0 (α := AM) (t := 32))); exact rfl; infer_instance; infer_instance; (first | with_reducible assumption | omega | (focus (simp; done)) | (focus (simp; omega; done)) | decide); exact rfl; (decide); (first | with_reducible assumption | omega | (focus (simp; done)) | (focus (simp; omega; done)) | decide)) | ((with_reducible apply (wpl_loadE (α := AM) (t := 42))); infer_instance; exact rfl; infer_instance; exact rfl; (decide); (first | with_reducible assumption | omega | (focus (simp; done)) | (focus (simp; omega; done)) | decide)) | ((with_reducible apply (wpl_fieldE (t := 42))); (exact Try.underlying42); exact rfl; (kernel_rfl); exact rfl; infer_instance; (exact cells_pos (by decide) (by omega))) | ((with_reducible apply (wpl_loadF (α := AM))); infer_instance; exact rfl; infer_instance; exact rfl; (first | with_reducible assumption | omega | (focus (simp; done)) | (focus (simp; omega; done)) | decide); exact rfl) | ((with_reducible apply (wpl_fieldE (t := 40))); (exact Try.underlying40); exact rfl; (kernel_rfl); exact rfl; infer_instance; (exact cells_pos (by decide) (by omega))) | ((with_reducible apply wpl_conv); exact rfl; infer_instance; (first | with_reducible assumption | (focus (simp; done)) | omega); (exact Try.underlying22); (exact Try.underlying5); (exact Try.underlying9)) | ((with_reducible apply (wpl_loadint (t := 3))); exact rfl; infer_instance; infer_instance; (first | with_reducible assumption | omega)) | ((with_reducible apply (wpl_loadbyte (t := 5))); exact rfl; infer_instance; infer_instance; (first | with_reducible assumption | omega)))
        refine ⟨⟨i + 1, now, S, X, s, by omega, by omega, rfl, rfl, stw, HI2⟩, by simp [intOf]; omega⟩
      · have i30 : ¬ (30 : Int) < (gt l i).n := by omega
        obtain ⟨g0, hg0, hgb⟩ := and31b (gt l i).later
        obtain ⟨nw, hnw⟩ : ∃ nw : Int, max 0 (now + g0 - 2) = nw := ⟨_, rfl⟩
        have hn0 := HI.out.n0
        have hn1 := HI.out.n1
        have hw0 : 0 ≤ nw := by omega
        have hw1 : nw ≤ 40 * (i : Int) + 40 := by omega
        have HNW := Lib.hid (show max 0 (wrap64 (wrap64 (now + bits .and .i64 (gt l i).later 31) - 2)) = nw by
          rw [hg0, ← hnw]
          unfold wrap64
          omega)
        obtain ⟨r, hr⟩ : ∃ r, takeS s (gt l i).id (gt l i).d nw = r := ⟨_, rfl⟩
        obtain ⟨s5, r2⟩ := r
        have tN := take_N s (gt l i).id (gt l i).d nw
        have tm := take_m s (gt l i).id (gt l i).d nw
        have tL := HI.out.lo.take (gt l i).id (gt l i).d hw0
        rw [hr] at tN tm tL
        have hapS : ∀ T : Nat → Prop, (∀ x, T x → w.heap.size ≤ x) → Apart T (gt l i).A (bs (gt l i).d) := fun T hT hne ad e hk => by
          have h1 := rd_lt k1 hne e
          have h2 := hT _ hk
          omega
        have T0 := take_calls (gt l i).id nw (n := (gt l i).n) (c := (gt l i).c) HI.out.jj (by have := HI.out.N; omega) (by have := HI.out.m; omega) k5 (k1.later stw.chg) (hapS S HI.out.ls) k2 k3 (by omega) (by omega) (by omega)
        have T1 : ∀ w5, XS w5 zx X s → Chg nowhere w w5 → Calls Try.prog 18 #[.pointer (some ⟨zx, 0, none⟩), .agg #[.int .i64 (gt l i).id, .slice (gt l i).A (gt l i).n (gt l i).c], .int .i64 nw] w5 (XTk zx X w5 (takeS s (gt l i).id (gt l i).d nw)) := fun w5 hX5 hc5 =>
          rtake_calls (gt l i).id nw hX5 (by have := HI.out.N; omega) (by have := HI.out.m; omega) (k1.later hc5) (hapS X HI.out.lx) k2 k3 (by omega) (fun v hv => ⟨(HI.out.jj.ok.ok _ v hv).1, HI.out.lo _ v hv, (HI.out.jj.ok.ok _ v hv).2.2.2.2⟩) hw0 (by omega)
        rw [hr] at T0
        simp only [hr] at T1
        unfold TkPost at T0
        unfold XTk at T1
        dsimp only at T0 T1 tN tm tL
        generalize r2.getD [] = bb at T0 T1
        generalize r2.isSome = ok at T0 T1
        have HT0 := Lib.hid T0
        have HT1 := Lib.hid T1
        clear T0 T1 hr hg0 hnw k1 k2 k3 k4 k5 hapS
        go_wp2_with (first | go_skip | ((with_reducible apply wpl_loadAF); exact rfl; infer_instance; (exact hil)) | ((with_reducible apply wpl_box_agg); exact rfl; intro z wz _ _ _) | ((with_reducible apply wpl_box_int); exact rfl; intro z wz _ _ _) | ((with_reducible apply wpl_box_slice); exact rfl; intro z wz _ _ _) | ((with_reducible apply wpl_box_str); exact rfl; intro z wz _ _ _) | ((with_reducible apply wpl_box_bool); exact rfl; intro z wz _ _ _) | ((with_reducible apply wpl_box_ptr); exact rfl; intro z wz _ _ _) | ((with_reducible apply (wpl_guard (op := .load _ _))); exact rfl) | ((with_reducible apply (wpl_guard (op := .fieldAddr _ _ _))); exact rfl) | ((with_reducible apply wpl_loadrow); exact rfl; infer_instance; infer_instance; (first | with_reducible assumption | (with_reducible exact enc_sz _ rfl) | kernel_rfl)) | ((with_reducible apply wpl_loadcellN); exact rfl; infer_instance; exact rfl) | ((with_reducible apply wpl_max); exact rfl; exact rfl) | ((with_reducible apply (wpl_indexE (α := AM) (t := 32))); exact rfl; exact rfl; infer_instance; infer_instance; (first | with_reducible assumption | omega | (focus (simp; done)) | (focus (simp; omega; done)) | decide); exact rfl; (decide); (first | with_reducible assumption | omega | (focus (simp; done)) | (focus (simp; omega; done)) | decide)) | ((with_reducible apply (wpl_indexE0 (α := AM) (t := 32))); exact rfl; infer_instance; infer_instance; (first | with_reducible assumption | omega | (focus (simp; done)) | (focus (simp; omega; done)) | decide); exact rfl; (decide); (first | with_reducible assumption | omega | (focus (simp; done)) | (focus (simp; omega; done)) | decide)) | ((with_reducible apply (wpl_loadE (α := AM) (t := 42))); infer_instance; exact rfl; infer_instance; exact rfl; (decide); (first | with_reducible assumption | omega | (focus (simp; done)) | (focus (simp; omega; done)) | decide)) | ((with_reducible apply (wpl_fieldE (t := 42))); (exact Try.underlying42); exact rfl; (kernel_rfl); exact rfl; infer_instance; (exact cells_pos (by decide) (by omega))) | ((with_reducible apply (wpl_loadF (α := AM))); infer_instance; exact rfl; infer_instance; exact rfl; (first | with_reducible assumption | omega | (focus (simp; done)) | (focus (simp; omega; done)) | decide); exact rfl) | ((with_reducible apply (wpl_fieldE (t := 40))); (exact Try.underlying40); exact rfl; (kernel_rfl); exact rfl; infer_instance; (exact cells_pos (by decide) (by omega))) | ((with_reducible apply wpl_conv); exact rfl; infer_instance; (first | with_reducible assumption | (focus (simp; done)) | omega); (exact Try.underlying22); (exact Try.underlying5); (exact Try.underlying9)) | ((with_reducible apply (wpl_loadint (t := 3))); exact rfl; infer_instance; infer_instance; (first | with_reducible assumption | omega)) | ((with_reducible apply (wpl_loadbyte (t := 5))); exact rfl; infer_instance; infer_instance; (first | with_reducible assumption | omega)))
        simp only [HNW.out]
        refine HT0.out.mono ?_
        rintro e w5 ⟨S5, B5, c5, hJ5, rfl, hC5, hS5, hR5, hB5⟩
        have n5 : Chg nowhere w w5 := stw.chg.step hC5 HI.out.ls
        have st5 : Step nowhere w w5 := ⟨n5⟩
        have hX5 : XS w5 zx X s := HI.out.xx.calm hC5 (fun x hx hk => HI.out.dis x hk hx)
        go_wp2_with (first | go_skip | ((with_reducible apply wpl_loadAF); exact rfl; infer_instance; (exact hil)) | ((with_reducible apply wpl_box_agg); exact rfl; intro z wz _ _ _) | ((with_reducible apply wpl_box_int); exact rfl; intro z wz _ _ _) | ((with_reducible apply wpl_box_slice); exact rfl; intro z wz _ _ _) | ((with_reducible apply wpl_box_str); exact rfl; intro z wz _ _ _) | ((with_reducible apply wpl_box_bool); exact rfl; intro z wz _ _ _) | ((with_reducible apply wpl_box_ptr); exact rfl; intro z wz _ _ _) | ((with_reducible apply (wpl_guard (op := .load _ _))); exact rfl) | ((with_reducible apply (wpl_guard (op := .fieldAddr _ _ _))); exact rfl) | ((with_reducible apply wpl_loadrow); exact rfl; infer_instance; infer_instance; (first | with_reducible assumption | (with_reducible exact enc_sz _ rfl) | kernel_rfl)) | ((with_reducible apply wpl_loadcellN); exact rfl; infer_instance; exact rfl) | ((with_reducible apply wpl_max); exact rfl; exact rfl) | ((with_reducible apply (wpl_indexE (α := AM) (t := 32))); exact rfl; exact rfl; infer_instance; infer_instance; (first | with_reducible assumption | omega | (focus (simp; done)) | (focus (simp; omega; done)) | decide); exact rfl; (decide); (first | with_reducible assumption | omega | (focus (simp; done)) | (focus (simp; omega; done)) | decide)) | ((with_reducible apply (wpl_indexE0 (α := AM) (t := 32))); exact rfl; infer_instance; infer_instance; (first | with_reducible assumption | omega | (focus (simp; done)) | (focus (simp; omega; done)) | decide); exact rfl; (decide); (first | with_reducible assumption | omega | (focus (simp; done)) | (focus (simp; omega; done)) | decide)) | ((with_reducible apply (wpl_loadE (α := AM) (t := 42))); infer_instance; exact rfl; infer_instance; exact rfl; (decide); (first | with_reducible assumption | omega | (focus (simp; done)) | (focus (simp; omega; done)) | decide)) | ((with_reducible apply (wpl_fieldE (t := 42))); (exact Try.underlying42); exact rfl; (kernel_rfl); exact rfl; infer_instance; (exact cells_pos (by decide) (by omega))) | ((with_reducible apply (wpl_loadF (α := AM))); infer_instance; exact rfl; infer_instance; exact rfl; (first | with_reducible assumption | omega | (focus (simp; done)) | (focus (simp; omega; done)) | decide); exact rfl) | ((with_reducible apply (wpl_fieldE (t := 40))); (exact Try.underlying40); exact rfl; (kernel_rfl); exact rfl; infer_instance; (exact cells_pos (by decide) (by omega))) | ((with_reducible apply wpl_conv); exact rfl; infer_instance; (first | with_reducible assumption | (focus (simp; done)) | omega); (exact Try.underlying22); (exact Try.underlying5); (exact Try.underlying9)) | ((with_reducible apply (wpl_loadint (t := 3))); exact rfl; infer_instance; infer_instance; (first | with_reducible assumption | omega)) | ((with_reducible apply (wpl_loadbyte (t := 5))); exact rfl; infer_instance; infer_instance; (first | with_reducible assumption | omega)))
        refine (HT1.out w5 hX5 n5).mono ?_
        rintro e w6 ⟨B6, c6, rfl, ⟨X6, hX6, hC6, hX6'⟩, hR6⟩
        have n6 : Chg nowhere w w6 := n5.step hC6 HI.out.lx
        have hXl := HI.out.xx.low
        have hdis : ∀ x, S5 x → ¬ X x := fun x hx hk => (hS5 x hx).elim (fun h => HI.out.dis x h hk) (fun h => by have := hXl x hk; omega)
        have hJ6 : JS w6 z S5 s5 := hJ5.calm hC6 hdis
        have hR56 : HR w6 B5 (bs bb) := ⟨hR5.chg hC6 (fun hne ad e hk => (hB5 (by simpa [bs] using hne) ad e).elim (fun h => HI.out.dis _ h hk) (fun h => by have := hXl _ hk; omega))⟩
        have hR66 : HR w6 B6 (bs bb) := ⟨hR6⟩
        have st6 : Step nowhere w w6 := ⟨n6⟩
        obtain ⟨ol, oA, oc, obk, oO, _, _, _, oq⟩ := hX6.mem
        have hBx : HB w6 zx 38 #[.slice oA ol.length oc, .int .i64 s5.N] := ⟨obk⟩
        have HI2 := Lib.hid (show ∀ w7, Chg nowhere w6 w7 → SegInv w w7 z zx S5 X6 s5 (i + 1) nw from fun w7 hc7 => ⟨hJ6.calm hc7 (fun _ _ hk => hk), hX6.calm hc7 (fun _ _ hk => hk), fun x hx => (hS5 x hx).elim (HI.out.ls x) (fun h => Nat.le_trans stw.chg.size h), fun x hx => (hX6' x hx).elim (HI.out.lx x) (fun h => Nat.le_trans n5.size h), fun x hx hk => (hX6' x hk).elim (hdis x hx) (fun h => by have := hJ5.low x hx; omega), hw0, by omega, by have := HI.out.N; omega, by have := HI.out.m; omega, tL⟩)
        clear hR5 hB5 hX5 hJ5 hS5 hdis hXl
        go_wp2_with fail
        refine wp_region_N (nowhere) (by kernel_rfl) (fun wd _ _ => ?_)
        refine' takeH (i := 0) (v := _) rfl (by kernel_rfl) (by kernel_rfl) (by kernel_rfl) (fun _ _ _ h => h) (yields_of (by rfl) (fun w' _ => ?_)) inferInstance ?_
        rotate_left
        · (go_simp; try with_reducible rfl)
        try simp only [Act.put, sA]; try simp only [sB, sC]
        refine' takeH (i := 1) (v := _) rfl (by kernel_rfl) (by kernel_rfl) (by kernel_rfl) (fun _ _ _ h => h) (yields_of (by rfl) (fun w' _ => ?_)) inferInstance ?_
        rotate_left
        · (first | ((with_reducible apply ev_conv); exact rfl; infer_instance; (first | with_reducible assumption | (focus (simp; done)) | omega); (exact Try.underlying22); (exact Try.underlying5); (exact Try.underlying9)) | (go_simp; try with_reducible rfl))
        try simp only [Act.put, sA]; try simp only [sB, sC]
        refine' takeH (i := 2) (v := _) rfl (by kernel_rfl) (by kernel_rfl) (by kernel_rfl) (fun _ _ _ h => h) (yields_of (by rfl) (fun w' _ => ?_)) inferInstance ?_
        rotate_left
        · (go_simp; try with_reducible rfl)
        try simp only [Act.put, sA]; try simp only [sB, sC]
        refine' takeH (i := 3) (v := _) rfl (by kernel_rfl) (by kernel_rfl) (by kernel_rfl) (fun _ _ _ h => h) (yields_of (by rfl) (fun w' _ => ?_)) inferInstance ?_
        rotate_left
        · (first | ((with_reducible apply ev_conv); exact rfl; infer_instance; (first | with_reducible assumption | (focus (simp; done)) | omega); (exact Try.underlying22); (exact Try.underlying5); (exact Try.underlying9)) | (go_simp; try with_reducible rfl))
        try simp only [Act.put, sA]; try simp only [sB, sC]
        refine' takeH (i := 4) (v := _) rfl (by kernel_rfl) (by kernel_rfl) (by kernel_rfl) (fun _ _ _ h => h) (yields_of (by rfl) (fun w' _ => ?_)) inferInstance ?_
        rotate_left
        · (go_simp; try with_reducible rfl)
        try simp only [Act.put, sA]; try simp only [sB, sC]
        refine' takeH (i := 5) (v := _) rfl (by kernel_rfl) (by kernel_rfl) (by kernel_rfl) (fun _ _ _ h => h) (yields_of (by rfl) (fun w' _ => ?_)) inferInstance ?_
        rotate_left
        · (go_simp; try with_reducible rfl)
        try simp only [Act.put, sA]; try simp only [sB, sC]
        refine' takeH (i := 6) (v := _) rfl (by kernel_rfl) (by kernel_rfl) (by kernel_rfl) (fun _ _ _ h => h) (yields_of (by rfl) (fun w' _ => ?_)) inferInstance ?_
        rotate_left
        · (go_simp; try with_reducible rfl)
        try simp only [Act.put, sA]; try simp only [sB, sC]
        refine' takeH (i := 7) (v := _) rfl (by kernel_rfl) (by kernel_rfl) (by kernel_rfl) (fun _ _ _ h => h) (yields_of (by rfl) (fun w' _ => ?_)) inferInstance ?_
        rotate_left
        · (go_simp; try with_reducible rfl)
        try simp only [Act.put, sA]; try simp only [sB, sC]
        refine' takeH (i := 8) (v := _) rfl (by kernel_rfl) (by kernel_rfl) (by kernel_rfl) (fun _ _ _ h => h) (yields_of (by rfl) (fun w' _ => ?_)) inferInstance ?_
        rotate_left
        · (go_simp; try with_reducible rfl)
        try simp only [Act.put, sA]; try simp only [sB, sC]
        refine' takeH (i := 9) (v := _) rfl (by kernel_rfl) (by kernel_rfl) (by kernel_rfl) (fun _ _ _ h => h) (yields_of (by rfl) (fun w' _ => ?_)) inferInstance ?_
        rotate_left
        · (go_simp; try with_reducible rfl)
        try simp only [Act.put, sA]; try simp only [sB, sC]
        refine' takeH (i := 10) (v := _) rfl (by kernel_rfl) (by kernel_rfl) (by kernel_rfl) (fun _ _ _ h => h) (yields_of (by rfl) (fun w' _ => ?_)) inferInstance ?_
        rotate_left
        · (go_simp; try with_reducible rfl)
        try simp only [Act.put, sA]; try simp only [sB, sC]
        refine' takeH (i := 11) (v := _) rfl (by kernel_rfl) (by kernel_rfl) (by kernel_rfl) (fun _ _ _ h => h) (yields_of (by rfl) (fun w' _ => ?_)) inferInstance ?_
        rotate_left
        · (go_simp; try with_reducible rfl)
        try simp only [Act.put, sA]; try simp only [sB, sC]
        refine' takeH (i := 13) (v := _) rfl (by kernel_rfl) (by kernel_rfl) (by kernel_rfl) (fun _ _ _ h => h) (yields_of (by rfl) (fun w' _ => ?_)) inferInstance ?_
        rotate_left
        · (go_simp; try with_reducible rfl)
        try simp only [Act.put, sA]; try simp only [sB, sC]
        refine' takeH (i := 14) (v := _) rfl (by kernel_rfl) (by kernel_rfl) (by kernel_rfl) (fun _ _ _ h => h) (yields_of (by rfl) (fun w' _ => ?_)) inferInstance ?_
        rotate_left
        · (go_simp; try with_reducible rfl)
        try simp only [Act.put, sA]; try simp only [sB, sC]
        refine' takeH (i := 15) (v := _) rfl (by kernel_rfl) (by kernel_rfl) (by kernel_rfl) (fun _ _ _ h => h) (yields_of (by rfl) (fun w' _ => ?_)) inferInstance ?_
        rotate_left
        · (first | ((with_reducible apply (ev_fieldE (t := 42))); (exact Try.underlying42); exact rfl; (kernel_rfl); exact rfl; infer_instance; (exact cells_pos (by decide) (by omega))) | ((with_reducible apply (ev_fieldE (t := 40))); (exact Try.underlying40); exact rfl; (kernel_rfl); exact rfl; infer_instance; (exact cells_pos (by decide) (by omega))) | (go_simp; try with_reducible rfl))
        try simp only [Act.put, sA]; try simp only [sB, sC]
        refine' takeH (i := 16) (v := _) rfl (by kernel_rfl) (by kernel_rfl) (by kernel_rfl) (fun _ _ _ h => h) (yields_of (by rfl) (fun w' _ => ?_)) inferInstance ?_
        rotate_left
        · (first | ((with_reducible apply ev_loadrow); exact rfl; infer_instance; infer_instance; (first | with_reducible assumption | (with_reducible exact enc_sz _ rfl) | kernel_rfl)) | ((with_reducible apply ev_loadcellN); exact rfl; infer_instance; infer_instance; exact rfl) | ((with_reducible apply (ev_loadE (α := AM) (t := 42))); infer_instance; exact rfl; infer_instance; exact rfl; (decide); (first | with_reducible assumption | omega | (focus (simp; done)) | (focus (simp; omega; done)) | decide)) | ((with_reducible apply (ev_loadF (α := AM))); infer_instance; exact rfl; infer_instance; exact rfl; (first | with_reducible assumption | omega | (focus (simp; done)) | (focus (simp; omega; done)) | decide); exact rfl) | ((with_reducible apply (ev_loadint (t := 3))); exact rfl; infer_instance; infer_instance; (first | with_reducible assumption | omega)) | ((with_reducible apply (ev_loadbyte (t := 5))); exact rfl; infer_instance; infer_instance; (first | with_reducible assumption | omega)) | (go_simp; try with_reducible rfl))
        try simp only [Act.put, sA]; try simp only [sB, sC]
        refine goH (i := 12) (by kernel_rfl) rfl (fun K_ hK_ => ?_)
        go_simp
        refine (errors_calls (hJ6.calm (stepN (w0 := w6) (w := wd)).chg (fun _ _ hk => hk))).mono ?_
        rintro e w7 ⟨rfl, _⟩
        refine hK_.out _ _ inferInstance (fun _ => ?_)
        clear hK_ K_
        try simp only [Act.put, sA]; try simp only [sB, sC]
        refine' takeH (i := 17) (v := _) rfl (by kernel_rfl) (by kernel_rfl) (by kernel_rfl) (fun _ _ _ h => h) (yields_of (by rfl) (fun w' _ => ?_)) inferInstance ?_
        rotate_left
        · (go_simp; try with_reducible rfl)
        try simp only [Act.put, sA]; try simp only [sB, sC]
        refine' takeH (i := 18) (v := _) rfl (by kernel_rfl) (by kernel_rfl) (by kernel_rfl) (fun _ _ _ h => h) (yields_of (by rfl) (fun w' _ => ?_)) inferInstance ?_
        rotate_left
        · (go_simp; try with_reducible rfl)
        try simp only [Act.put, sA]; try simp only [sB, sC]
        refine' takeH (i := 19) (v := _) rfl (by kernel_rfl) (by kernel_rfl) (by kernel_rfl) (fun _ _ _ h => h) (yields_of (by rfl) (fun w' _ => ?_)) inferInstance ?_
        rotate_left
        · (go_simp; try with_reducible rfl)
        try simp only [Act.put, sA]; try simp only [sB, sC]
        refine' takeH (i := 20) (v := _) rfl (by kernel_rfl) (by kernel_rfl) (by kernel_rfl) (fun _ _ _ h => h) (yields_of (by rfl) (fun w' _ => ?_)) inferInstance ?_
        rotate_left
        · (go_simp; try with_reducible rfl)
        try simp only [Act.put, sA]; try simp only [sB, sC]
        refine' takeH (i := 22) (v := _) rfl (by kernel_rfl) (by kernel_rfl) (by kernel_rfl) (fun _ _ _ h => h) (yields_of (by rfl) (fun w' _ => ?_)) inferInstance ?_
        rotate_left
        · (go_simp; try with_reducible rfl)
        try simp only [Act.put, sA]; try simp only [sB, sC]
        refine goH (i := 21) (by kernel_rfl) rfl (fun K_ hK_ => ?_)
        go_simp
        refine (open_calls (hJ6.calm (stepN (w0 := w6) (w := w7)).chg (fun _ _ hk => hk))).mono ?_
        rintro e w8 ⟨rfl, _⟩
        refine hK_.out _ _ inferInstance (fun _ => ?_)
        clear hK_ K_
        try simp only [Act.put, sA]; try simp only [sB, sC]
        refine goH (i := 23) (by kernel_rfl) rfl (fun K_ hK_ => ?_)
        go_simp
        refine (ropen_calls (hX6.calm (stepN (w0 := w6) (w := w8)).chg (fun _ _ hk => hk))).mono ?_
        rintro e w9 ⟨rfl, _⟩
        refine hK_.out _ _ inferInstance (fun _ => ?_)
        clear hK_ K_
        try simp only [Act.put, sA]; try simp only [sB, sC]
        refine' takeH (i := 24) (v := _) rfl (by kernel_rfl) (by kernel_rfl) (by kernel_rfl) (fun _ _ _ h => h) (yields_of (by rfl) (fun w' _ => ?_)) inferInstance ?_
        rotate_left
        · (go_simp; try with_reducible rfl)
        try simp only [Act.put, sA]; try simp only [sB, sC]
        refine' takeH (i := 25) (v := _) rfl (by kernel_rfl) (by kernel_rfl) (by kernel_rfl) (fun _ _ _ h => h) (yields_of (by rfl) (fun w' _ => ?_)) inferInstance ?_
        rotate_left
        · (go_simp; try with_reducible rfl)
        try simp only [Act.put, sA]; try simp only [sB, sC]
        refine wpAnyH_done (by kernel_rfl) ?_ _
        have hc9 := (stepN (w0 := w6) (w := w9)).chg
        have st9 : Step nowhere w w9 := ⟨n6.trans hc9 (fun _ _ h => h)⟩
        have HI3 := Lib.hid (HI2.out w9 hc9)
        clear hc9
        go_wp2_with fail
        refine ⟨⟨i + 1, nw, S5, X6, s5, by omega, by omega, rfl, rfl, st9, HI3⟩, by simp [intOf]; omega⟩
    · have hcond : (¬ (i : Int) < n) ∨ ((i : Int) < n ∧ ¬ (i : Int) < 200) := by omega
      have hln : l.length = n := HLL.out
      rcases hcond with c1 | ⟨c1, c2⟩
      all_goals
        go_wp2_with fail
        refine (sKnown_calls _).mono ?_
        rintro e w4 ⟨rfl, hs4⟩
        go_wp2_with fail
        go_ret
        exact ⟨rfl, stw.chg.trans hs4.chg (fun _ _ hk => hk)⟩
end Go.Proofs.Ytmeeopfdplaiaaa
