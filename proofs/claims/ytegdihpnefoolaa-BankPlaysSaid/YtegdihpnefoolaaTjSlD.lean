/- SlD -/
import Derived.Test.YtegdihpnefoolaaTjSlC
open Go Go.RowKit
namespace Go.Proofs.Ytegdihpnefoolaa
theorem nums_get (l : List UInt8) (i : Nat) (h : i < l.length) : (l.map fun x => (x.toNat : Int)).getD i 0 = (l[i].toNat : Int) := by
  rw [List.getD_eq_getElem?_getD, List.getElem?_map, List.getElem?_eq_getElem h]
  rfl
theorem bytesOf_nums (l : List UInt8) : Lib.bytesOf (l.map fun x => (x.toNat : Int)) = l := by
  unfold Lib.bytesOf
  rw [List.map_map]
  conv => rhs; rw [← List.map_id l]
  apply List.map_congr_left
  intro x _
  simp
theorem rd_cells {w : World} {ad : Addr} {l : List UInt8} (h : Rd w (some ad) (bs l)) (hp : ad = ⟨ad.block, ad.off, none⟩) : ∀ i, i < l.length → w.cell? ⟨ad.block, ad.off + i, none⟩ = some (.int .u8 ((l.map fun x => (x.toNat : Int)).getD i 0)) := fun i hi => by
  obtain ⟨ad', e, hc⟩ := h i (u8v l[i]) (by simp [bs, hi])
  injection e with e
  subst e
  rw [nums_get l i hi]
  rcases ad with ⟨b, o, z⟩
  injection hp with _ _ hz
  subst hz
  have h2 : w.cell? (if i = 0 then ⟨b, o, none⟩ else ⟨b, o + i, none⟩) = some (u8v l[i]) := by simpa [Addr.add] using hc
  show w.cell? ⟨b, o + i, none⟩ = some (u8v l[i])
  by_cases h0 : i = 0
  · rw [if_pos h0] at h2
    rw [show o + i = o by omega]
    exact h2
  · rw [if_neg h0] at h2
    exact h2
theorem rd_plain {w : World} {ad : Addr} {l : List UInt8} (h : Rd w (some ad) (bs l)) (h0 : 0 < l.length) : ad = ⟨ad.block, ad.off, none⟩ := by
  obtain ⟨ad', e, hc⟩ := h 0 (u8v l[0]) (by simp [bs, h0])
  injection e with e
  subst e
  rw [add_zero_spot] at hc
  exact addr_plain hc
theorem isPrefix_prefB (xs ys : List UInt8) : ys.isPrefixOf xs = prefB xs ys := by
  unfold prefB
  rw [Bool.eq_iff_iff, List.isPrefixOf_iff_prefix, Bool.and_eq_true, decide_eq_true_eq, decide_eq_true_eq]
  constructor
  · intro h
    exact ⟨h.length_le, (List.prefix_iff_eq_take.1 h).symm⟩
  · rintro ⟨_, h⟩
    exact List.prefix_iff_eq_take.2 h.symm
theorem hasPrefix_calls {A B : Option Addr} {n c m d : Nat} {xs ys : List UInt8} {w : World} [hx : HR w A (bs xs)] [hy : HR w B (bs ys)] (hn : xs.length = n) (hm : ys.length = m) (hc : n ≤ c) (h0 : 0 < n) (h1 : 0 < m) :
    Calls Try.prog 93 #[.slice A n c, .slice B m d] w fun e w' => e = .returned (.bool (prefB xs ys)) ∧ Step nowhere w w' := by
  obtain ⟨ad, rfl, _⟩ := hx.out.lt (by rw [bs_length]; omega)
  obtain ⟨bd, rfl, _⟩ := hy.out.lt (by rw [bs_length]; omega)
  have ha := rd_plain hx.out (by omega)
  have hb := rd_plain hy.out (by omega)
  have h := Try.bytes_HasPrefix ad.block ad.off n c bd.block bd.off m d (xs.map fun x => (x.toNat : Int)) (ys.map fun x => (x.toNat : Int)) w (by rw [List.length_map]; exact hn) (by rw [List.length_map]; exact hm) hc
    (fun i hi => rd_cells hx.out ha i (by omega)) (fun i hi => rd_cells hy.out hb i (by omega))
  rw [← ha, ← hb] at h
  refine h.mono ?_
  rintro e w' ⟨rfl, rfl⟩
  refine ⟨?_, ⟨Chg.refl _ _⟩⟩
  rw [bytesOf_nums, bytesOf_nums]
  show Ending.returned (.bool (ys.isPrefixOf xs)) = _
  rw [isPrefix_prefB]
set_option maxRecDepth 100000 in
set_option maxHeartbeats 1600000 in
theorem unpack_calls {A : Option Addr} {n c : Nat} {all : List UInt8} {w : World} [hr : HR w A (bs all)] (hl : all.length = n) (hc : n ≤ c) (hn : n ≤ 100000) (h0 : 0 < n) :
    Calls Try.prog 67 #[.slice A n c] w fun e w' => ∃ B m d, e = .returned (.tuple #[.int .i64 ((unpS all).n : Int), .slice B m d, .bool (unpS all).ok]) ∧ (unpS all).b.length = m ∧ m ≤ d ∧ HR w' B (bs (unpS all).b) ∧ NewA w B ∧ Step nowhere w w' := by
  have HLL := Lib.hid hl
  have HRR := Lib.hid hr.out
  obtain ⟨U, hU⟩ : ∃ U, U = unpS all := ⟨_, rfl⟩
  obtain ⟨E, hE⟩ : ∃ E, E = rdE all := ⟨_, rfl⟩
  obtain ⟨N, hN⟩ : ∃ N, N = rdN all := ⟨_, rfl⟩
  obtain ⟨b, hb⟩ : ∃ b, b = rdB all := ⟨_, rfl⟩
  have hblen : b.length ≤ n := by rw [hb, ← hl]; exact rdB_len all
  have hU2 : U = if (!E && decide (1 ≤ N) && decide (N ≤ 1073741824) && decide (b.length ≤ 2500)) = true then ⟨N, b, prefB all (packS N b)⟩ else ⟨0, [], false⟩ := by
    rw [hU, hE, hN, hb]
    rfl
  have HU := Lib.hid hU2
  have HE : Hid ((⟨all, false⟩ : RS).num.2.row.2.e = E) := Lib.hid hE.symm
  have HN : Hid ((⟨all, false⟩ : RS).num.1 = N) := Lib.hid hN.symm
  have HBB : Hid ((⟨all, false⟩ : RS).num.2.row.1 = b) := Lib.hid hb.symm
  rw [← hU]
  clear hl hU hE hN hb hU2
  go_enter Try.func67, Try.ntmps67
  go_wp2_with (first | go_skip)
  refine (NewReader_calls A n c all _ HRR.out HLL.out (by omega)).mono ?_
  rintro e w1 ⟨g, d, rfl, hR1, hc1, hg1, hd1⟩
  have s1 : Step nowhere w w1 := ⟨hc1.out⟩
  have HR1 := hR1
  clear hR1 hc1
  go_wp2_with (first | go_skip)
  refine (Num_calls g d _ w1 HR1.out (by show all.length ≤ _; have := HLL.out; omega)).mono ?_
  rw [HN.out]
  rintro e w2 ⟨rfl, h2, c2⟩
  have n2 : Nw w w2 := ⟨s1.chg.trans c2.out (fun x hx h => by have h' : x = g := h; omega)⟩
  have HR2 := h2
  clear h2 c2
  go_wp2_with (first | go_skip)
  refine (rBytes_calls g d _ w2 HR2.out (by have h1 := RS.num_le ⟨all, false⟩; have h2 : (⟨all, false⟩ : RS).b.length = all.length := rfl; have := HLL.out; omega)).mono ?_
  rw [HBB.out]
  rintro e w3 ⟨B, m, dd, rfl, hm3, ho3, h3, c3, hn3⟩
  have n3 : Nw w w3 := ⟨n2.out.trans c3.out (fun x hx h => by have h' : x = g := h; omega)⟩
  have hB3 : HO w3 5 1 B m dd (bs b) := ⟨ho3.out⟩
  have hcapB := own_cap ho3.out
  have nB : NewA w B := ⟨fun ad e => Nat.le_trans n2.out.size (hn3.out ad e)⟩
  have HM3 : Hid (b.length = m) := Lib.hid hm3.out.symm
  have HR3 := h3
  clear h3 c3 hm3 ho3 hn3
  go_wp2_with (first | go_skip)
  refine (Good_calls g d _ w3 HR3.out).mono ?_
  rw [HE.out]
  rintro e w4 ⟨rfl, rfl⟩
  cases E with
  | true =>
    have HU2 : Hid (U = ⟨0, [], false⟩) := Lib.hid (by rw [HU.out]; rfl)
    clear HU
    go_wp2_with (first | go_skip | ((with_reducible apply (wpl_guard (op := .call _))); (exact rfl)) | ((with_reducible apply (wpl_guard (op := .load _ _))); (exact rfl)))
    refine bodyPost_ret (results_tmp3 rfl _ _ _) rfl ?_
    rw [HU2.out]
    exact ⟨none, 0, 0, rfl, rfl, Nat.le_refl _, ⟨Rd.nil _ _⟩, ⟨fun ad e => by cases e⟩, stepN⟩
  | false =>
    by_cases c1 : N < 1
    · have HU2 : Hid (U = ⟨0, [], false⟩) := Lib.hid (by rw [HU.out, if_neg (by simp; omega)])
      have c1I : (N : Int) < 1 := by omega
      clear HU
      go_wp2_with (first | go_skip | ((with_reducible apply (wpl_guard (op := .call _))); (exact rfl)) | ((with_reducible apply (wpl_guard (op := .load _ _))); (exact rfl)))
      refine bodyPost_ret (results_tmp3 rfl _ _ _) rfl ?_
      rw [HU2.out]
      exact ⟨none, 0, 0, rfl, rfl, Nat.le_refl _, ⟨Rd.nil _ _⟩, ⟨fun ad e => by cases e⟩, stepN⟩
    · have c1I : ¬ (N : Int) < 1 := by omega
      by_cases c2 : 1073741824 < N
      · have HU2 : Hid (U = ⟨0, [], false⟩) := Lib.hid (by rw [HU.out, if_neg (by simp; omega)])
        have c2I : 1073741824 < (N : Int) := by omega
        clear HU
        go_wp2_with (first | go_skip | ((with_reducible apply (wpl_guard (op := .call _))); (exact rfl)) | ((with_reducible apply (wpl_guard (op := .load _ _))); (exact rfl)))
        refine bodyPost_ret (results_tmp3 rfl _ _ _) rfl ?_
        rw [HU2.out]
        exact ⟨none, 0, 0, rfl, rfl, Nat.le_refl _, ⟨Rd.nil _ _⟩, ⟨fun ad e => by cases e⟩, stepN⟩
      · have c2I : ¬ 1073741824 < (N : Int) := by omega
        by_cases c3 : 2500 < m
        · have HU2 : Hid (U = ⟨0, [], false⟩) := Lib.hid (by rw [HU.out, if_neg (by have := HM3.out; simp; omega)])
          have c3I : 2500 < (m : Int) := by omega
          clear HU
          go_wp2_with (first | go_skip | ((with_reducible apply (wpl_guard (op := .call _))); (exact rfl)) | ((with_reducible apply (wpl_guard (op := .load _ _))); (exact rfl)))
          refine bodyPost_ret (results_tmp3 rfl _ _ _) rfl ?_
          rw [HU2.out]
          exact ⟨none, 0, 0, rfl, rfl, Nat.le_refl _, ⟨Rd.nil _ _⟩, ⟨fun ad e => by cases e⟩, stepN⟩
        · have c3I : ¬ 2500 < (m : Int) := by omega
          have HU2 : Hid (U = ⟨N, b, prefB all (packS N b)⟩) := Lib.hid (by rw [HU.out, if_pos (by have := HM3.out; simp; omega)])
          clear HU
          go_wp2_with (first | go_skip | ((with_reducible apply (wpl_guard (op := .call _))); (exact rfl)) | ((with_reducible apply (wpl_guard (op := .load _ _))); (exact rfl)))
          refine (pack_calls (b := b) (N : Int) HM3.out (by omega)).mono ?_
          rintro e w5 ⟨P, pn, pc, rfl, hpl, hpc, hP, hnP, _⟩
          have hp0 : 0 < pn := by rw [← hpl, packS_len]; omega
          have HPL := Lib.hid hpl
          clear hpl
          have n5 : Nw w w5 := inferInstance
          have hA5 : HR w5 A (bs all) := ⟨HRR.out.later n5.out⟩
          go_wp2_with (first | go_skip)
          refine (hasPrefix_calls (xs := all) (ys := packS (N : Int) b) HLL.out HPL.out hc h0 hp0).mono ?_
          rintro e w6 ⟨rfl, _⟩
          go_wp2_with (first | go_skip)
          refine bodyPost_ret (results_tmp3 rfl _ _ _) rfl ?_
          rw [HU2.out]
          exact ⟨B, m, dd, rfl, HM3.out, hcapB, inferInstance, nB, stepN⟩
end Go.Proofs.Ytegdihpnefoolaa
