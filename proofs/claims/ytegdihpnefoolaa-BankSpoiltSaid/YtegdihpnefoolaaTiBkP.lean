/- BkP -/
import Derived.Test.YtegdihpnefoolaaTiBkO
open Go Go.RowKit
namespace Go.Proofs.Ytegdihpnefoolaa
theorem spoil96 {s : FS} (ok : s.ok 96) (hv : live s) (P : Nat) (hP : P < 96) (y : List UInt8) (hy : y.length = 64) :
    ∃ s3 s4, s.change 96 (P : Int) 64 erD = (0, s3) ∧ s3.change 96 (P : Int) 64 (prD y) = (0, s4) ∧ s4.ok 96 ∧ live s4 ∧ s4.page P = y ∧ ∀ j, j < 96 → j ≠ P → s4.page j = s.page j := by
  have e3 := FS.change_plain (f := erD) hv.1 hv.2 hP (Nat.le_refl 64)
  obtain ⟨s3, h3⟩ : ∃ s3, s3 = ({ s with pages := erD s.pages (P * 64) 64 } : FS) := ⟨_, rfl⟩
  rw [← h3] at e3
  have ok3 : s3.ok 96 := by
    have := er_ok (P : Int) 64 ok
    rw [e3] at this
    exact this
  have hv3 : live s3 := by rw [h3]; exact hv
  have c3 := change_at (f := erD) (F := erF) ok hv.1 hP (Nat.le_refl 64) (deals_er 96 64)
  rw [e3] at c3
  have p3 : s3.page P = ones 64 := by
    rcases c3.1 with ⟨_, _, c⟩ | ⟨c, _⟩
    · exact c.trans (erF_all (page_len' ok hP))
    · cases c
  have e4 := FS.change_plain (f := prD y) hv3.1 hv3.2 hP (Nat.le_refl 64)
  obtain ⟨s4, h4⟩ : ∃ s4, s4 = ({ s3 with pages := prD y s3.pages (P * 64) 64 } : FS) := ⟨_, rfl⟩
  rw [← h4] at e4
  have ok4 : s4.ok 96 := by
    have := pr_ok (P : Int) 64 y ok3
    rw [e4] at this
    exact this
  have hd := deals_pr y 96
  rw [hy] at hd
  have c4 := change_at (f := prD y) (F := prF y) ok3 hv3.1 hP (Nat.le_refl 64) hd
  rw [e4] at c4
  refine ⟨s3, s4, e3, e4, ok4, by rw [h4]; exact hv3, ?_, fun j hj hne => by rw [c4.2 j hj hne]; exact c3.2 j hj hne⟩
  rcases c4.1 with ⟨_, _, c⟩ | ⟨c, _⟩
  · have c' : s4.page P = prF y (s3.page P) 64 := c
    rw [c', p3]
    unfold prF
    rw [← hy, List.take_length, fall_ones _ _ (Nat.le_refl _)]
    unfold ones
    rw [List.drop_replicate, Nat.sub_self, List.replicate_zero, List.append_nil]
  · cases c
theorem boot_inv {s : FS} {D : BSt} {img : List UInt8} (boot : bootS 96 s = (D, img, 0)) : (bestS s).2.1 ≠ 0 ∧ dOk (bestS s).2.2 = true ∧ decS (bestS s).2.2 = D ∧ (bankB s D.bank).take D.size = img ∧ sha img = D.sum.l := by
  unfold bootS at boot
  rw [if_neg (by decide)] at boot
  split at boot
  · cases congrArg (fun x => x.2.2) boot
  · rename_i h0
    split at boot
    · rename_i h1
      split at boot
      · rename_i h4
        have e1 := congrArg (fun x => x.1) boot
        have e2 := congrArg (fun x => x.2.1) boot
        have e1' : decS (bestS s).2.2 = D := e1
        have e2' : (bankB s (decS (bestS s).2.2).bank).take (decS (bestS s).2.2).size = img := e2
        rw [e1'] at e2' h4
        rw [e2'] at h4
        exact ⟨h0, h1, e1', e2', h4⟩
      · cases congrArg (fun x => x.2.2) boot
    · cases congrArg (fun x => x.2.2) boot
theorem img_byte {s : FS} {img : List UInt8} {n k : Nat} (hi : (bankB s 0).take n = img) (hk : k < img.length) (hn : n ≤ 512) : img[k]? = (s.page (80 + k / 64))[k % 64]? := by
  have hkn : k < n := by
    have := congrArg List.length hi
    rw [List.length_take] at this
    omega
  rw [← hi, List.getElem?_take, if_pos hkn, bank_page s 0 k (by omega)]
theorem spoilt_boot {s s4 : FS} {n : Nat} {D : BSt} {img : List UInt8} {k : Nat} {z : UInt8} (h : BankS s n (D, img, 0)) (hb : D.bank = 0) (hz : D.size = img.length) (hk : k < img.length) (h5 : img.length ≤ 512) (ok4 : s4.ok 96) (hP : s4.page (80 + k / 64) = (s.page (80 + k / 64)).set (k % 64) z) (ho : ∀ j, j < 96 → j ≠ 80 + k / 64 → s4.page j = s.page j) (hne : sha (img.set k z) ≠ sha img) : bootS 96 s4 = (bkZero, [], 8) := by
  obtain ⟨i1, i2, i3, i4, i5⟩ := boot_inv h.boot
  have hbs : bestS s4 = bestS s := best_same h.ok ok4 (by decide) (fun j hj => ho j (by omega) (by omega))
  rw [hb, hz] at i4
  have hpl := page_len' h.ok (show 80 + k / 64 < 96 by omega)
  have hbk : (bankB s4 0).take img.length = img.set k z := by
    apply List.ext_getElem?
    intro j
    rw [List.getElem?_take, List.getElem?_set]
    by_cases hj : j < img.length
    · rw [if_pos hj, bank_page s4 0 j (by omega)]
      by_cases hjp : j / 64 = k / 64
      · rw [show 80 + 0 * 8 + j / 64 = 80 + k / 64 by omega, hP, List.getElem?_set]
        by_cases hjk : k = j
        · rw [if_pos (by rw [hjk]), if_pos hjk, if_pos (by omega), if_pos hk]
        · rw [if_neg (by omega), if_neg hjk, img_byte i4 hj h5, hjp]
      · rw [ho _ (by omega) (by omega), if_neg (by intro e; rw [e] at hjp; exact hjp rfl), img_byte i4 hj h5]
    · rw [if_neg hj, if_neg (by omega), List.getElem?_eq_none (by omega)]
  unfold bootS
  rw [if_neg (by decide), hbs, if_neg i1, if_pos i2, i3, hb, hz, hbk, if_neg (by rw [← i5]; exact hne)]
theorem inst_bad {s : FS} (hd : s.dead = false) {x : Nat} (boot : bootS 96 s = (bkZero, [], x)) (h0 : x ≠ 0) (h9 : x ≠ 9) {nm img mind : List UInt8} {cnt : Int} (hi : img.length ≤ 512) (hnm : nm.length ≤ 12) (hmd : mind.length ≤ 2000) (c0 : 0 ≤ cnt) (c1 : cnt ≤ 1073741824) : instS 96 s nm img cnt mind = (x, s) := by
  unfold instS
  rw [if_neg (by decide), if_neg (by rw [hd]; decide), if_neg (by omega), if_neg (by omega), boot, if_pos ⟨h0, h9⟩]
theorem keep_bad {s : FS} {x : Nat} (boot : bootS 96 s = (bkZero, [], x)) (h0 : x ≠ 0) {mind : List UInt8} : keepS 96 s mind = (x, s) := by
  unfold keepS
  rw [boot, if_pos h0]
set_option maxRecDepth 100000 in
set_option maxHeartbeats 3200000 in
theorem bankSpoilt_calls {A : Option Addr} {n c : Nat} {img : List UInt8} (at' y : Int) {w : World} [hA : HR w A (bs img)] (hl : img.length = n) (hc : n ≤ c) (hn9 : n ≤ 9223372036854775807) :
    Calls Try.prog 10 #[.slice A n c, .int .i64 at', .int .u8 y] w fun e w' => e = .returned (.bool true) ∧ Chg nowhere w w' := by
  have HL := Lib.hid hl
  have HA0 := Lib.hid hA.out
  have hnone : ∀ w, HR w none (bs []) := fun w => ⟨Rd.nil _ _⟩
  have hs0 := bkL_len 0 0 zeroH 0 ⟨#[]⟩ none 0 0
  have hon0 := bkL_one 0 0 zeroH 0 ⟨#[]⟩ none 0 0
  clear hl
  by_cases c1 : n < 1
  · have c1I : (n : Int) < 1 := by omega
    go_enter Try.func10, Try.ntmps10
    go_wp2_with (first | go_skip | ((with_reducible apply wpl_alloc); intro z wz _ _ _) | ((with_reducible apply wpl_loadrow); (exact rfl); infer_instance; infer_instance; (first | (with_reducible assumption) | (with_reducible exact H32.size _) | kernel_rfl)) | ((with_reducible apply wpl_loadcellN); (exact rfl); infer_instance; (exact rfl)) | ((with_reducible apply wpl_storerow); (exact rfl); (exact rfl); infer_instance; infer_instance; (first | (with_reducible assumption) | (with_reducible exact H32.size _) | kernel_rfl); (first | (with_reducible assumption) | (with_reducible exact H32.size _) | kernel_rfl); (first | (with_reducible exact u8s_one _) | (with_reducible assumption) | kernel_rfl); intro ws _ _) | ((with_reducible apply wpl_storecell); (exact rfl); (exact rfl); infer_instance; (exact rfl); (first | (with_reducible assumption) | omega | (focus (simp; done)) | (focus (simp; omega; done)) | decide); intro ws _ _))
    go_ret
    exact ⟨rfl, (stepN (w0 := w)).chg⟩
  have c1I : ¬ (n : Int) < 1 := by omega
  by_cases c2 : 512 < n
  · have c2I : 512 < (n : Int) := by omega
    go_enter Try.func10, Try.ntmps10
    go_wp2_with (first | go_skip | ((with_reducible apply wpl_alloc); intro z wz _ _ _) | ((with_reducible apply wpl_loadrow); (exact rfl); infer_instance; infer_instance; (first | (with_reducible assumption) | (with_reducible exact H32.size _) | kernel_rfl)) | ((with_reducible apply wpl_loadcellN); (exact rfl); infer_instance; (exact rfl)) | ((with_reducible apply wpl_storerow); (exact rfl); (exact rfl); infer_instance; infer_instance; (first | (with_reducible assumption) | (with_reducible exact H32.size _) | kernel_rfl); (first | (with_reducible assumption) | (with_reducible exact H32.size _) | kernel_rfl); (first | (with_reducible exact u8s_one _) | (with_reducible assumption) | kernel_rfl); intro ws _ _) | ((with_reducible apply wpl_storecell); (exact rfl); (exact rfl); infer_instance; (exact rfl); (first | (with_reducible assumption) | omega | (focus (simp; done)) | (focus (simp; omega; done)) | decide); intro ws _ _))
    go_ret
    exact ⟨rfl, (stepN (w0 := w)).chg⟩
  have c2I : ¬ 512 < (n : Int) := by omega
  by_cases c3 : y = 0
  · have c3B : (y == 0) = true := by simp [c3]
    clear c3
    go_enter Try.func10, Try.ntmps10
    go_wp2_with (first | go_skip | ((with_reducible apply wpl_alloc); intro z wz _ _ _) | ((with_reducible apply wpl_loadrow); (exact rfl); infer_instance; infer_instance; (first | (with_reducible assumption) | (with_reducible exact H32.size _) | kernel_rfl)) | ((with_reducible apply wpl_loadcellN); (exact rfl); infer_instance; (exact rfl)) | ((with_reducible apply wpl_storerow); (exact rfl); (exact rfl); infer_instance; infer_instance; (first | (with_reducible assumption) | (with_reducible exact H32.size _) | kernel_rfl); (first | (with_reducible assumption) | (with_reducible exact H32.size _) | kernel_rfl); (first | (with_reducible exact u8s_one _) | (with_reducible assumption) | kernel_rfl); intro ws _ _) | ((with_reducible apply wpl_storecell); (exact rfl); (exact rfl); infer_instance; (exact rfl); (first | (with_reducible assumption) | omega | (focus (simp; done)) | (focus (simp; omega; done)) | decide); intro ws _ _))
    go_ret
    exact ⟨rfl, (stepN (w0 := w)).chg⟩
  have c3B : (y == 0) = false := by simp [c3]
  clear c3
  obtain ⟨q0, hq0, _⟩ := and_lowS at'
  obtain ⟨j, hj⟩ : ∃ j, j = q0 % n := ⟨_, rfl⟩
  have hjn : j < n := by rw [hj]; exact Nat.mod_lt _ (by omega)
  have hrem : (bits .and .i64 at' 65535).tmod (n : Int) = (j : Int) := by rw [hq0, hj]; exact (Int.ofNat_tmod q0 n).symm
  obtain ⟨v, hv⟩ : ∃ v, v = j / 64 := ⟨_, rfl⟩
  obtain ⟨o, ho⟩ : ∃ o, o = j % 64 := ⟨_, rfl⟩
  have hv7 : v ≤ 7 := by rw [hv]; omega
  have ho64 : o < 64 := by rw [ho]; exact Nat.mod_lt _ (by decide)
  have hquo : (j : Int).tdiv 64 = (v : Int) := by rw [hv]; exact (Int.ofNat_tdiv j 64).symm
  have hre2 : (j : Int).tmod 64 = (o : Int) := by rw [ho]; exact (Int.ofNat_tmod j 64).symm
  have hn0 : ¬ n = 0 := by omega
  have HV := Lib.hid hv
  have HO' := Lib.hid ho
  have hjm : j < img.length := by rw [HL.out]; exact hjn
  obtain ⟨u, hu⟩ : ∃ u : UInt8, img[j]? = some u := ⟨img[j], by simp⟩
  obtain ⟨x, hx⟩ : ∃ x, x = bits .xor .u8 (u.toNat : Int) y := ⟨_, rfl⟩
  have hx0 : 0 ≤ x ∧ x < 256 := by rw [hx]; exact xor_u8_in _ _
  have hxe : bits .xor .u8 (u.toNat : Int) y = x := hx.symm
  have HU := Lib.hid hu
  obtain ⟨S1, hS1⟩ : ∃ S : H32, S.l = sha (img.set j (b8 x)) := ⟨⟨_, sha_len _⟩, rfl⟩
  obtain ⟨S2, hS2⟩ : ∃ S : H32, S.l = sha img := ⟨⟨_, sha_len _⟩, rfl⟩
  have HS1 := Lib.hid hS1
  have HS2 := Lib.hid hS2
  obtain ⟨q, hqe⟩ : ∃ q : Bool, q = decide (S1 = S2) := ⟨_, rfl⟩
  have heq : ∀ w, (binOp .eql 52 (.agg (u8s S1.l)) (.agg (u8s S2.l))).run Try.prog w = .ok (.bool q) w := fun w => by rw [eqlHB, hqe]
  have hne : q = false → sha (img.set j (b8 x)) ≠ sha img := fun h e => by
    rw [h] at hqe
    have : ¬ S1 = S2 := by
      intro e2
      rw [decide_eq_true e2] at hqe
      cases hqe
    exact this (H32.ext' (by rw [hS1, hS2, e]))
  have HNE := Lib.hid hne
  clear hq0 hj hv ho hu hx hS1 hS2 hqe hne
  go_enter Try.func10, Try.ntmps10
  go_wp2_with (first | go_skip | ((with_reducible apply wpl_alloc); intro z wz _ _ _) | ((with_reducible apply wpl_loadrow); (exact rfl); infer_instance; infer_instance; (first | (with_reducible assumption) | (with_reducible exact H32.size _) | kernel_rfl)) | ((with_reducible apply wpl_loadcellN); (exact rfl); infer_instance; (exact rfl)) | ((with_reducible apply wpl_storerow); (exact rfl); (exact rfl); infer_instance; infer_instance; (first | (with_reducible assumption) | (with_reducible exact H32.size _) | kernel_rfl); (first | (with_reducible assumption) | (with_reducible exact H32.size _) | kernel_rfl); (first | (with_reducible exact u8s_one _) | (with_reducible assumption) | kernel_rfl); intro ws _ _) | ((with_reducible apply wpl_storecell); (exact rfl); (exact rfl); infer_instance; (exact rfl); (first | (with_reducible assumption) | omega | (focus (simp; done)) | (focus (simp; omega; done)) | decide); intro ws _ _))
  refine (bkPages_calls _).mono ?_
  rintro e w1 ⟨rfl, hw1⟩
  obtain rfl := hw1.symm
  go_wp2_with (first | go_skip | ((with_reducible apply wpl_alloc); intro z wz _ _ _) | ((with_reducible apply wpl_loadrow); (exact rfl); infer_instance; infer_instance; (first | (with_reducible assumption) | (with_reducible exact H32.size _) | kernel_rfl)) | ((with_reducible apply wpl_loadcellN); (exact rfl); infer_instance; (exact rfl)) | ((with_reducible apply wpl_storerow); (exact rfl); (exact rfl); infer_instance; infer_instance; (first | (with_reducible assumption) | (with_reducible exact H32.size _) | kernel_rfl); (first | (with_reducible assumption) | (with_reducible exact H32.size _) | kernel_rfl); (first | (with_reducible exact u8s_one _) | (with_reducible assumption) | kernel_rfl); intro ws _ _) | ((with_reducible apply wpl_storecell); (exact rfl); (exact rfl); infer_instance; (exact rfl); (first | (with_reducible assumption) | omega | (focus (simp; done)) | (focus (simp; omega; done)) | decide); intro ws _ _))
  refine (bkNew_calls _).mono ?_
  rintro e w1 ⟨g, p, rfl, h1, _, hg, hp⟩
  have ab := above_two hg hp
  have oA : OffR (Two g p) A (bs img) := ⟨fun hne ad e h => by
    have h1 := rd_lt HA0.out hne e
    have h2 := ab.out _ h
    omega⟩
  have hA1 : HR w1 A (bs img) := inferInstance
  have hn1 := hnone w1
  go_wp2_with (first | go_skip | ((with_reducible apply (wpl_guard (op := .call _))); (exact rfl)) | ((with_reducible apply wpl_alloc); intro z wz _ _ _) | ((with_reducible apply wpl_loadrow); (exact rfl); infer_instance; infer_instance; (first | (with_reducible assumption) | (with_reducible exact H32.size _) | kernel_rfl)) | ((with_reducible apply wpl_loadcellN); (exact rfl); infer_instance; (exact rfl)) | ((with_reducible apply wpl_storerow); (exact rfl); (exact rfl); infer_instance; infer_instance; (first | (with_reducible assumption) | (with_reducible exact H32.size _) | kernel_rfl); (first | (with_reducible assumption) | (with_reducible exact H32.size _) | kernel_rfl); (first | (with_reducible exact u8s_one _) | (with_reducible assumption) | kernel_rfl); intro ws _ _) | ((with_reducible apply wpl_storecell); (exact rfl); (exact rfl); infer_instance; (exact rfl); (first | (with_reducible assumption) | omega | (focus (simp; done)) | (focus (simp; omega; done)) | decide); intro ws _ _))
  refine (bkInst_calls h1.out (by decide) [97] 0 (.inl rfl) (by decide) (by decide) (img := img) (mind := []) HL.out hc (by omega) oA.out rfl (by decide) (apart_none _ _) (by decide)).mono ?_
  obtain ⟨D, hD⟩ : ∃ D : BSt, D = ⟨if (bkZero, ([] : List UInt8), 9).2.2 = 0 then 1 - bkZero.bank else 0, img.length, ⟨sha img, sha_len _⟩, (0 : Int).toNat, [97], []⟩ := ⟨_, rfl⟩
  have HDB : Hid (D.bank = 0) := Lib.hid (by rw [hD]; rfl)
  have HDZ : Hid (D.size = img.length) := Lib.hid (by rw [hD])
  have HD := Lib.hid hD
  clear hD
  rintro e w2 ⟨rfl, h2, _⟩
  have H2 : Hid (BankAt w2 g p 1 (D, img, 0)) := Lib.hid (by rw [HD.out]; exact h2.out)
  have n2 : Nw w w2 := inferInstance
  obtain ⟨s, hFs, hSs⟩ := H2.out.ex
  have HF2 := Lib.hid hFs
  have HS := Lib.hid hSs
  obtain ⟨P, hP⟩ : ∃ P : Nat, P = 80 + v := ⟨_, rfl⟩
  have hP96 : P < 96 := by omega
  have HPL := Lib.hid (page_len' HS.out.ok hP96)
  have hby : (s.page P)[o]? = some u := by
    have hi := (boot_inv HS.out.boot).2.2.2.1
    rw [HDB.out, HDZ.out] at hi
    rw [hP, HV.out, HO'.out, ← img_byte hi hjm (by rw [HL.out]; omega)]
    exact HU.out
  have HP := Lib.hid hP
  have hlts := HF2.out.lts
  clear h2 h1 HD hFs hSs H2
  go_wp2_with (first | go_skip | ((with_reducible apply wpl_alloc); intro z wz _ _ _) | ((with_reducible apply wpl_loadrow); (exact rfl); infer_instance; infer_instance; (first | (with_reducible assumption) | (with_reducible exact H32.size _) | kernel_rfl)) | ((with_reducible apply wpl_loadcellN); (exact rfl); infer_instance; (exact rfl)) | ((with_reducible apply wpl_storerow); (exact rfl); (exact rfl); infer_instance; infer_instance; (first | (with_reducible assumption) | (with_reducible exact H32.size _) | kernel_rfl); (first | (with_reducible assumption) | (with_reducible exact H32.size _) | kernel_rfl); (first | (with_reducible exact u8s_one _) | (with_reducible assumption) | kernel_rfl); intro ws _ _) | ((with_reducible apply wpl_storecell); (exact rfl); (exact rfl); infer_instance; (exact rfl); (first | (with_reducible assumption) | omega | (focus (simp; done)) | (focus (simp; omega; done)) | decide); intro ws _ _))
  refine (Read_at g p 96 s _ P _ HF2.out (by omega) hP96).mono ?_
  obtain ⟨pg, hpg⟩ : ∃ pg, pg = s.page P := ⟨_, rfl⟩
  have HPG := Lib.hid hpg
  rw [← hpg] at HPL hby ⊢
  clear hpg
  rintro e w7 ⟨R, rc, rfl, hR, _, hnR⟩
  have oR : OffA (Two g p) R := ⟨fun ad e hk => by
    have h1 := hnR.out ad e
    rcases hk with hk | hk <;> omega⟩
  have n7 : Nw w w7 := inferInstance
  have hA7 : HR w7 A (bs img) := ⟨HA0.out.later n7.out⟩
  have hnR9 : n ≤ 100000000000 := by omega
  have hbl : 0 < (bs img).length := by rw [bs_length, HL.out]; omega
  have hui : (bs img)[j]? = some (.int .u8 (u.toNat : Int)) := by rw [bs, List.getElem?_map, HU.out]; rfl
  have hLi : img.length = n := HL.out
  have aR : Above w (rowOf R) := by
    have nmw : NewA w R := NewA.monoS hnR
    have := NewA.mono (w0 := w) nmw
    infer_instance
  have HF7 : Hid (FlashAt w7 g p 96 s) := Lib.hid (FlashAt.nw HF2.out)
  clear hrem
  go_wp2_with (first | go_skip | ((with_reducible apply (stop_dst (dst := some 55))); (try simp only [Act.put, sA, sB, sC]); ((with_reducible apply (wpl_bslice (dst := some 55))); (exact run_emptyR _); intro ze wb _ _ _)) | ((with_reducible apply wpl_appendB); (exact rfl); (exact rfl); infer_instance; infer_instance; infer_instance; (exact hLi); (exact (by omega)); intro F cF wf _ hOF hGF hcF; rw [List.nil_append] at hOF) | ((with_reducible apply wpl_index1); (exact rfl); (exact rfl); infer_instance; (exact (⟨hOF.out.rd⟩ : HR wf F (bs img))); (exact hbl); (exact (by omega))) | ((with_reducible apply wpl_load1); (exact rfl); (exact (⟨hOF.out.rd⟩ : HR wf F (bs img))); infer_instance; (exact hui)) | ((with_reducible apply wpl_storeB); (exact rfl); (exact rfl); (exact hOF); (exact hjm); (exact hx0); intro ws _ hOX) | ((with_reducible apply wpl_alloc); intro z wz _ _ _) | ((with_reducible apply wpl_loadrow); (exact rfl); infer_instance; infer_instance; (first | (with_reducible assumption) | (with_reducible exact H32.size _) | kernel_rfl)) | ((with_reducible apply wpl_loadcellN); (exact rfl); infer_instance; (exact rfl)) | ((with_reducible apply wpl_storerow); (exact rfl); (exact rfl); infer_instance; infer_instance; (first | (with_reducible assumption) | (with_reducible exact H32.size _) | kernel_rfl); (first | (with_reducible assumption) | (with_reducible exact H32.size _) | kernel_rfl); (first | (with_reducible exact u8s_one _) | (with_reducible assumption) | kernel_rfl); intro ws _ _) | ((with_reducible apply wpl_storecell); (exact rfl); (exact rfl); infer_instance; (exact rfl); (first | (with_reducible assumption) | omega | (focus (simp; done)) | (focus (simp; omega; done)) | decide); intro ws _ _))
  have oFR : OffA (rowOf F) R := ⟨fun ad e ⟨ad', e', h⟩ => by
    have h1 := hR.out.lt e
    have h2 := (inferInstance : Born w7 ze).eq
    have h3 := (inferInstance : SzLe w7 wb).out
    rcases hGF.out with h4 | h4
    · rw [h4] at e'
      injection e' with e'
      subst e'
      have h5 : ze = ad.block := h
      omega
    · rw [h4] at e'
      injection e' with e'
      subst e'
      have h5 : wb.heap.size = ad.block := h
      omega⟩
  have hFw : ∀ ad, F = some ad → w7.heap.size ≤ ad.block := fun ad e => by
    have h2 := (inferInstance : Born w7 ze).eq
    have h3 := (inferInstance : SzLe w7 wb).out
    rcases hGF.out with h4 | h4
    · rw [h4] at e
      injection e with e
      subst e
      exact Nat.le_of_eq h2.symm
    · rw [h4] at e
      injection e with e
      subst e
      exact h3
  have nF : NewA w7 F := ⟨hFw⟩
  have aF : Above w7 (rowOf F) := by
    have := NewA.mono (w0 := w7) nF
    infer_instance
  have nws7 : Nw w7 ws := inferInstance
  have hRf : HO wf 5 1 R 64 rc (bs pg) := inferInstance
  have hRs : HO ws 5 1 R 64 rc (bs pg) := inferInstance
  have nws : Nw w ws := ⟨n7.out.trans nws7.out (fun _ _ h => h)⟩
  have hAs : HR ws A (bs img) := ⟨HA0.out.later nws.out⟩
  have HFs : Hid (FlashAt ws g p 96 s) := Lib.hid (HF7.out.calm nws7.out)
  have hXl : (img.set j (b8 x)).length = n := by rw [List.length_set, HL.out]
  refine (dRefSum_calls F n cF (img.set j (b8 x)) ws hOX.out.rd hXl (by omega)).mono ?_
  rw [← HS1.out]
  rintro e w8 ⟨rfl, hc8⟩
  have s8 : Step nowhere ws w8 := ⟨hc8.out⟩
  have n8 : Nw w w8 := inferInstance
  have hA8 : HR w8 A (bs img) := ⟨HA0.out.later n8.out⟩
  clear hc8 hXl
  go_wp2_with (first | go_skip | ((with_reducible apply wpl_alloc); intro z wz _ _ _) | ((with_reducible apply wpl_loadrow); (exact rfl); infer_instance; infer_instance; (first | (with_reducible assumption) | (with_reducible exact H32.size _) | kernel_rfl)) | ((with_reducible apply wpl_loadcellN); (exact rfl); infer_instance; (exact rfl)) | ((with_reducible apply wpl_storerow); (exact rfl); (exact rfl); infer_instance; infer_instance; (first | (with_reducible assumption) | (with_reducible exact H32.size _) | kernel_rfl); (first | (with_reducible assumption) | (with_reducible exact H32.size _) | kernel_rfl); (first | (with_reducible exact u8s_one _) | (with_reducible assumption) | kernel_rfl); intro ws _ _) | ((with_reducible apply wpl_storecell); (exact rfl); (exact rfl); infer_instance; (exact rfl); (first | (with_reducible assumption) | omega | (focus (simp; done)) | (focus (simp; omega; done)) | decide); intro ws _ _))
  refine (dRefSum_calls A n c img w8 hA8.out HL.out (by omega)).mono ?_
  rw [← HS2.out]
  rintro e w9 ⟨rfl, hc9⟩
  have s9 : Step nowhere w8 w9 := ⟨hc9.out⟩
  have n9 : Nw w w9 := inferInstance
  have hR9 : HO w9 5 1 R 64 rc (bs pg) := inferInstance
  have HF9 : Hid (FlashAt w9 g p 96 s) := Lib.hid ((HFs.out.calm s8.chg).calm s9.chg)
  clear hc9
  cases q
  case true =>
    go_wp2_with (first | go_skip | ((with_reducible apply wpl_alloc); intro z wz _ _ _) | ((with_reducible apply wpl_loadrow); (exact rfl); infer_instance; infer_instance; (first | (with_reducible assumption) | (with_reducible exact H32.size _) | kernel_rfl)) | ((with_reducible apply wpl_loadcellN); (exact rfl); infer_instance; (exact rfl)) | ((with_reducible apply wpl_storerow); (exact rfl); (exact rfl); infer_instance; infer_instance; (first | (with_reducible assumption) | (with_reducible exact H32.size _) | kernel_rfl); (first | (with_reducible assumption) | (with_reducible exact H32.size _) | kernel_rfl); (first | (with_reducible exact u8s_one _) | (with_reducible assumption) | kernel_rfl); intro ws _ _) | ((with_reducible apply wpl_storecell); (exact rfl); (exact rfl); infer_instance; (exact rfl); (first | (with_reducible assumption) | omega | (focus (simp; done)) | (focus (simp; omega; done)) | decide); intro ws _ _))
    refine (bkKnown_calls _).mono ?_
    rintro e w10 ⟨rfl, _⟩
    go_wp2_with (first | go_skip | ((with_reducible apply wpl_alloc); intro z wz _ _ _) | ((with_reducible apply wpl_loadrow); (exact rfl); infer_instance; infer_instance; (first | (with_reducible assumption) | (with_reducible exact H32.size _) | kernel_rfl)) | ((with_reducible apply wpl_loadcellN); (exact rfl); infer_instance; (exact rfl)) | ((with_reducible apply wpl_storerow); (exact rfl); (exact rfl); infer_instance; infer_instance; (first | (with_reducible assumption) | (with_reducible exact H32.size _) | kernel_rfl); (first | (with_reducible assumption) | (with_reducible exact H32.size _) | kernel_rfl); (first | (with_reducible exact u8s_one _) | (with_reducible assumption) | kernel_rfl); intro ws _ _) | ((with_reducible apply wpl_storecell); (exact rfl); (exact rfl); infer_instance; (exact rfl); (first | (with_reducible assumption) | omega | (focus (simp; done)) | (focus (simp; omega; done)) | decide); intro ws _ _))
    go_ret
    exact ⟨rfl, (inferInstance : Nw w _).out⟩
  case false =>
    have hpl0 : 0 < (bs pg).length := by rw [bs_length, HPL.out]; decide
    have hop : o < pg.length := by rw [HPL.out]; exact ho64
    have hub : (bs pg)[o]? = some (.int .u8 (u.toNat : Int)) := by rw [bs, List.getElem?_map, hby]; rfl
    have hne := HNE.out rfl
    have HNE2 := Lib.hid hne
    clear hne HNE
    go_wp2_with (first | go_skip | ((with_reducible apply wpl_index1); (exact rfl); (exact rfl); infer_instance; (exact (⟨hR9.out.rd⟩ : HR w9 R (bs pg))); (exact hpl0); (exact ho64)) | ((with_reducible apply wpl_load1); (exact rfl); (exact (⟨hR9.out.rd⟩ : HR w9 R (bs pg))); infer_instance; (exact hub)) | ((with_reducible apply wpl_storeB); (exact rfl); (exact rfl); (exact hR9); (exact hop); (exact hx0); intro wt _ hOY) | ((with_reducible apply wpl_alloc); intro z wz _ _ _) | ((with_reducible apply wpl_loadrow); (exact rfl); infer_instance; infer_instance; (first | (with_reducible assumption) | (with_reducible exact H32.size _) | kernel_rfl)) | ((with_reducible apply wpl_loadcellN); (exact rfl); infer_instance; (exact rfl)) | ((with_reducible apply wpl_storerow); (exact rfl); (exact rfl); infer_instance; infer_instance; (first | (with_reducible assumption) | (with_reducible exact H32.size _) | kernel_rfl); (first | (with_reducible assumption) | (with_reducible exact H32.size _) | kernel_rfl); (first | (with_reducible exact u8s_one _) | (with_reducible assumption) | kernel_rfl); intro ws _ _) | ((with_reducible apply wpl_storecell); (exact rfl); (exact rfl); infer_instance; (exact rfl); (first | (with_reducible assumption) | omega | (focus (simp; done)) | (focus (simp; omega; done)) | decide); intro ws _ _))
    obtain ⟨yy, hyy⟩ : ∃ yy, yy = pg.set o (b8 x) := ⟨_, rfl⟩
    rw [← hyy] at hOY
    have HYL : Hid (yy.length = 64) := Lib.hid (by rw [hyy, List.length_set, HPL.out])
    have HYY := Lib.hid hyy
    have HFt : Hid (FlashAt wt g p 96 s) := Lib.hid (HF9.out.chg (inferInstance : Step (rowOf R) w9 wt).chg (fun ⟨ad, e, h⟩ => oR.out ad e (.inl h)) (fun ⟨ad, e, h⟩ => oR.out ad e (.inr h)))
    have nt : Nw w wt := inferInstance
    obtain ⟨s3, s4, e3, e4, ok4, l4, p4, q4⟩ := spoil96 HS.out.ok HS.out.lv P hP96 yy HYL.out
    have hbt : bootS 96 s4 = (bkZero, [], 8) := spoilt_boot HS.out HDB.out HDZ.out hjm (by rw [HL.out]; omega) ok4 (by rw [← HV.out, ← HP.out, p4, HYY.out, HPG.out, HO'.out]) (by rw [← HV.out, ← HP.out]; exact q4) HNE2.out
    have E3 := Lib.hid e3
    have E4 := Lib.hid e4
    have HBT := Lib.hid hbt
    have L4 := Lib.hid l4
    clear hyy e3 e4 ok4 p4 q4 hbt l4 hub hby
    have hrt : HR wt R (bs yy) := inferInstance
    go_wp2_with (first | go_skip | ((with_reducible apply wpl_alloc); intro z wz _ _ _) | ((with_reducible apply wpl_loadrow); (exact rfl); infer_instance; infer_instance; (first | (with_reducible assumption) | (with_reducible exact H32.size _) | kernel_rfl)) | ((with_reducible apply wpl_loadcellN); (exact rfl); infer_instance; (exact rfl)) | ((with_reducible apply wpl_storerow); (exact rfl); (exact rfl); infer_instance; infer_instance; (first | (with_reducible assumption) | (with_reducible exact H32.size _) | kernel_rfl); (first | (with_reducible assumption) | (with_reducible exact H32.size _) | kernel_rfl); (first | (with_reducible exact u8s_one _) | (with_reducible assumption) | kernel_rfl); intro ws _ _) | ((with_reducible apply wpl_storecell); (exact rfl); (exact rfl); infer_instance; (exact rfl); (first | (with_reducible assumption) | omega | (focus (simp; done)) | (focus (simp; omega; done)) | decide); intro ws _ _))
    refine (pErase_at _ P (by have := HP.out; omega) HFt.out).mono ?_
    rw [E3.out]
    rintro e w10 ⟨rfl, h10, c10⟩
    have st10 : Step (Two g p) _ w10 := ⟨c10.out⟩
    have n10 : Nw w w10 := inferInstance
    have hr10 : HR w10 R (bs yy) := inferInstance
    clear c10
    go_wp2_with (first | go_skip | ((with_reducible apply wpl_alloc); intro z wz _ _ _) | ((with_reducible apply wpl_loadrow); (exact rfl); infer_instance; infer_instance; (first | (with_reducible assumption) | (with_reducible exact H32.size _) | kernel_rfl)) | ((with_reducible apply wpl_loadcellN); (exact rfl); infer_instance; (exact rfl)) | ((with_reducible apply wpl_storerow); (exact rfl); (exact rfl); infer_instance; infer_instance; (first | (with_reducible assumption) | (with_reducible exact H32.size _) | kernel_rfl); (first | (with_reducible assumption) | (with_reducible exact H32.size _) | kernel_rfl); (first | (with_reducible exact u8s_one _) | (with_reducible assumption) | kernel_rfl); intro ws _ _) | ((with_reducible apply wpl_storecell); (exact rfl); (exact rfl); infer_instance; (exact rfl); (first | (with_reducible assumption) | omega | (focus (simp; done)) | (focus (simp; omega; done)) | decide); intro ws _ _))
    refine (pProgram_at _ P (by have := HP.out; omega) h10.out HYL.out (fun _ ad e => oR.out ad e) (by decide)).mono ?_
    rw [E4.out]
    rintro e w11 ⟨rfl, h11, c11⟩
    have st11 : Step (Two g p) _ w11 := ⟨c11.out⟩
    have n11 : Nw w w11 := inferInstance
    have HF11 := h11
    clear c11 h11 h10
    go_wp2_with (first | go_skip | ((with_reducible apply wpl_alloc); intro z wz _ _ _) | ((with_reducible apply wpl_loadrow); (exact rfl); infer_instance; infer_instance; (first | (with_reducible assumption) | (with_reducible exact H32.size _) | kernel_rfl)) | ((with_reducible apply wpl_loadcellN); (exact rfl); infer_instance; (exact rfl)) | ((with_reducible apply wpl_storerow); (exact rfl); (exact rfl); infer_instance; infer_instance; (first | (with_reducible assumption) | (with_reducible exact H32.size _) | kernel_rfl); (first | (with_reducible assumption) | (with_reducible exact H32.size _) | kernel_rfl); (first | (with_reducible exact u8s_one _) | (with_reducible assumption) | kernel_rfl); intro ws _ _) | ((with_reducible apply wpl_storecell); (exact rfl); (exact rfl); infer_instance; (exact rfl); (first | (with_reducible assumption) | omega | (focus (simp; done)) | (focus (simp; omega; done)) | decide); intro ws _ _))
    refine (bkBoot_calls HF11.out).mono ?_
    rw [HBT.out]
    unfold BootQ
    rintro e w12 ⟨M, mm, dd, I, ni, ci, rfl, _, _, _, _, hni, _, _, _, _⟩
    have hq := bkL_len (bkZero.bank : Int) (bkZero.size : Int) bkZero.sum (bkZero.cnt : Int) (strL bkZero.name) M mm dd
    have ho := bkL_one (bkZero.bank : Int) (bkZero.size : Int) bkZero.sum (bkZero.cnt : Int) (strL bkZero.name) M mm dd
    have hni0 : ni = 0 := hni.symm
    subst hni0
    have HF12 : Hid (FlashAt w12 g p 96 s4) := Lib.hid (HF11.out.calm (stepN (w0 := w11) (w := w12)).chg)
    have n12 : Nw w w12 := inferInstance
    have hA12 : HR w12 A (bs img) := ⟨HA0.out.later n12.out⟩
    go_wp2_with (first | go_skip | ((with_reducible apply wpl_storerow); (exact rfl); (exact rfl); infer_instance; infer_instance; (exact hq); (exact hs0); (exact ho); intro wq _ hbq) | ((with_reducible apply (wpl_guard (op := .call _))); (exact rfl)) | ((with_reducible apply (wpl_alloc (dst := some 13))); intro zq wzq _ _ _) | ((with_reducible apply wpl_alloc); intro z wz _ _ _) | ((with_reducible apply wpl_loadrow); (exact rfl); infer_instance; infer_instance; (first | (with_reducible assumption) | (with_reducible exact H32.size _) | kernel_rfl)) | ((with_reducible apply wpl_loadcellN); (exact rfl); infer_instance; (exact rfl)) | ((with_reducible apply wpl_storerow); (exact rfl); (exact rfl); infer_instance; infer_instance; (first | (with_reducible assumption) | (with_reducible exact H32.size _) | kernel_rfl); (first | (with_reducible assumption) | (with_reducible exact H32.size _) | kernel_rfl); (first | (with_reducible exact u8s_one _) | (with_reducible assumption) | kernel_rfl); intro ws _ _) | ((with_reducible apply wpl_storecell); (exact rfl); (exact rfl); infer_instance; (exact rfl); (first | (with_reducible assumption) | omega | (focus (simp; done)) | (focus (simp; omega; done)) | decide); intro ws _ _))
    have nq : Nw w wq := inferInstance
    have hAq : HR wq A (bs img) := ⟨HA0.out.later nq.out⟩
    have HFq : Hid (FlashAt wq g p 96 s4) := Lib.hid (HF12.out.calm (stepN (w0 := w12) (w := wq)).chg)
    have hnq := hnone wq
    refine (bkInstall_calls (nm := [98]) (img := img) (mind := []) HFq.out 1 HL.out hc (by omega) oA.out rfl (by decide) (apart_none _ _) (by decide)).mono ?_
    rw [inst_bad L4.out.1 HBT.out (by decide) (by decide) (by rw [HL.out]; omega) (by decide) (by decide) (by decide) (by decide)]
    rintro e w13 ⟨rfl, h13, st13⟩
    have n13 : Nw w w13 := inferInstance
    have hn13 := hnone w13
    go_wp2_with (first | go_skip | ((with_reducible apply (wpl_guard (op := .call _))); (exact rfl)) | ((with_reducible apply wpl_alloc); intro z wz _ _ _) | ((with_reducible apply wpl_loadrow); (exact rfl); infer_instance; infer_instance; (first | (with_reducible assumption) | (with_reducible exact H32.size _) | kernel_rfl)) | ((with_reducible apply wpl_loadcellN); (exact rfl); infer_instance; (exact rfl)) | ((with_reducible apply wpl_storerow); (exact rfl); (exact rfl); infer_instance; infer_instance; (first | (with_reducible assumption) | (with_reducible exact H32.size _) | kernel_rfl); (first | (with_reducible assumption) | (with_reducible exact H32.size _) | kernel_rfl); (first | (with_reducible exact u8s_one _) | (with_reducible assumption) | kernel_rfl); intro ws _ _) | ((with_reducible apply wpl_storecell); (exact rfl); (exact rfl); infer_instance; (exact rfl); (first | (with_reducible assumption) | omega | (focus (simp; done)) | (focus (simp; omega; done)) | decide); intro ws _ _))
    refine (bkKeep_calls (mind := []) h13.out rfl (by decide)).mono ?_
    rw [keep_bad HBT.out (by decide)]
    rintro e w14 ⟨rfl, h14, st14⟩
    have n14 : Nw w w14 := inferInstance
    go_wp2_with (first | go_skip | ((with_reducible apply (wpl_guard (op := .call _))); (exact rfl)) | ((with_reducible apply wpl_alloc); intro z wz _ _ _) | ((with_reducible apply wpl_loadrow); (exact rfl); infer_instance; infer_instance; (first | (with_reducible assumption) | (with_reducible exact H32.size _) | kernel_rfl)) | ((with_reducible apply wpl_loadcellN); (exact rfl); infer_instance; (exact rfl)) | ((with_reducible apply wpl_storerow); (exact rfl); (exact rfl); infer_instance; infer_instance; (first | (with_reducible assumption) | (with_reducible exact H32.size _) | kernel_rfl); (first | (with_reducible assumption) | (with_reducible exact H32.size _) | kernel_rfl); (first | (with_reducible exact u8s_one _) | (with_reducible assumption) | kernel_rfl); intro ws _ _) | ((with_reducible apply wpl_storecell); (exact rfl); (exact rfl); infer_instance; (exact rfl); (first | (with_reducible assumption) | omega | (focus (simp; done)) | (focus (simp; omega; done)) | decide); intro ws _ _))
    refine (bkKnown_calls _).mono ?_
    rintro e w15 ⟨rfl, _⟩
    go_wp2_with (first | go_skip | ((with_reducible apply wpl_alloc); intro z wz _ _ _) | ((with_reducible apply wpl_loadrow); (exact rfl); infer_instance; infer_instance; (first | (with_reducible assumption) | (with_reducible exact H32.size _) | kernel_rfl)) | ((with_reducible apply wpl_loadcellN); (exact rfl); infer_instance; (exact rfl)) | ((with_reducible apply wpl_storerow); (exact rfl); (exact rfl); infer_instance; infer_instance; (first | (with_reducible assumption) | (with_reducible exact H32.size _) | kernel_rfl); (first | (with_reducible assumption) | (with_reducible exact H32.size _) | kernel_rfl); (first | (with_reducible exact u8s_one _) | (with_reducible assumption) | kernel_rfl); intro ws _ _) | ((with_reducible apply wpl_storecell); (exact rfl); (exact rfl); infer_instance; (exact rfl); (first | (with_reducible assumption) | omega | (focus (simp; done)) | (focus (simp; omega; done)) | decide); intro ws _ _))
    go_ret
    exact ⟨rfl, (inferInstance : Nw w _).out⟩
end Go.Proofs.Ytegdihpnefoolaa
