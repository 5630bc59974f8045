/- BpG -/
import Derived.Test.YtegdihpnefoolaaTjBpF
import Derived.Test.YtegdihpnefoolaaTjBkL
import Derived.Test.YtegdihpnefoolaaTjSlY
open Go Go.RowKit
namespace Go.Proofs.Ytegdihpnefoolaa
theorem rf_rows {w : World} {x N : Nat} {T : Nat → Prop} {s : FS} {r : RFS} (h : RF w x T r) (hR : Rel s r N) : ∃ (A : Option Addr) (c : Nat) (rows : List Row), HB w x 63 #[.slice A N c, .int .i64 r.left, .int .i64 (r.tear : Int), .bool r.off] ∧ HR w A (cellsOf rows) ∧ (cellsOf rows).length = N ∧ ∀ j, j < N → (cellsOf rows)[j]? = some (.slice (gt rows j).A 64 (gt rows j).c) ∧ (s.page j).length = 64 ∧ Rd w (gt rows j).A (bs (s.page j)) := by
  obtain ⟨A, kk, c, rows, h1, h2, h3, h4, h5⟩ := h
  have hl : kk = N := by rw [← hR.num, ← h2, List.length_map, h1.num]
  subst hl
  refine ⟨A, c, rows, ⟨h1.head⟩, ⟨h1.tab.rd⟩, by rw [cellsOf_rows, rowsV, List.length_map, h1.num], fun j hj => ?_⟩
  have hjr : j < rows.length := by rw [h1.num]; exact hj
  have hm := gt_mem rows j hjr
  have hP := row_page h2 j hjr
  rw [hR.page j hj] at hP
  exact ⟨tab_get j hjr h1.len, by rw [← hP]; exact h1.len _ hm, by rw [← hP]; exact (h1.each _ hm).rd⟩
set_option maxRecDepth 100000 in
set_option maxHeartbeats 3200000 in
theorem bankPlays_calls (n : Int) {L : Option Addr} {nl cl : Nat} {l : List BAct} {w : World} [hL : HR w L (cellsOf l)] (hl : l.length = nl) (hA : ∀ a ∈ l, BActIn w a) :
    Calls Try.prog 5 #[.int .i64 n, .slice L nl cl] w fun e w' => e = .returned (.bool true) ∧ Chg nowhere w w' := by
  have HAI := Lib.hid hA
  have HL := Lib.hid hl
  clear hA hl
  go_enter Try.func5, Try.ntmps5
  go_wp2_with (first | go_skip | ((with_reducible apply wpl_alloc); intro z wz _ _ _) | ((with_reducible apply (wpl_guard (op := .convert _ _ _))); (exact rfl)) | ((with_reducible apply wpl_loadrow); (exact rfl); infer_instance; infer_instance; (first | (with_reducible assumption) | (with_reducible exact H32.size _) | (with_reducible exact enc_sz _ rfl) | kernel_rfl)) | ((with_reducible apply wpl_loadcellN); (exact rfl); infer_instance; (exact rfl)) | ((with_reducible apply wpl_storerow); (exact rfl); (exact rfl); infer_instance; infer_instance; (first | (with_reducible assumption) | (with_reducible exact H32.size _) | (with_reducible exact enc_sz _ rfl) | kernel_rfl); (first | (with_reducible assumption) | (with_reducible exact H32.size _) | (with_reducible exact enc_sz _ rfl) | kernel_rfl); (first | (with_reducible exact u8s_one _) | (with_reducible assumption) | (with_reducible exact enc_one _) | kernel_rfl); intro ws _ _) | ((with_reducible apply wpl_storecell); (exact rfl); (exact rfl); infer_instance; (exact rfl); (first | (with_reducible assumption) | omega | (focus (simp; done)) | (focus (simp; omega; done)) | decide); intro ws _ _))
  refine (bkLong (l := l) HL.out HAI.out).mono ?_
  rintro e w1 ⟨he, _⟩
  rcases he with rfl | rfl
  · by_cases hn : 110 < n
    · go_wp2_with (first | go_skip | ((with_reducible apply wpl_alloc); intro z wz _ _ _) | ((with_reducible apply (wpl_guard (op := .convert _ _ _))); (exact rfl)) | ((with_reducible apply wpl_loadrow); (exact rfl); infer_instance; infer_instance; (first | (with_reducible assumption) | (with_reducible exact H32.size _) | (with_reducible exact enc_sz _ rfl) | kernel_rfl)) | ((with_reducible apply wpl_loadcellN); (exact rfl); infer_instance; (exact rfl)) | ((with_reducible apply wpl_storerow); (exact rfl); (exact rfl); infer_instance; infer_instance; (first | (with_reducible assumption) | (with_reducible exact H32.size _) | (with_reducible exact enc_sz _ rfl) | kernel_rfl); (first | (with_reducible assumption) | (with_reducible exact H32.size _) | (with_reducible exact enc_sz _ rfl) | kernel_rfl); (first | (with_reducible exact u8s_one _) | (with_reducible assumption) | (with_reducible exact enc_one _) | kernel_rfl); intro ws _ _) | ((with_reducible apply wpl_storecell); (exact rfl); (exact rfl); infer_instance; (exact rfl); (first | (with_reducible assumption) | omega | (focus (simp; done)) | (focus (simp; omega; done)) | decide); intro ws _ _))
      go_ret
      exact ⟨rfl, (stepN (w0 := w)).chg⟩
    · have hn90 : n ≤ 110 := by omega
      obtain ⟨N, hN⟩ : ∃ N : Nat, min (max n 1) 256 = (N : Int) := Int.eq_ofNat_of_zero_le (by omega)
      go_wp2_with (first | go_skip | ((with_reducible apply wpl_alloc); intro z wz _ _ _) | ((with_reducible apply (wpl_guard (op := .convert _ _ _))); (exact rfl)) | ((with_reducible apply wpl_loadrow); (exact rfl); infer_instance; infer_instance; (first | (with_reducible assumption) | (with_reducible exact H32.size _) | (with_reducible exact enc_sz _ rfl) | kernel_rfl)) | ((with_reducible apply wpl_loadcellN); (exact rfl); infer_instance; (exact rfl)) | ((with_reducible apply wpl_storerow); (exact rfl); (exact rfl); infer_instance; infer_instance; (first | (with_reducible assumption) | (with_reducible exact H32.size _) | (with_reducible exact enc_sz _ rfl) | kernel_rfl); (first | (with_reducible assumption) | (with_reducible exact H32.size _) | (with_reducible exact enc_sz _ rfl) | kernel_rfl); (first | (with_reducible exact u8s_one _) | (with_reducible assumption) | (with_reducible exact enc_one _) | kernel_rfl); intro ws _ _) | ((with_reducible apply wpl_storecell); (exact rfl); (exact rfl); infer_instance; (exact rfl); (first | (with_reducible assumption) | omega | (focus (simp; done)) | (focus (simp; omega; done)) | decide); intro ws _ _))
      refine (slNewAny_calls n N hN (by omega) _).mono ?_
      rintro e w2 ⟨g, p, rfl, hF, hc2, hg, hp⟩
      have s2 : Step nowhere w1 w2 := ⟨hc2.out⟩
      have HF2 := hF
      clear hF hc2
      go_wp2_with (first | go_skip | ((with_reducible apply wpl_alloc); intro z wz _ _ _) | ((with_reducible apply (wpl_guard (op := .convert _ _ _))); (exact rfl)) | ((with_reducible apply wpl_loadrow); (exact rfl); infer_instance; infer_instance; (first | (with_reducible assumption) | (with_reducible exact H32.size _) | (with_reducible exact enc_sz _ rfl) | kernel_rfl)) | ((with_reducible apply wpl_loadcellN); (exact rfl); infer_instance; (exact rfl)) | ((with_reducible apply wpl_storerow); (exact rfl); (exact rfl); infer_instance; infer_instance; (first | (with_reducible assumption) | (with_reducible exact H32.size _) | (with_reducible exact enc_sz _ rfl) | kernel_rfl); (first | (with_reducible assumption) | (with_reducible exact H32.size _) | (with_reducible exact enc_sz _ rfl) | kernel_rfl); (first | (with_reducible exact u8s_one _) | (with_reducible assumption) | (with_reducible exact enc_one _) | kernel_rfl); intro ws _ _) | ((with_reducible apply wpl_storecell); (exact rfl); (exact rfl); infer_instance; (exact rfl); (first | (with_reducible assumption) | omega | (focus (simp; done)) | (focus (simp; omega; done)) | decide); intro ws _ _))
      refine (rfNew_calls n N hN _).mono ?_
      rintro e w3 ⟨x, T, rfl, hX, _, hT⟩
      have hg' : w.heap.size ≤ g := Nat.le_trans (inferInstance : SzLe w w1).out hg
      have hp' : w.heap.size ≤ p := Nat.le_trans (inferInstance : SzLe w w1).out hp
      obtain ⟨hgl, hpl⟩ := HF2.out.lts
      have HTG : Hid (∀ k, T k → ¬ Two g p k) := Lib.hid (fun k hk h => by
        have h1 := (hT k hk).1
        rcases h with h | h
        · rw [h] at h1; exact absurd hgl (Nat.not_lt.2 h1)
        · rw [h] at h1; exact absurd hpl (Nat.not_lt.2 h1))
      have HTW : Hid (∀ k, T k → w.heap.size ≤ k) := Lib.hid (fun k hk => Nat.le_trans (inferInstance : SzLe w w2).out (hT k hk).1)
      have HB3 : Hid (BothS w3 g p N x T) := Lib.hid ⟨⟨_, _, FlashAt.nw HF2.out, hX, Rel.fresh N⟩, fun k hk => (hT k hk).2⟩
      have abP : Above w (PT g p T) := ⟨fun k h => by
        rcases h with (h | h) | h
        · rw [h]; exact hg'
        · rw [h]; exact hp'
        · exact HTW.out k h⟩
      have abT : Above w T := ⟨fun k h => abP.out k (.inr h)⟩
      have ab2 : Above w (Two g p) := ⟨fun k h => abP.out k (.inl h)⟩
      have HTg : Hid (¬ T g) := Lib.hid (fun h => HTG.out g h (.inl rfl))
      have HTp : Hid (¬ T p) := Lib.hid (fun h => HTG.out p h (.inr rfl))
      have HOL : Hid (∀ (A : Option Addr) (vs : List Value), Rd w A vs → OffR (PT g p T) A vs) := Lib.hid (fun A vs h => ⟨fun hne ad e hk => by
        have h1 := rd_lt h hne e
        have h2 := abP.out _ hk
        omega⟩)
      have oL : OffR (PT g p T) L (cellsOf l) := HOL.out _ _ hL.out
      clear HF2 hX hT hg hp hgl hpl hN
      go_wp2_with (first | go_skip | ((with_reducible apply (wpl_guard (op := .call _))); (exact rfl)) | ((with_reducible apply wpl_alloc); intro z wz _ _ _) | ((with_reducible apply (wpl_guard (op := .convert _ _ _))); (exact rfl)) | ((with_reducible apply wpl_loadrow); (exact rfl); infer_instance; infer_instance; (first | (with_reducible assumption) | (with_reducible exact H32.size _) | (with_reducible exact enc_sz _ rfl) | kernel_rfl)) | ((with_reducible apply wpl_loadcellN); (exact rfl); infer_instance; (exact rfl)) | ((with_reducible apply wpl_storerow); (exact rfl); (exact rfl); infer_instance; infer_instance; (first | (with_reducible assumption) | (with_reducible exact H32.size _) | (with_reducible exact enc_sz _ rfl) | kernel_rfl); (first | (with_reducible assumption) | (with_reducible exact H32.size _) | (with_reducible exact enc_sz _ rfl) | kernel_rfl); (first | (with_reducible exact u8s_one _) | (with_reducible assumption) | (with_reducible exact enc_one _) | kernel_rfl); intro ws _ _) | ((with_reducible apply wpl_storecell); (exact rfl); (exact rfl); infer_instance; (exact rfl); (first | (with_reducible assumption) | omega | (focus (simp; done)) | (focus (simp; omega; done)) | decide); intro ws _ _))
      refine (bkPages_calls _).mono ?_
      rintro e w4 ⟨rfl, hw4⟩
      obtain rfl := hw4.symm
      go_wp2_with (first | go_skip | ((with_reducible apply (wpl_guard (op := .call _))); (exact rfl)) | ((with_reducible apply wpl_alloc); intro z wz _ _ _) | ((with_reducible apply (wpl_guard (op := .convert _ _ _))); (exact rfl)) | ((with_reducible apply wpl_loadrow); (exact rfl); infer_instance; infer_instance; (first | (with_reducible assumption) | (with_reducible exact H32.size _) | (with_reducible exact enc_sz _ rfl) | kernel_rfl)) | ((with_reducible apply wpl_loadcellN); (exact rfl); infer_instance; (exact rfl)) | ((with_reducible apply wpl_storerow); (exact rfl); (exact rfl); infer_instance; infer_instance; (first | (with_reducible assumption) | (with_reducible exact H32.size _) | (with_reducible exact enc_sz _ rfl) | kernel_rfl); (first | (with_reducible assumption) | (with_reducible exact H32.size _) | (with_reducible exact enc_sz _ rfl) | kernel_rfl); (first | (with_reducible exact u8s_one _) | (with_reducible assumption) | (with_reducible exact enc_one _) | kernel_rfl); intro ws _ _) | ((with_reducible apply wpl_storecell); (exact rfl); (exact rfl); infer_instance; (exact rfl); (first | (with_reducible assumption) | omega | (focus (simp; done)) | (focus (simp; omega; done)) | decide); intro ws _ _))
      refine (rbPages_calls _).mono ?_
      rintro e w4 ⟨rfl, _⟩
      have HB4 : Hid (BothS w4 g p N x T) := Lib.hid (BothS.nw HB3.out)
      clear HB3
      go_wp2_with (first | go_skip | ((with_reducible apply wpl_alloc); intro z wz _ _ _) | ((with_reducible apply (wpl_guard (op := .convert _ _ _))); (exact rfl)) | ((with_reducible apply wpl_loadrow); (exact rfl); infer_instance; infer_instance; (first | (with_reducible assumption) | (with_reducible exact H32.size _) | (with_reducible exact enc_sz _ rfl) | kernel_rfl)) | ((with_reducible apply wpl_loadcellN); (exact rfl); infer_instance; (exact rfl)) | ((with_reducible apply wpl_storerow); (exact rfl); (exact rfl); infer_instance; infer_instance; (first | (with_reducible assumption) | (with_reducible exact H32.size _) | (with_reducible exact enc_sz _ rfl) | kernel_rfl); (first | (with_reducible assumption) | (with_reducible exact H32.size _) | (with_reducible exact enc_sz _ rfl) | kernel_rfl); (first | (with_reducible exact u8s_one _) | (with_reducible assumption) | (with_reducible exact enc_one _) | kernel_rfl); intro ws _ _) | ((with_reducible apply wpl_storecell); (exact rfl); (exact rfl); infer_instance; (exact rfl); (first | (with_reducible assumption) | omega | (focus (simp; done)) | (focus (simp; omega; done)) | decide); intro ws _ _))
      go_loopw [7] (fun kv wr => ∃ k : Nat, k ≤ nl ∧ k ≤ 16 ∧ kv = .int .i64 (k : Int) ∧ Nw w wr ∧ HR wr L (cellsOf l) ∧ Hid (BothS wr g p N x T)) (fun kv _ => 16 - (intOf kv).toNat)
      case atStart => exact ⟨0, Nat.zero_le _, Nat.zero_le _, rfl, inferInstance, inferInstance, HB4⟩
      case round =>
        obtain ⟨k, hk, hk20, rfl, _, _, HBo⟩ := hrel
        clear HB4
        by_cases hgo : k < nl ∧ k < 16
        · obtain ⟨hkn, hk8⟩ := hgo
          have hknI : (k : Int) < (nl : Int) := by omega
          have hk8I : (k : Int) < 16 := by omega
          have hkl : k < l.length := by rw [HL.out]; exact hkn
          have hll : l.length = nl := HL.out
          obtain ⟨a, hae⟩ : ∃ a, a = gt l k := ⟨_, rfl⟩
          have ha := HAI.out (gt l k) (gt_mem l k hkl)
          have HA1 := Lib.hid ha
          have n1 : Nw w wr := inferInstance
          have hra : HR wr (gt l k).I (bs (gt l k).img) := ⟨HA1.out.1.chg (inferInstance : Nw w wr).out (fun _ _ _ h => h)⟩
          have hrm : HR wr (gt l k).M (bs (gt l k).mind) := ⟨HA1.out.2.1.chg (inferInstance : Nw w wr).out (fun _ _ _ h => h)⟩
          have oB : OffR (PT g p T) (gt l k).I (bs (gt l k).img) := HOL.out _ _ HA1.out.1
          have oM : OffR (PT g p T) (gt l k).M (bs (gt l k).mind) := HOL.out _ _ HA1.out.2.1
          clear ha hae
          by_cases hk1 : (gt l k).kind = 1
          · obtain ⟨⟨s, r, hF, hX, hR⟩, hTl⟩ := HBo.out
            have HF := Lib.hid hF
            have HX := Lib.hid hX
            have HTl := Lib.hid hTl
            have hok := Lib.hid hF.ok
            have HR0 := Lib.hid hR
            obtain ⟨q, hq⟩ : ∃ q, q = instS N s (gt l k).nm (gt l k).img (gt l k).n (gt l k).mind := ⟨_, rfl⟩
            have HQ0 := Lib.hid hq
            have HNC : Hid (((q.1 : Int) != (q.1 : Int)) = false) := Lib.hid (by simp)
            have e1 : ((gt l k).kind == 1) = true := by simp [hk1]
            clear hk1
            have ozz : OffB (PT g p T) wr.heap.size := ⟨fun h => by
              have h1 := HF.out.lts
              rcases h with (h | h) | h
              · omega
              · omega
              · exact Nat.lt_irrefl _ (HTl.out _ h)⟩
            clear hF hX hR hTl hq HBo
            have hIa : Hid (Apart (Two g p) (gt l k).I (bs (gt l k).img)) := Lib.hid (fun hne ad e h => oB.out hne ad e (.inl h))
            have hMa : Hid (Apart (Two g p) (gt l k).M (bs (gt l k).mind)) := Lib.hid (fun hne ad e h => oM.out hne ad e (.inl h))
            have hIb : Hid (Apart T (gt l k).I (bs (gt l k).img)) := Lib.hid (fun hne ad e h => oB.out hne ad e (.inr h))
            have hMb : Hid (Apart T (gt l k).M (bs (gt l k).mind)) := Lib.hid (fun hne ad e h => oM.out hne ad e (.inr h))
            go_wp2_with (first | go_skip | ((with_reducible apply wpl_alloc); intro z wz _ _ _) | ((with_reducible apply (wpl_guard (op := .convert _ _ _))); (exact rfl)) | ((with_reducible apply wpl_loadrow); (exact rfl); infer_instance; infer_instance; (first | (with_reducible assumption) | (with_reducible exact H32.size _) | (with_reducible exact enc_sz _ rfl) | kernel_rfl)) | ((with_reducible apply wpl_loadcellN); (exact rfl); infer_instance; (exact rfl)) | ((with_reducible apply wpl_storerow); (exact rfl); (exact rfl); infer_instance; infer_instance; (first | (with_reducible assumption) | (with_reducible exact H32.size _) | (with_reducible exact enc_sz _ rfl) | kernel_rfl); (first | (with_reducible assumption) | (with_reducible exact H32.size _) | (with_reducible exact enc_sz _ rfl) | kernel_rfl); (first | (with_reducible exact u8s_one _) | (with_reducible assumption) | (with_reducible exact enc_one _) | kernel_rfl); intro ws _ _) | ((with_reducible apply wpl_storecell); (exact rfl); (exact rfl); infer_instance; (exact rfl); (first | (with_reducible assumption) | omega | (focus (simp; done)) | (focus (simp; omega; done)) | decide); intro ws _ _) | ((with_reducible apply wpl_indexH); (exact rfl); (exact rfl); infer_instance; infer_instance; (first | (with_reducible assumption) | omega); (first | (with_reducible assumption) | omega); (first | (with_reducible assumption) | omega)) | ((with_reducible apply wpl_indexH'); (exact rfl); (exact rfl); infer_instance; infer_instance; (first | (with_reducible assumption) | omega); (first | (with_reducible assumption) | omega); (first | (with_reducible assumption) | omega)) | ((with_reducible apply (wpl_loadhash (t := 52))); (exact rfl); infer_instance; infer_instance; (first | (with_reducible assumption) | omega)) | ((with_reducible apply (wpl_storehash (t := 52))); (exact rfl); (exact rfl); infer_instance; infer_instance; (first | (with_reducible assumption) | omega | (focus (simp; done)) | (focus (simp; omega; done)) | decide); intro ws _ _) | ((with_reducible apply (wpl_indexE (α := BAct) (t := 44))); (exact rfl); (exact rfl); infer_instance; infer_instance; (first | (with_reducible assumption) | omega | (focus (simp; done)) | (focus (simp; omega; done)) | decide); (exact rfl); (decide); (first | (with_reducible assumption) | omega | (focus (simp; done)) | (focus (simp; omega; done)) | decide)) | ((with_reducible apply (wpl_indexE0 (α := BAct) (t := 44))); (exact rfl); infer_instance; infer_instance; (first | (with_reducible assumption) | omega | (focus (simp; done)) | (focus (simp; omega; done)) | decide); (exact rfl); (decide); (first | (with_reducible assumption) | omega | (focus (simp; done)) | (focus (simp; omega; done)) | decide)) | ((with_reducible apply (wpl_loadE (α := BAct) (t := 48))); infer_instance; (exact rfl); infer_instance; (exact rfl); (decide); (first | (with_reducible assumption) | omega | (focus (simp; done)) | (focus (simp; omega; done)) | decide)) | ((with_reducible apply (wpl_fieldE (t := 48))); (exact Try.underlying48); (exact rfl); (kernel_rfl); (exact rfl); infer_instance; (exact cells_pos (by decide) (by omega))) | ((with_reducible apply (wpl_loadF (α := BAct))); infer_instance; (exact rfl); infer_instance; (exact rfl); (first | (with_reducible assumption) | omega | (focus (simp; done)) | (focus (simp; omega; done)) | decide); (exact rfl)) | ((with_reducible apply wpl_conv); (exact rfl); infer_instance; (first | (with_reducible assumption) | (focus (simp; done)) | omega); (exact Try.underlying22); (exact Try.underlying5); (exact Try.underlying9)) | ((with_reducible apply (wpl_loadint (t := 3))); (exact rfl); infer_instance; infer_instance; (first | (with_reducible assumption) | omega)) | ((with_reducible apply (wpl_loadbyte (t := 5))); (exact rfl); infer_instance; infer_instance; (first | (with_reducible assumption) | omega)) | ((with_reducible apply (wpl_storeint (t := 3))); (exact rfl); (exact rfl); infer_instance; (first | (with_reducible assumption) | omega); intro ws _ _) | ((with_reducible apply (wpl_storebyte (t := 5))); (exact rfl); (exact rfl); infer_instance; (first | (with_reducible assumption) | omega | (focus (simp; done)) | (focus (simp; omega; done)) | decide); (constructor <;> omega); intro ws _ _))
            refine wp_region_N ((PT g p T)) (by kernel_rfl) (fun wd _ _ => ?_)
            refine' takeH (i := 0) (v := _) rfl (by kernel_rfl) (by kernel_rfl) (by kernel_rfl) (fun _ _ _ h => h) (yields_of (by rfl) (fun w' _ => ?_)) inferInstance ?_
            rotate_left
            · (go_simp; try with_reducible rfl)
            try simp only [Act.put, sA]; try simp only [sB, sC]
            refine' takeH (i := 1) (v := _) rfl (by kernel_rfl) (by kernel_rfl) (by kernel_rfl) (fun _ _ _ h => h) (yields_of (by rfl) (fun w' _ => ?_)) inferInstance ?_
            rotate_left
            · (first | ((with_reducible apply (ev_fieldE (t := 48))); (exact Try.underlying48); (exact rfl); (kernel_rfl); (exact rfl); infer_instance; (exact cells_pos (by decide) (by omega))) | (go_simp; try with_reducible rfl))
            try simp only [Act.put, sA]; try simp only [sB, sC]
            refine' takeH (i := 2) (v := _) rfl (by kernel_rfl) (by kernel_rfl) (by kernel_rfl) (fun _ _ _ h => h) (yields_of (by rfl) (fun w' _ => ?_)) inferInstance ?_
            rotate_left
            · (first | ((with_reducible apply ev_loadrow); (exact rfl); infer_instance; infer_instance; (first | (with_reducible assumption) | (with_reducible exact H32.size _) | (with_reducible exact enc_sz _ rfl) | kernel_rfl)) | ((with_reducible apply (ev_loadhash (t := 52))); (exact rfl); infer_instance; infer_instance; (first | (with_reducible assumption) | omega)) | ((with_reducible apply ev_loadcellN); (exact rfl); infer_instance; infer_instance; (exact rfl)) | ((with_reducible apply (ev_loadE (α := BAct) (t := 48))); infer_instance; (exact rfl); infer_instance; (exact rfl); (decide); (first | (with_reducible assumption) | omega | (focus (simp; done)) | (focus (simp; omega; done)) | decide)) | ((with_reducible apply (ev_loadF (α := BAct))); infer_instance; (exact rfl); infer_instance; (exact rfl); (first | (with_reducible assumption) | omega | (focus (simp; done)) | (focus (simp; omega; done)) | decide); (exact rfl)) | ((with_reducible apply (ev_loadint (t := 3))); (exact rfl); infer_instance; infer_instance; (first | (with_reducible assumption) | omega)) | ((with_reducible apply (ev_loadbyte (t := 5))); (exact rfl); infer_instance; infer_instance; (first | (with_reducible assumption) | omega)) | (go_simp; try with_reducible rfl))
            try simp only [Act.put, sA]; try simp only [sB, sC]
            refine' takeH (i := 3) (v := _) rfl (by kernel_rfl) (by kernel_rfl) (by kernel_rfl) (fun _ _ _ h => h) (yields_of (by rfl) (fun w' _ => ?_)) inferInstance ?_
            rotate_left
            · (first | ((with_reducible apply (ev_fieldE (t := 48))); (exact Try.underlying48); (exact rfl); (kernel_rfl); (exact rfl); infer_instance; (exact cells_pos (by decide) (by omega))) | (go_simp; try with_reducible rfl))
            try simp only [Act.put, sA]; try simp only [sB, sC]
            refine' takeH (i := 4) (v := _) rfl (by kernel_rfl) (by kernel_rfl) (by kernel_rfl) (fun _ _ _ h => h) (yields_of (by rfl) (fun w' _ => ?_)) inferInstance ?_
            rotate_left
            · (first | ((with_reducible apply ev_loadrow); (exact rfl); infer_instance; infer_instance; (first | (with_reducible assumption) | (with_reducible exact H32.size _) | (with_reducible exact enc_sz _ rfl) | kernel_rfl)) | ((with_reducible apply (ev_loadhash (t := 52))); (exact rfl); infer_instance; infer_instance; (first | (with_reducible assumption) | omega)) | ((with_reducible apply ev_loadcellN); (exact rfl); infer_instance; infer_instance; (exact rfl)) | ((with_reducible apply (ev_loadE (α := BAct) (t := 48))); infer_instance; (exact rfl); infer_instance; (exact rfl); (decide); (first | (with_reducible assumption) | omega | (focus (simp; done)) | (focus (simp; omega; done)) | decide)) | ((with_reducible apply (ev_loadF (α := BAct))); infer_instance; (exact rfl); infer_instance; (exact rfl); (first | (with_reducible assumption) | omega | (focus (simp; done)) | (focus (simp; omega; done)) | decide); (exact rfl)) | ((with_reducible apply (ev_loadint (t := 3))); (exact rfl); infer_instance; infer_instance; (first | (with_reducible assumption) | omega)) | ((with_reducible apply (ev_loadbyte (t := 5))); (exact rfl); infer_instance; infer_instance; (first | (with_reducible assumption) | omega)) | (go_simp; try with_reducible rfl))
            try simp only [Act.put, sA]; try simp only [sB, sC]
            refine' takeH (i := 5) (v := _) rfl (by kernel_rfl) (by kernel_rfl) (by kernel_rfl) (fun _ _ _ h => h) (yields_of (by rfl) (fun w' _ => ?_)) inferInstance ?_
            rotate_left
            · (first | ((with_reducible apply (ev_fieldE (t := 48))); (exact Try.underlying48); (exact rfl); (kernel_rfl); (exact rfl); infer_instance; (exact cells_pos (by decide) (by omega))) | (go_simp; try with_reducible rfl))
            try simp only [Act.put, sA]; try simp only [sB, sC]
            refine' takeH (i := 6) (v := _) rfl (by kernel_rfl) (by kernel_rfl) (by kernel_rfl) (fun _ _ _ h => h) (yields_of (by rfl) (fun w' _ => ?_)) inferInstance ?_
            rotate_left
            · (first | ((with_reducible apply ev_loadrow); (exact rfl); infer_instance; infer_instance; (first | (with_reducible assumption) | (with_reducible exact H32.size _) | (with_reducible exact enc_sz _ rfl) | kernel_rfl)) | ((with_reducible apply (ev_loadhash (t := 52))); (exact rfl); infer_instance; infer_instance; (first | (with_reducible assumption) | omega)) | ((with_reducible apply ev_loadcellN); (exact rfl); infer_instance; infer_instance; (exact rfl)) | ((with_reducible apply (ev_loadE (α := BAct) (t := 48))); infer_instance; (exact rfl); infer_instance; (exact rfl); (decide); (first | (with_reducible assumption) | omega | (focus (simp; done)) | (focus (simp; omega; done)) | decide)) | ((with_reducible apply (ev_loadF (α := BAct))); infer_instance; (exact rfl); infer_instance; (exact rfl); (first | (with_reducible assumption) | omega | (focus (simp; done)) | (focus (simp; omega; done)) | decide); (exact rfl)) | ((with_reducible apply (ev_loadint (t := 3))); (exact rfl); infer_instance; infer_instance; (first | (with_reducible assumption) | omega)) | ((with_reducible apply (ev_loadbyte (t := 5))); (exact rfl); infer_instance; infer_instance; (first | (with_reducible assumption) | omega)) | (go_simp; try with_reducible rfl))
            try simp only [Act.put, sA]; try simp only [sB, sC]
            refine' takeH (i := 7) (v := _) rfl (by kernel_rfl) (by kernel_rfl) (by kernel_rfl) (fun _ _ _ h => h) (yields_of (by rfl) (fun w' _ => ?_)) inferInstance ?_
            rotate_left
            · (first | ((with_reducible apply (ev_fieldE (t := 48))); (exact Try.underlying48); (exact rfl); (kernel_rfl); (exact rfl); infer_instance; (exact cells_pos (by decide) (by omega))) | (go_simp; try with_reducible rfl))
            try simp only [Act.put, sA]; try simp only [sB, sC]
            refine' takeH (i := 8) (v := _) rfl (by kernel_rfl) (by kernel_rfl) (by kernel_rfl) (fun _ _ _ h => h) (yields_of (by rfl) (fun w' _ => ?_)) inferInstance ?_
            rotate_left
            · (first | ((with_reducible apply ev_loadrow); (exact rfl); infer_instance; infer_instance; (first | (with_reducible assumption) | (with_reducible exact H32.size _) | (with_reducible exact enc_sz _ rfl) | kernel_rfl)) | ((with_reducible apply (ev_loadhash (t := 52))); (exact rfl); infer_instance; infer_instance; (first | (with_reducible assumption) | omega)) | ((with_reducible apply ev_loadcellN); (exact rfl); infer_instance; infer_instance; (exact rfl)) | ((with_reducible apply (ev_loadE (α := BAct) (t := 48))); infer_instance; (exact rfl); infer_instance; (exact rfl); (decide); (first | (with_reducible assumption) | omega | (focus (simp; done)) | (focus (simp; omega; done)) | decide)) | ((with_reducible apply (ev_loadF (α := BAct))); infer_instance; (exact rfl); infer_instance; (exact rfl); (first | (with_reducible assumption) | omega | (focus (simp; done)) | (focus (simp; omega; done)) | decide); (exact rfl)) | ((with_reducible apply (ev_loadint (t := 3))); (exact rfl); infer_instance; infer_instance; (first | (with_reducible assumption) | omega)) | ((with_reducible apply (ev_loadbyte (t := 5))); (exact rfl); infer_instance; infer_instance; (first | (with_reducible assumption) | omega)) | (go_simp; try with_reducible rfl))
            try simp only [Act.put, sA]; try simp only [sB, sC]
            refine' takeH (i := 10) (v := _) rfl (by kernel_rfl) (by kernel_rfl) (by kernel_rfl) (fun _ _ _ h => h) (yields_of (by rfl) (fun w' _ => ?_)) inferInstance ?_
            rotate_left
            · (go_simp; try with_reducible rfl)
            try simp only [Act.put, sA]; try simp only [sB, sC]
            refine' takeH (i := 11) (v := _) rfl (by kernel_rfl) (by kernel_rfl) (by kernel_rfl) (fun _ _ _ h => h) (yields_of (by rfl) (fun w' _ => ?_)) inferInstance ?_
            rotate_left
            · (first | ((with_reducible apply (ev_fieldE (t := 48))); (exact Try.underlying48); (exact rfl); (kernel_rfl); (exact rfl); infer_instance; (exact cells_pos (by decide) (by omega))) | (go_simp; try with_reducible rfl))
            try simp only [Act.put, sA]; try simp only [sB, sC]
            refine' takeH (i := 12) (v := _) rfl (by kernel_rfl) (by kernel_rfl) (by kernel_rfl) (fun _ _ _ h => h) (yields_of (by rfl) (fun w' _ => ?_)) inferInstance ?_
            rotate_left
            · (first | ((with_reducible apply ev_loadrow); (exact rfl); infer_instance; infer_instance; (first | (with_reducible assumption) | (with_reducible exact H32.size _) | (with_reducible exact enc_sz _ rfl) | kernel_rfl)) | ((with_reducible apply (ev_loadhash (t := 52))); (exact rfl); infer_instance; infer_instance; (first | (with_reducible assumption) | omega)) | ((with_reducible apply ev_loadcellN); (exact rfl); infer_instance; infer_instance; (exact rfl)) | ((with_reducible apply (ev_loadE (α := BAct) (t := 48))); infer_instance; (exact rfl); infer_instance; (exact rfl); (decide); (first | (with_reducible assumption) | omega | (focus (simp; done)) | (focus (simp; omega; done)) | decide)) | ((with_reducible apply (ev_loadF (α := BAct))); infer_instance; (exact rfl); infer_instance; (exact rfl); (first | (with_reducible assumption) | omega | (focus (simp; done)) | (focus (simp; omega; done)) | decide); (exact rfl)) | ((with_reducible apply (ev_loadint (t := 3))); (exact rfl); infer_instance; infer_instance; (first | (with_reducible assumption) | omega)) | ((with_reducible apply (ev_loadbyte (t := 5))); (exact rfl); infer_instance; infer_instance; (first | (with_reducible assumption) | omega)) | (go_simp; try with_reducible rfl))
            try simp only [Act.put, sA]; try simp only [sB, sC]
            refine' takeH (i := 13) (v := _) rfl (by kernel_rfl) (by kernel_rfl) (by kernel_rfl) (fun _ _ _ h => h) (yields_of (by rfl) (fun w' _ => ?_)) inferInstance ?_
            rotate_left
            · (first | ((with_reducible apply (ev_fieldE (t := 48))); (exact Try.underlying48); (exact rfl); (kernel_rfl); (exact rfl); infer_instance; (exact cells_pos (by decide) (by omega))) | (go_simp; try with_reducible rfl))
            try simp only [Act.put, sA]; try simp only [sB, sC]
            refine' takeH (i := 14) (v := _) rfl (by kernel_rfl) (by kernel_rfl) (by kernel_rfl) (fun _ _ _ h => h) (yields_of (by rfl) (fun w' _ => ?_)) inferInstance ?_
            rotate_left
            · (first | ((with_reducible apply ev_loadrow); (exact rfl); infer_instance; infer_instance; (first | (with_reducible assumption) | (with_reducible exact H32.size _) | (with_reducible exact enc_sz _ rfl) | kernel_rfl)) | ((with_reducible apply (ev_loadhash (t := 52))); (exact rfl); infer_instance; infer_instance; (first | (with_reducible assumption) | omega)) | ((with_reducible apply ev_loadcellN); (exact rfl); infer_instance; infer_instance; (exact rfl)) | ((with_reducible apply (ev_loadE (α := BAct) (t := 48))); infer_instance; (exact rfl); infer_instance; (exact rfl); (decide); (first | (with_reducible assumption) | omega | (focus (simp; done)) | (focus (simp; omega; done)) | decide)) | ((with_reducible apply (ev_loadF (α := BAct))); infer_instance; (exact rfl); infer_instance; (exact rfl); (first | (with_reducible assumption) | omega | (focus (simp; done)) | (focus (simp; omega; done)) | decide); (exact rfl)) | ((with_reducible apply (ev_loadint (t := 3))); (exact rfl); infer_instance; infer_instance; (first | (with_reducible assumption) | omega)) | ((with_reducible apply (ev_loadbyte (t := 5))); (exact rfl); infer_instance; infer_instance; (first | (with_reducible assumption) | omega)) | (go_simp; try with_reducible rfl))
            try simp only [Act.put, sA]; try simp only [sB, sC]
            refine' takeH (i := 15) (v := _) rfl (by kernel_rfl) (by kernel_rfl) (by kernel_rfl) (fun _ _ _ h => h) (yields_of (by rfl) (fun w' _ => ?_)) inferInstance ?_
            rotate_left
            · (first | ((with_reducible apply (ev_fieldE (t := 48))); (exact Try.underlying48); (exact rfl); (kernel_rfl); (exact rfl); infer_instance; (exact cells_pos (by decide) (by omega))) | (go_simp; try with_reducible rfl))
            try simp only [Act.put, sA]; try simp only [sB, sC]
            refine' takeH (i := 16) (v := _) rfl (by kernel_rfl) (by kernel_rfl) (by kernel_rfl) (fun _ _ _ h => h) (yields_of (by rfl) (fun w' _ => ?_)) inferInstance ?_
            rotate_left
            · (first | ((with_reducible apply ev_loadrow); (exact rfl); infer_instance; infer_instance; (first | (with_reducible assumption) | (with_reducible exact H32.size _) | (with_reducible exact enc_sz _ rfl) | kernel_rfl)) | ((with_reducible apply (ev_loadhash (t := 52))); (exact rfl); infer_instance; infer_instance; (first | (with_reducible assumption) | omega)) | ((with_reducible apply ev_loadcellN); (exact rfl); infer_instance; infer_instance; (exact rfl)) | ((with_reducible apply (ev_loadE (α := BAct) (t := 48))); infer_instance; (exact rfl); infer_instance; (exact rfl); (decide); (first | (with_reducible assumption) | omega | (focus (simp; done)) | (focus (simp; omega; done)) | decide)) | ((with_reducible apply (ev_loadF (α := BAct))); infer_instance; (exact rfl); infer_instance; (exact rfl); (first | (with_reducible assumption) | omega | (focus (simp; done)) | (focus (simp; omega; done)) | decide); (exact rfl)) | ((with_reducible apply (ev_loadint (t := 3))); (exact rfl); infer_instance; infer_instance; (first | (with_reducible assumption) | omega)) | ((with_reducible apply (ev_loadbyte (t := 5))); (exact rfl); infer_instance; infer_instance; (first | (with_reducible assumption) | omega)) | (go_simp; try with_reducible rfl))
            try simp only [Act.put, sA]; try simp only [sB, sC]
            refine' takeH (i := 17) (v := _) rfl (by kernel_rfl) (by kernel_rfl) (by kernel_rfl) (fun _ _ _ h => h) (yields_of (by rfl) (fun w' _ => ?_)) inferInstance ?_
            rotate_left
            · (first | ((with_reducible apply (ev_fieldE (t := 48))); (exact Try.underlying48); (exact rfl); (kernel_rfl); (exact rfl); infer_instance; (exact cells_pos (by decide) (by omega))) | (go_simp; try with_reducible rfl))
            try simp only [Act.put, sA]; try simp only [sB, sC]
            refine' takeH (i := 18) (v := _) rfl (by kernel_rfl) (by kernel_rfl) (by kernel_rfl) (fun _ _ _ h => h) (yields_of (by rfl) (fun w' _ => ?_)) inferInstance ?_
            rotate_left
            · (first | ((with_reducible apply ev_loadrow); (exact rfl); infer_instance; infer_instance; (first | (with_reducible assumption) | (with_reducible exact H32.size _) | (with_reducible exact enc_sz _ rfl) | kernel_rfl)) | ((with_reducible apply (ev_loadhash (t := 52))); (exact rfl); infer_instance; infer_instance; (first | (with_reducible assumption) | omega)) | ((with_reducible apply ev_loadcellN); (exact rfl); infer_instance; infer_instance; (exact rfl)) | ((with_reducible apply (ev_loadE (α := BAct) (t := 48))); infer_instance; (exact rfl); infer_instance; (exact rfl); (decide); (first | (with_reducible assumption) | omega | (focus (simp; done)) | (focus (simp; omega; done)) | decide)) | ((with_reducible apply (ev_loadF (α := BAct))); infer_instance; (exact rfl); infer_instance; (exact rfl); (first | (with_reducible assumption) | omega | (focus (simp; done)) | (focus (simp; omega; done)) | decide); (exact rfl)) | ((with_reducible apply (ev_loadint (t := 3))); (exact rfl); infer_instance; infer_instance; (first | (with_reducible assumption) | omega)) | ((with_reducible apply (ev_loadbyte (t := 5))); (exact rfl); infer_instance; infer_instance; (first | (with_reducible assumption) | omega)) | (go_simp; try with_reducible rfl))
            try simp only [Act.put, sA]; try simp only [sB, sC]
            refine goH (i := 9) (by kernel_rfl) rfl (fun K_ hK_ => ?_)
            go_simp
            refine (bkInstall_calls (nm := (gt l k).nm) (img := (gt l k).img) (mind := (gt l k).mind) (FlashAt.nw HF.out) (gt l k).n rfl HA1.out.2.2.1 (by have := HA1.out.2.2.2.1; omega) hIa.out rfl (by have := HA1.out.2.2.2.2.1; omega) hMa.out (by have := HA1.out.2.2.2.2.2.1; omega)).mono ?_
            rw [← HQ0.out]
            rintro e w5 ⟨rfl, HF5, s5⟩
            have HX5 : Hid (RF w5 x T r) := Lib.hid (RF.ch (S := Two g p) HX.out HTG.out)
            have HT5 : Hid (∀ k, T k → k < w5.heap.size) := Lib.hid (fun k hk => Nat.lt_of_lt_of_le (HTl.out k hk) (inferInstance : SzLe wr w5).out)
            refine hK_.out _ _ inferInstance (fun _ => ?_)
            clear hK_ K_
            try simp only [Act.put, sA]; try simp only [sB, sC]
            refine goH (i := 19) (by kernel_rfl) rfl (fun K_ hK_ => ?_)
            go_simp
            refine (rbInstall_calls (nm := (gt l k).nm) (img := (gt l k).img) (mind := (gt l k).mind) (RF.nw HX5.out) HR0.out hok.out HT5.out (gt l k).n rfl HA1.out.2.2.1 (by have := HA1.out.2.2.2.1; omega) hIb.out rfl (by have := HA1.out.2.2.2.2.1; omega) hMb.out (by have := HA1.out.2.2.2.2.2.1; omega)).mono ?_
            rw [← HQ0.out]
            rintro e wz ⟨rfl, H6, s6⟩
            have HBz : Hid (BothS wz g p N x T) := Lib.hid (by
              obtain ⟨r', h1, h2⟩ := H6.out
              exact ⟨⟨_, r', HF5.out.chg s6.chg HTg.out HTp.out, h1, h2⟩, fun k hk => Nat.lt_of_lt_of_le (HT5.out k hk) s6.chg.size⟩)
            refine hK_.out _ _ inferInstance (fun _ => ?_)
            clear hK_ K_
            try simp only [Act.put, sA]; try simp only [sB, sC]
            refine' takeH (i := 20) (v := _) rfl (by kernel_rfl) (by kernel_rfl) (by kernel_rfl) (fun _ _ _ h => h) (yields_of (by rfl) (fun w' _ => ?_)) inferInstance ?_
            rotate_left
            · (go_simp; try with_reducible rfl)
            try simp only [Act.put, sA]; try simp only [sB, sC]
            try simp only [HSE.out]
            try simp only [HNA.out]
            try simp only [HNB.out]
            try simp only [HNC.out]
            refine wpAnyH_done (by kernel_rfl) ?_ _
            clear hIa hMa hIb hMb HF HX HTl hok HR0 HQ0 HF5 HX5 HT5 H6
            have HL5 : HR wz L (cellsOf l) := ⟨hL.out.chg (inferInstance : Nw w wz).out (fun _ _ _ h => h)⟩
            obtain ⟨⟨s5, r5, hF5, hX5, hR5⟩, hT5⟩ := HBz.out
            have HF5 := Lib.hid hF5
            have HX5 := Lib.hid hX5
            have HR5 := Lib.hid hR5
            have HOK5 := Lib.hid hF5.ok
            have hN256 := hF5.ok.most
            obtain ⟨A5, cA5, rows5, hbx5, hra5, hlen5, hpg5⟩ := rf_rows hX5 hR5
            have HPG5 := Lib.hid hpg5
            have HLEN5 := Lib.hid hlen5
            obtain ⟨⟨D, im, E⟩, hQ⟩ : ∃ Q, Q = bootS N s5 := ⟨_, rfl⟩
            have HQ := Lib.hid hQ
            have HSE : Hid (((strL im).toList == (strL im).toList) = true) := Lib.hid (by simp)
            have HNA : Hid (((E : Int) != (E : Int)) = false) := Lib.hid (by simp)
            have hs0 := bkL_len 0 0 zeroH 0 ⟨#[]⟩ none 0 0
            clear hQ hF5 hX5 hR5 hT5 hpg5 hlen5
            go_wp2_with (first | go_skip | ((with_reducible apply wpl_alloc); intro z wz _ _ _) | ((with_reducible apply (wpl_guard (op := .convert _ _ _))); (exact rfl)) | ((with_reducible apply wpl_loadrow); (exact rfl); infer_instance; infer_instance; (first | (with_reducible assumption) | (with_reducible exact H32.size _) | (with_reducible exact enc_sz _ rfl) | kernel_rfl)) | ((with_reducible apply wpl_loadcellN); (exact rfl); infer_instance; (exact rfl)) | ((with_reducible apply wpl_storerow); (exact rfl); (exact rfl); infer_instance; infer_instance; (first | (with_reducible assumption) | (with_reducible exact H32.size _) | (with_reducible exact enc_sz _ rfl) | kernel_rfl); (first | (with_reducible assumption) | (with_reducible exact H32.size _) | (with_reducible exact enc_sz _ rfl) | kernel_rfl); (first | (with_reducible exact u8s_one _) | (with_reducible assumption) | (with_reducible exact enc_one _) | kernel_rfl); intro ws _ _) | ((with_reducible apply wpl_storecell); (exact rfl); (exact rfl); infer_instance; (exact rfl); (first | (with_reducible assumption) | omega | (focus (simp; done)) | (focus (simp; omega; done)) | decide); intro ws _ _))
            refine (bkBoot_calls (FlashAt.nw HF5.out)).mono ?_
            rw [← HQ.out]
            unfold BootQ
            rintro e w6 ⟨M6, m6, d6, I6, n6, c6, rfl, hm6, hd6, hM6, _, hn6, hc6, hI6, _, _⟩
            have hm6 : D.mind.length = m6 := hm6
            have hn6 : im.length = n6 := hn6
            have hM6 : HR w6 M6 (bs D.mind) := hM6
            have hI6 : HR w6 I6 (bs im) := hI6
            have hq6 := bkL_len D.bank D.size D.sum D.cnt (strL D.name) M6 m6 d6
            have ho6 := bkL_one D.bank D.size D.sum D.cnt (strL D.name) M6 m6 d6
            go_wp2_with (first | go_skip | ((with_reducible apply wpl_storerow); (exact rfl); (exact rfl); infer_instance; infer_instance; (exact hq6); (exact hs0); (exact ho6); intro wq _ hba) | ((with_reducible apply (wpl_alloc (dst := some 9))); intro za wza _ _ _) | ((with_reducible apply wpl_alloc); intro z wz _ _ _) | ((with_reducible apply (wpl_guard (op := .convert _ _ _))); (exact rfl)) | ((with_reducible apply wpl_loadrow); (exact rfl); infer_instance; infer_instance; (first | (with_reducible assumption) | (with_reducible exact H32.size _) | (with_reducible exact enc_sz _ rfl) | kernel_rfl)) | ((with_reducible apply wpl_loadcellN); (exact rfl); infer_instance; (exact rfl)) | ((with_reducible apply wpl_storerow); (exact rfl); (exact rfl); infer_instance; infer_instance; (first | (with_reducible assumption) | (with_reducible exact H32.size _) | (with_reducible exact enc_sz _ rfl) | kernel_rfl); (first | (with_reducible assumption) | (with_reducible exact H32.size _) | (with_reducible exact enc_sz _ rfl) | kernel_rfl); (first | (with_reducible exact u8s_one _) | (with_reducible assumption) | (with_reducible exact enc_one _) | kernel_rfl); intro ws _ _) | ((with_reducible apply wpl_storecell); (exact rfl); (exact rfl); infer_instance; (exact rfl); (first | (with_reducible assumption) | omega | (focus (simp; done)) | (focus (simp; omega; done)) | decide); intro ws _ _))
            refine (rbBoot_calls (RF.nw HX5.out) HR5.out HOK5.out).mono ?_
            rw [← HQ.out]
            unfold BootQ
            rintro e w7 ⟨M7, m7, d7, I7, n7, c7, rfl, hm7, hd7, hM7, _, hn7, hc7, hI7, _, _⟩
            have hm7 : D.mind.length = m7 := hm7
            have hn7 : im.length = n7 := hn7
            have hM7 : HR w7 M7 (bs D.mind) := hM7
            have hI7 : HR w7 I7 (bs im) := hI7
            have hq7 := bkL_len D.bank D.size D.sum D.cnt (strL D.name) M7 m7 d7
            have ho7 := bkL_one D.bank D.size D.sum D.cnt (strL D.name) M7 m7 d7
            go_wp2_with (first | go_skip | ((with_reducible apply wpl_storerow); (exact rfl); (exact rfl); infer_instance; infer_instance; (exact hq7); (exact hs0); (exact ho7); intro wt _ hbb) | ((with_reducible apply wpl_loadrow); (exact rfl); (exact hba); infer_instance; (exact hq6)) | ((with_reducible apply wpl_loadrow); (exact rfl); (exact hbb); infer_instance; (exact hq7)) | ((with_reducible apply (wpl_alloc (dst := some 12))); intro zb wzb _ _ _) | ((with_reducible apply wpl_alloc); intro z wz _ _ _) | ((with_reducible apply (wpl_guard (op := .convert _ _ _))); (exact rfl)) | ((with_reducible apply wpl_loadrow); (exact rfl); infer_instance; infer_instance; (first | (with_reducible assumption) | (with_reducible exact H32.size _) | (with_reducible exact enc_sz _ rfl) | kernel_rfl)) | ((with_reducible apply wpl_loadcellN); (exact rfl); infer_instance; (exact rfl)) | ((with_reducible apply wpl_storerow); (exact rfl); (exact rfl); infer_instance; infer_instance; (first | (with_reducible assumption) | (with_reducible exact H32.size _) | (with_reducible exact enc_sz _ rfl) | kernel_rfl); (first | (with_reducible assumption) | (with_reducible exact H32.size _) | (with_reducible exact enc_sz _ rfl) | kernel_rfl); (first | (with_reducible exact u8s_one _) | (with_reducible assumption) | (with_reducible exact enc_one _) | kernel_rfl); intro ws _ _) | ((with_reducible apply wpl_storecell); (exact rfl); (exact rfl); infer_instance; (exact rfl); (first | (with_reducible assumption) | omega | (focus (simp; done)) | (focus (simp; omega; done)) | decide); intro ws _ _))
            refine (bkSame_calls D hm6 hm7).mono ?_
            rintro e w8 ⟨rfl, _⟩
            have hse := HSE.out
            have hna := HNA.out
            have hI68 : HR w8 I6 (bs im) := inferInstance
            have hI78 : HR w8 I7 (bs im) := inferInstance
            go_wp2_with (first | go_skip | ((with_reducible apply wpl_alloc); intro z wz _ _ _) | ((with_reducible apply (wpl_guard (op := .convert _ _ _))); (exact rfl)) | ((with_reducible apply wpl_loadrow); (exact rfl); infer_instance; infer_instance; (first | (with_reducible assumption) | (with_reducible exact H32.size _) | (with_reducible exact enc_sz _ rfl) | kernel_rfl)) | ((with_reducible apply wpl_loadcellN); (exact rfl); infer_instance; (exact rfl)) | ((with_reducible apply wpl_storerow); (exact rfl); (exact rfl); infer_instance; infer_instance; (first | (with_reducible assumption) | (with_reducible exact H32.size _) | (with_reducible exact enc_sz _ rfl) | kernel_rfl); (first | (with_reducible assumption) | (with_reducible exact H32.size _) | (with_reducible exact enc_sz _ rfl) | kernel_rfl); (first | (with_reducible exact u8s_one _) | (with_reducible assumption) | (with_reducible exact enc_one _) | kernel_rfl); intro ws _ _) | ((with_reducible apply wpl_storecell); (exact rfl); (exact rfl); infer_instance; (exact rfl); (first | (with_reducible assumption) | omega | (focus (simp; done)) | (focus (simp; omega; done)) | decide); intro ws _ _) | ((with_reducible apply wpl_indexH); (exact rfl); (exact rfl); infer_instance; infer_instance; (first | (with_reducible assumption) | omega); (first | (with_reducible assumption) | omega); (first | (with_reducible assumption) | omega)) | ((with_reducible apply wpl_indexH'); (exact rfl); (exact rfl); infer_instance; infer_instance; (first | (with_reducible assumption) | omega); (first | (with_reducible assumption) | omega); (first | (with_reducible assumption) | omega)) | ((with_reducible apply (wpl_loadhash (t := 52))); (exact rfl); infer_instance; infer_instance; (first | (with_reducible assumption) | omega)) | ((with_reducible apply (wpl_storehash (t := 52))); (exact rfl); (exact rfl); infer_instance; infer_instance; (first | (with_reducible assumption) | omega | (focus (simp; done)) | (focus (simp; omega; done)) | decide); intro ws _ _) | ((with_reducible apply (wpl_indexE (α := BAct) (t := 44))); (exact rfl); (exact rfl); infer_instance; infer_instance; (first | (with_reducible assumption) | omega | (focus (simp; done)) | (focus (simp; omega; done)) | decide); (exact rfl); (decide); (first | (with_reducible assumption) | omega | (focus (simp; done)) | (focus (simp; omega; done)) | decide)) | ((with_reducible apply (wpl_indexE0 (α := BAct) (t := 44))); (exact rfl); infer_instance; infer_instance; (first | (with_reducible assumption) | omega | (focus (simp; done)) | (focus (simp; omega; done)) | decide); (exact rfl); (decide); (first | (with_reducible assumption) | omega | (focus (simp; done)) | (focus (simp; omega; done)) | decide)) | ((with_reducible apply (wpl_loadE (α := BAct) (t := 48))); infer_instance; (exact rfl); infer_instance; (exact rfl); (decide); (first | (with_reducible assumption) | omega | (focus (simp; done)) | (focus (simp; omega; done)) | decide)) | ((with_reducible apply (wpl_fieldE (t := 48))); (exact Try.underlying48); (exact rfl); (kernel_rfl); (exact rfl); infer_instance; (exact cells_pos (by decide) (by omega))) | ((with_reducible apply (wpl_loadF (α := BAct))); infer_instance; (exact rfl); infer_instance; (exact rfl); (first | (with_reducible assumption) | omega | (focus (simp; done)) | (focus (simp; omega; done)) | decide); (exact rfl)) | ((with_reducible apply wpl_conv); (exact rfl); infer_instance; (first | (with_reducible assumption) | (focus (simp; done)) | omega); (exact Try.underlying22); (exact Try.underlying5); (exact Try.underlying9)) | ((with_reducible apply (wpl_loadint (t := 3))); (exact rfl); infer_instance; infer_instance; (first | (with_reducible assumption) | omega)) | ((with_reducible apply (wpl_loadbyte (t := 5))); (exact rfl); infer_instance; infer_instance; (first | (with_reducible assumption) | omega)) | ((with_reducible apply (wpl_storeint (t := 3))); (exact rfl); (exact rfl); infer_instance; (first | (with_reducible assumption) | omega); intro ws _ _) | ((with_reducible apply (wpl_storebyte (t := 5))); (exact rfl); (exact rfl); infer_instance; (first | (with_reducible assumption) | omega | (focus (simp; done)) | (focus (simp; omega; done)) | decide); (constructor <;> omega); intro ws _ _))
            have n8 : Nw wz w8 := inferInstance
            clear hse hna hbb hba
            go_loopw [15] (fun iv wy => ∃ j : Nat, j ≤ N ∧ iv = .int .i64 (j : Int) ∧ Step nowhere wz wy) (fun iv _ => N - (intOf iv).toNat)
            case atStart => exact ⟨0, Nat.zero_le _, rfl, stepN⟩
            case round =>
              obtain ⟨j, hj, rfl, _⟩ := hrel
              have ny : Nw wz wr := inferInstance
              have hbx9 : HB wr x 63 #[.slice A5 N cA5, .int .i64 r5.left, .int .i64 (r5.tear : Int), .bool r5.off] := inferInstance
              by_cases hjj : j < N
              · have hjI : (j : Int) < (N : Int) := by omega
                have hpos : 0 < (cellsOf rows5).length := by rw [HLEN5.out]; omega
                obtain ⟨hvt, hlen, hrd⟩ := HPG5.out j hjj
                go_wp2_with (first | go_skip | ((with_reducible apply wpl_alloc); intro z wz _ _ _) | ((with_reducible apply (wpl_guard (op := .convert _ _ _))); (exact rfl)) | ((with_reducible apply wpl_loadrow); (exact rfl); infer_instance; infer_instance; (first | (with_reducible assumption) | (with_reducible exact H32.size _) | (with_reducible exact enc_sz _ rfl) | kernel_rfl)) | ((with_reducible apply wpl_loadcellN); (exact rfl); infer_instance; (exact rfl)) | ((with_reducible apply wpl_storerow); (exact rfl); (exact rfl); infer_instance; infer_instance; (first | (with_reducible assumption) | (with_reducible exact H32.size _) | (with_reducible exact enc_sz _ rfl) | kernel_rfl); (first | (with_reducible assumption) | (with_reducible exact H32.size _) | (with_reducible exact enc_sz _ rfl) | kernel_rfl); (first | (with_reducible exact u8s_one _) | (with_reducible assumption) | (with_reducible exact enc_one _) | kernel_rfl); intro ws _ _) | ((with_reducible apply wpl_storecell); (exact rfl); (exact rfl); infer_instance; (exact rfl); (first | (with_reducible assumption) | omega | (focus (simp; done)) | (focus (simp; omega; done)) | decide); intro ws _ _))
                refine (Read_at g p N s5 _ j _ (FlashAt.nw HF5.out) rfl hjj).mono ?_
                obtain ⟨R, hR⟩ : ∃ R, R = (gt rows5 j).A := ⟨_, rfl⟩
                obtain ⟨rc, hrc⟩ : ∃ R, R = (gt rows5 j).c := ⟨_, rfl⟩
                obtain ⟨pg, hpgE⟩ : ∃ R, R = s5.page j := ⟨_, rfl⟩
                rw [← hR, ← hrc] at hvt
                rw [← hR, ← hpgE] at hrd
                rw [← hpgE] at hlen ⊢
                clear hR hrc hpgE HSE
                rintro e w9 ⟨A9, c9, rfl, hA9, _, hn9⟩
                have n9 : Nw wz w9 := inferInstance
                have hpg : HR w9 R (bs pg) := ⟨hrd.later n9.out⟩
                have HSE : Hid (((strL pg).toList == (strL pg).toList) = true) := Lib.hid (by simp)
                clear hrd
                go_wp2_with (first | go_skip | ((with_reducible apply wpl_alloc); intro z wz _ _ _) | ((with_reducible apply (wpl_guard (op := .convert _ _ _))); (exact rfl)) | ((with_reducible apply wpl_loadrow); (exact rfl); infer_instance; infer_instance; (first | (with_reducible assumption) | (with_reducible exact H32.size _) | (with_reducible exact enc_sz _ rfl) | kernel_rfl)) | ((with_reducible apply wpl_loadcellN); (exact rfl); infer_instance; (exact rfl)) | ((with_reducible apply wpl_storerow); (exact rfl); (exact rfl); infer_instance; infer_instance; (first | (with_reducible assumption) | (with_reducible exact H32.size _) | (with_reducible exact enc_sz _ rfl) | kernel_rfl); (first | (with_reducible assumption) | (with_reducible exact H32.size _) | (with_reducible exact enc_sz _ rfl) | kernel_rfl); (first | (with_reducible exact u8s_one _) | (with_reducible assumption) | (with_reducible exact enc_one _) | kernel_rfl); intro ws _ _) | ((with_reducible apply wpl_storecell); (exact rfl); (exact rfl); infer_instance; (exact rfl); (first | (with_reducible assumption) | omega | (focus (simp; done)) | (focus (simp; omega; done)) | decide); intro ws _ _))
                refine wp_region_N (nowhere) (by kernel_rfl) (fun wd _ _ => ?_)
                refine' takeH (i := 0) (v := _) rfl (by kernel_rfl) (by kernel_rfl) (by kernel_rfl) (fun _ _ _ h => h) (yields_of (by rfl) (fun w' _ => ?_)) inferInstance ?_
                rotate_left
                · (go_simp; try with_reducible rfl)
                try simp only [Act.put, sA]; try simp only [sB, sC]
                refine' takeH (i := 1) (v := _) rfl (by kernel_rfl) (by kernel_rfl) (by kernel_rfl) (fun _ _ _ h => h) (yields_of (by rfl) (fun w' _ => ?_)) inferInstance ?_
                rotate_left
                · (first | ((with_reducible apply ev_conv); (exact rfl); infer_instance; (first | (with_reducible assumption) | (focus (simp; done)) | omega); (exact Try.underlying22); (exact Try.underlying5); (exact Try.underlying9)) | (go_simp; try with_reducible rfl))
                try simp only [Act.put, sA]; try simp only [sB, sC]
                refine' takeH (i := 2) (v := _) rfl (by kernel_rfl) (by kernel_rfl) (by kernel_rfl) (fun _ _ _ h => h) (yields_of (by rfl) (fun w' _ => ?_)) inferInstance ?_
                rotate_left
                · (go_simp; try with_reducible rfl)
                try simp only [Act.put, sA]; try simp only [sB, sC]
                refine' takeH (i := 3) (v := _) rfl (by kernel_rfl) (by kernel_rfl) (by kernel_rfl) (fun _ _ _ h => h) (yields_of (by rfl) (fun w' _ => ?_)) inferInstance ?_
                rotate_left
                · (go_simp; try with_reducible rfl)
                try simp only [Act.put, sA]; try simp only [sB, sC]
                refine' takeH (i := 4) (v := _) rfl (by kernel_rfl) (by kernel_rfl) (by kernel_rfl) (fun _ _ _ h => h) (yields_of (by rfl) (fun w' _ => ?_)) inferInstance ?_
                rotate_left
                · (first | ((with_reducible apply (ev_fieldE (t := 48))); (exact Try.underlying48); (exact rfl); (kernel_rfl); (exact rfl); infer_instance; (exact cells_pos (by decide) (by omega))) | (go_simp; try with_reducible rfl))
                try simp only [Act.put, sA]; try simp only [sB, sC]
                refine' takeH (i := 5) (v := _) rfl (by kernel_rfl) (by kernel_rfl) (by kernel_rfl) (fun _ _ _ h => h) (yields_of (by rfl) (fun w' _ => ?_)) inferInstance ?_
                rotate_left
                · (first | ((with_reducible apply ev_loadcellN); (exact rfl); infer_instance; infer_instance; (exact rfl)))
                try simp only [Act.put, sA]; try simp only [sB, sC]
                refine' takeH (i := 6) (v := _) rfl (by kernel_rfl) (by kernel_rfl) (by kernel_rfl) (fun _ _ _ h => h) (yields_of (by rfl) (fun w' _ => ?_)) inferInstance ?_
                rotate_left
                · (go_simp; try with_reducible rfl)
                try simp only [Act.put, sA]; try simp only [sB, sC]
                refine' takeH (i := 7) (v := _) rfl (by kernel_rfl) (by kernel_rfl) (by kernel_rfl) (fun _ _ _ h => h) (yields_of (by rfl) (fun w' _ => ?_)) inferInstance ?_
                rotate_left
                · (first | ((with_reducible apply (ev_index1 (k := j))); (exact rfl); (exact rfl); infer_instance; infer_instance; (exact hpos); (exact hjj)))
                try simp only [Act.put, sA]; try simp only [sB, sC]
                refine' takeH (i := 8) (v := _) rfl (by kernel_rfl) (by kernel_rfl) (by kernel_rfl) (fun _ _ _ h => h) (yields_of (by rfl) (fun w' _ => ?_)) inferInstance ?_
                rotate_left
                · (first | ((with_reducible apply (ev_load1 (k := j))); (exact rfl); infer_instance; infer_instance; (exact hvt)))
                try simp only [Act.put, sA]; try simp only [sB, sC]
                refine' takeH (i := 9) (v := _) rfl (by kernel_rfl) (by kernel_rfl) (by kernel_rfl) (fun _ _ _ h => h) (yields_of (by rfl) (fun w' _ => ?_)) inferInstance ?_
                rotate_left
                · (first | ((with_reducible apply ev_conv); (exact rfl); infer_instance; (first | (with_reducible assumption) | (focus (simp; done)) | omega); (exact Try.underlying22); (exact Try.underlying5); (exact Try.underlying9)) | (go_simp; try with_reducible rfl))
                try simp only [Act.put, sA]; try simp only [sB, sC]
                refine' takeH (i := 10) (v := _) rfl (by kernel_rfl) (by kernel_rfl) (by kernel_rfl) (fun _ _ _ h => h) (yields_of (by rfl) (fun w' _ => ?_)) inferInstance ?_
                rotate_left
                · (go_simp; try with_reducible rfl)
                try simp only [Act.put, sA]; try simp only [sB, sC]
                try simp only [HSE.out]
                try simp only [HNA.out]
                try simp only [HNB.out]
                try simp only [HNC.out]
                refine wpAnyH_done (by kernel_rfl) ?_ _
                go_wp2_with (first | go_skip | ((with_reducible apply wpl_alloc); intro z wz _ _ _) | ((with_reducible apply (wpl_guard (op := .convert _ _ _))); (exact rfl)) | ((with_reducible apply wpl_loadrow); (exact rfl); infer_instance; infer_instance; (first | (with_reducible assumption) | (with_reducible exact H32.size _) | (with_reducible exact enc_sz _ rfl) | kernel_rfl)) | ((with_reducible apply wpl_loadcellN); (exact rfl); infer_instance; (exact rfl)) | ((with_reducible apply wpl_storerow); (exact rfl); (exact rfl); infer_instance; infer_instance; (first | (with_reducible assumption) | (with_reducible exact H32.size _) | (with_reducible exact enc_sz _ rfl) | kernel_rfl); (first | (with_reducible assumption) | (with_reducible exact H32.size _) | (with_reducible exact enc_sz _ rfl) | kernel_rfl); (first | (with_reducible exact u8s_one _) | (with_reducible assumption) | (with_reducible exact enc_one _) | kernel_rfl); intro ws _ _) | ((with_reducible apply wpl_storecell); (exact rfl); (exact rfl); infer_instance; (exact rfl); (first | (with_reducible assumption) | omega | (focus (simp; done)) | (focus (simp; omega; done)) | decide); intro ws _ _))
                exact ⟨⟨j + 1, by omega, by go_num, stepN⟩, by simp [intOf]; omega⟩
              · have hjI : ¬ (j : Int) < (N : Int) := by omega
                have nz9 : Nw w wr := inferInstance
                go_wp2_with (first | go_skip | ((with_reducible apply wpl_alloc); intro z wz _ _ _) | ((with_reducible apply (wpl_guard (op := .convert _ _ _))); (exact rfl)) | ((with_reducible apply wpl_loadrow); (exact rfl); infer_instance; infer_instance; (first | (with_reducible assumption) | (with_reducible exact H32.size _) | (with_reducible exact enc_sz _ rfl) | kernel_rfl)) | ((with_reducible apply wpl_loadcellN); (exact rfl); infer_instance; (exact rfl)) | ((with_reducible apply wpl_storerow); (exact rfl); (exact rfl); infer_instance; infer_instance; (first | (with_reducible assumption) | (with_reducible exact H32.size _) | (with_reducible exact enc_sz _ rfl) | kernel_rfl); (first | (with_reducible assumption) | (with_reducible exact H32.size _) | (with_reducible exact enc_sz _ rfl) | kernel_rfl); (first | (with_reducible exact u8s_one _) | (with_reducible assumption) | (with_reducible exact enc_one _) | kernel_rfl); intro ws _ _) | ((with_reducible apply wpl_storecell); (exact rfl); (exact rfl); infer_instance; (exact rfl); (first | (with_reducible assumption) | omega | (focus (simp; done)) | (focus (simp; omega; done)) | decide); intro ws _ _))
                exact ⟨⟨k + 1, by omega, by omega, by go_num, inferInstance, inferInstance, Lib.hid (BothS.nw HBz.out)⟩, by simp [intOf]; omega⟩
          · have e1 : ((gt l k).kind == 1) = false := by simp [hk1]
            by_cases hk2 : (gt l k).kind = 2
            · obtain ⟨⟨s, r, hF, hX, hR⟩, hTl⟩ := HBo.out
              have HF := Lib.hid hF
              have HX := Lib.hid hX
              have HTl := Lib.hid hTl
              have hok := Lib.hid hF.ok
              have HR0 := Lib.hid hR
              obtain ⟨q, hq⟩ : ∃ q, q = keepS N s (gt l k).mind := ⟨_, rfl⟩
              have HQ0 := Lib.hid hq
              have HNC : Hid (((q.1 : Int) != (q.1 : Int)) = false) := Lib.hid (by simp)
              have e2 : ((gt l k).kind == 2) = true := by simp [hk2]
              clear hk1 hk2
              have ozz : OffB (PT g p T) wr.heap.size := ⟨fun h => by
                have h1 := HF.out.lts
                rcases h with (h | h) | h
                · omega
                · omega
                · exact Nat.lt_irrefl _ (HTl.out _ h)⟩
              clear hF hX hR hTl hq HBo
              have hIa : Hid (Apart (Two g p) (gt l k).I (bs (gt l k).img)) := Lib.hid (fun hne ad e h => oB.out hne ad e (.inl h))
              have hMa : Hid (Apart (Two g p) (gt l k).M (bs (gt l k).mind)) := Lib.hid (fun hne ad e h => oM.out hne ad e (.inl h))
              have hIb : Hid (Apart T (gt l k).I (bs (gt l k).img)) := Lib.hid (fun hne ad e h => oB.out hne ad e (.inr h))
              have hMb : Hid (Apart T (gt l k).M (bs (gt l k).mind)) := Lib.hid (fun hne ad e h => oM.out hne ad e (.inr h))
              go_wp2_with (first | go_skip | ((with_reducible apply wpl_alloc); intro z wz _ _ _) | ((with_reducible apply (wpl_guard (op := .convert _ _ _))); (exact rfl)) | ((with_reducible apply wpl_loadrow); (exact rfl); infer_instance; infer_instance; (first | (with_reducible assumption) | (with_reducible exact H32.size _) | (with_reducible exact enc_sz _ rfl) | kernel_rfl)) | ((with_reducible apply wpl_loadcellN); (exact rfl); infer_instance; (exact rfl)) | ((with_reducible apply wpl_storerow); (exact rfl); (exact rfl); infer_instance; infer_instance; (first | (with_reducible assumption) | (with_reducible exact H32.size _) | (with_reducible exact enc_sz _ rfl) | kernel_rfl); (first | (with_reducible assumption) | (with_reducible exact H32.size _) | (with_reducible exact enc_sz _ rfl) | kernel_rfl); (first | (with_reducible exact u8s_one _) | (with_reducible assumption) | (with_reducible exact enc_one _) | kernel_rfl); intro ws _ _) | ((with_reducible apply wpl_storecell); (exact rfl); (exact rfl); infer_instance; (exact rfl); (first | (with_reducible assumption) | omega | (focus (simp; done)) | (focus (simp; omega; done)) | decide); intro ws _ _) | ((with_reducible apply wpl_indexH); (exact rfl); (exact rfl); infer_instance; infer_instance; (first | (with_reducible assumption) | omega); (first | (with_reducible assumption) | omega); (first | (with_reducible assumption) | omega)) | ((with_reducible apply wpl_indexH'); (exact rfl); (exact rfl); infer_instance; infer_instance; (first | (with_reducible assumption) | omega); (first | (with_reducible assumption) | omega); (first | (with_reducible assumption) | omega)) | ((with_reducible apply (wpl_loadhash (t := 52))); (exact rfl); infer_instance; infer_instance; (first | (with_reducible assumption) | omega)) | ((with_reducible apply (wpl_storehash (t := 52))); (exact rfl); (exact rfl); infer_instance; infer_instance; (first | (with_reducible assumption) | omega | (focus (simp; done)) | (focus (simp; omega; done)) | decide); intro ws _ _) | ((with_reducible apply (wpl_indexE (α := BAct) (t := 44))); (exact rfl); (exact rfl); infer_instance; infer_instance; (first | (with_reducible assumption) | omega | (focus (simp; done)) | (focus (simp; omega; done)) | decide); (exact rfl); (decide); (first | (with_reducible assumption) | omega | (focus (simp; done)) | (focus (simp; omega; done)) | decide)) | ((with_reducible apply (wpl_indexE0 (α := BAct) (t := 44))); (exact rfl); infer_instance; infer_instance; (first | (with_reducible assumption) | omega | (focus (simp; done)) | (focus (simp; omega; done)) | decide); (exact rfl); (decide); (first | (with_reducible assumption) | omega | (focus (simp; done)) | (focus (simp; omega; done)) | decide)) | ((with_reducible apply (wpl_loadE (α := BAct) (t := 48))); infer_instance; (exact rfl); infer_instance; (exact rfl); (decide); (first | (with_reducible assumption) | omega | (focus (simp; done)) | (focus (simp; omega; done)) | decide)) | ((with_reducible apply (wpl_fieldE (t := 48))); (exact Try.underlying48); (exact rfl); (kernel_rfl); (exact rfl); infer_instance; (exact cells_pos (by decide) (by omega))) | ((with_reducible apply (wpl_loadF (α := BAct))); infer_instance; (exact rfl); infer_instance; (exact rfl); (first | (with_reducible assumption) | omega | (focus (simp; done)) | (focus (simp; omega; done)) | decide); (exact rfl)) | ((with_reducible apply wpl_conv); (exact rfl); infer_instance; (first | (with_reducible assumption) | (focus (simp; done)) | omega); (exact Try.underlying22); (exact Try.underlying5); (exact Try.underlying9)) | ((with_reducible apply (wpl_loadint (t := 3))); (exact rfl); infer_instance; infer_instance; (first | (with_reducible assumption) | omega)) | ((with_reducible apply (wpl_loadbyte (t := 5))); (exact rfl); infer_instance; infer_instance; (first | (with_reducible assumption) | omega)) | ((with_reducible apply (wpl_storeint (t := 3))); (exact rfl); (exact rfl); infer_instance; (first | (with_reducible assumption) | omega); intro ws _ _) | ((with_reducible apply (wpl_storebyte (t := 5))); (exact rfl); (exact rfl); infer_instance; (first | (with_reducible assumption) | omega | (focus (simp; done)) | (focus (simp; omega; done)) | decide); (constructor <;> omega); intro ws _ _))
              refine wp_region_N ((PT g p T)) (by kernel_rfl) (fun wd _ _ => ?_)
              refine' takeH (i := 0) (v := _) rfl (by kernel_rfl) (by kernel_rfl) (by kernel_rfl) (fun _ _ _ h => h) (yields_of (by rfl) (fun w' _ => ?_)) inferInstance ?_
              rotate_left
              · (go_simp; try with_reducible rfl)
              try simp only [Act.put, sA]; try simp only [sB, sC]
              refine' takeH (i := 1) (v := _) rfl (by kernel_rfl) (by kernel_rfl) (by kernel_rfl) (fun _ _ _ h => h) (yields_of (by rfl) (fun w' _ => ?_)) inferInstance ?_
              rotate_left
              · (first | ((with_reducible apply (ev_fieldE (t := 48))); (exact Try.underlying48); (exact rfl); (kernel_rfl); (exact rfl); infer_instance; (exact cells_pos (by decide) (by omega))) | (go_simp; try with_reducible rfl))
              try simp only [Act.put, sA]; try simp only [sB, sC]
              refine' takeH (i := 2) (v := _) rfl (by kernel_rfl) (by kernel_rfl) (by kernel_rfl) (fun _ _ _ h => h) (yields_of (by rfl) (fun w' _ => ?_)) inferInstance ?_
              rotate_left
              · (first | ((with_reducible apply ev_loadrow); (exact rfl); infer_instance; infer_instance; (first | (with_reducible assumption) | (with_reducible exact H32.size _) | (with_reducible exact enc_sz _ rfl) | kernel_rfl)) | ((with_reducible apply (ev_loadhash (t := 52))); (exact rfl); infer_instance; infer_instance; (first | (with_reducible assumption) | omega)) | ((with_reducible apply ev_loadcellN); (exact rfl); infer_instance; infer_instance; (exact rfl)) | ((with_reducible apply (ev_loadE (α := BAct) (t := 48))); infer_instance; (exact rfl); infer_instance; (exact rfl); (decide); (first | (with_reducible assumption) | omega | (focus (simp; done)) | (focus (simp; omega; done)) | decide)) | ((with_reducible apply (ev_loadF (α := BAct))); infer_instance; (exact rfl); infer_instance; (exact rfl); (first | (with_reducible assumption) | omega | (focus (simp; done)) | (focus (simp; omega; done)) | decide); (exact rfl)) | ((with_reducible apply (ev_loadint (t := 3))); (exact rfl); infer_instance; infer_instance; (first | (with_reducible assumption) | omega)) | ((with_reducible apply (ev_loadbyte (t := 5))); (exact rfl); infer_instance; infer_instance; (first | (with_reducible assumption) | omega)) | (go_simp; try with_reducible rfl))
              try simp only [Act.put, sA]; try simp only [sB, sC]
              refine' takeH (i := 4) (v := _) rfl (by kernel_rfl) (by kernel_rfl) (by kernel_rfl) (fun _ _ _ h => h) (yields_of (by rfl) (fun w' _ => ?_)) inferInstance ?_
              rotate_left
              · (go_simp; try with_reducible rfl)
              try simp only [Act.put, sA]; try simp only [sB, sC]
              refine' takeH (i := 5) (v := _) rfl (by kernel_rfl) (by kernel_rfl) (by kernel_rfl) (fun _ _ _ h => h) (yields_of (by rfl) (fun w' _ => ?_)) inferInstance ?_
              rotate_left
              · (first | ((with_reducible apply (ev_fieldE (t := 48))); (exact Try.underlying48); (exact rfl); (kernel_rfl); (exact rfl); infer_instance; (exact cells_pos (by decide) (by omega))) | (go_simp; try with_reducible rfl))
              try simp only [Act.put, sA]; try simp only [sB, sC]
              refine' takeH (i := 6) (v := _) rfl (by kernel_rfl) (by kernel_rfl) (by kernel_rfl) (fun _ _ _ h => h) (yields_of (by rfl) (fun w' _ => ?_)) inferInstance ?_
              rotate_left
              · (first | ((with_reducible apply ev_loadrow); (exact rfl); infer_instance; infer_instance; (first | (with_reducible assumption) | (with_reducible exact H32.size _) | (with_reducible exact enc_sz _ rfl) | kernel_rfl)) | ((with_reducible apply (ev_loadhash (t := 52))); (exact rfl); infer_instance; infer_instance; (first | (with_reducible assumption) | omega)) | ((with_reducible apply ev_loadcellN); (exact rfl); infer_instance; infer_instance; (exact rfl)) | ((with_reducible apply (ev_loadE (α := BAct) (t := 48))); infer_instance; (exact rfl); infer_instance; (exact rfl); (decide); (first | (with_reducible assumption) | omega | (focus (simp; done)) | (focus (simp; omega; done)) | decide)) | ((with_reducible apply (ev_loadF (α := BAct))); infer_instance; (exact rfl); infer_instance; (exact rfl); (first | (with_reducible assumption) | omega | (focus (simp; done)) | (focus (simp; omega; done)) | decide); (exact rfl)) | ((with_reducible apply (ev_loadint (t := 3))); (exact rfl); infer_instance; infer_instance; (first | (with_reducible assumption) | omega)) | ((with_reducible apply (ev_loadbyte (t := 5))); (exact rfl); infer_instance; infer_instance; (first | (with_reducible assumption) | omega)) | (go_simp; try with_reducible rfl))
              try simp only [Act.put, sA]; try simp only [sB, sC]
              refine goH (i := 3) (by kernel_rfl) rfl (fun K_ hK_ => ?_)
              go_simp
              refine (bkKeep_calls (mind := (gt l k).mind) (FlashAt.nw HF.out) rfl (by have := HA1.out.2.2.2.2.1; omega)).mono ?_
              rw [← HQ0.out]
              rintro e w5 ⟨rfl, HF5, s5⟩
              have HX5 : Hid (RF w5 x T r) := Lib.hid (RF.ch (S := Two g p) HX.out HTG.out)
              have HT5 : Hid (∀ k, T k → k < w5.heap.size) := Lib.hid (fun k hk => Nat.lt_of_lt_of_le (HTl.out k hk) (inferInstance : SzLe wr w5).out)
              refine hK_.out _ _ inferInstance (fun _ => ?_)
              clear hK_ K_
              try simp only [Act.put, sA]; try simp only [sB, sC]
              refine goH (i := 7) (by kernel_rfl) rfl (fun K_ hK_ => ?_)
              go_simp
              refine (rbKeep_calls (mind := (gt l k).mind) (RF.nw HX5.out) HR0.out hok.out HT5.out rfl (by have := HA1.out.2.2.2.2.1; omega)).mono ?_
              rw [← HQ0.out]
              rintro e wz ⟨rfl, H6, s6⟩
              have HBz : Hid (BothS wz g p N x T) := Lib.hid (by
                obtain ⟨r', h1, h2⟩ := H6.out
                exact ⟨⟨_, r', HF5.out.chg s6.chg HTg.out HTp.out, h1, h2⟩, fun k hk => Nat.lt_of_lt_of_le (HT5.out k hk) s6.chg.size⟩)
              refine hK_.out _ _ inferInstance (fun _ => ?_)
              clear hK_ K_
              try simp only [Act.put, sA]; try simp only [sB, sC]
              refine' takeH (i := 8) (v := _) rfl (by kernel_rfl) (by kernel_rfl) (by kernel_rfl) (fun _ _ _ h => h) (yields_of (by rfl) (fun w' _ => ?_)) inferInstance ?_
              rotate_left
              · (go_simp; try with_reducible rfl)
              try simp only [Act.put, sA]; try simp only [sB, sC]
              try simp only [HSE.out]
              try simp only [HNA.out]
              try simp only [HNB.out]
              try simp only [HNC.out]
              refine wpAnyH_done (by kernel_rfl) ?_ _
              clear hIa hMa hIb hMb HF HX HTl hok HR0 HQ0 HF5 HX5 HT5 H6
              have HL5 : HR wz L (cellsOf l) := ⟨hL.out.chg (inferInstance : Nw w wz).out (fun _ _ _ h => h)⟩
              obtain ⟨⟨s5, r5, hF5, hX5, hR5⟩, hT5⟩ := HBz.out
              have HF5 := Lib.hid hF5
              have HX5 := Lib.hid hX5
              have HR5 := Lib.hid hR5
              have HOK5 := Lib.hid hF5.ok
              have hN256 := hF5.ok.most
              obtain ⟨A5, cA5, rows5, hbx5, hra5, hlen5, hpg5⟩ := rf_rows hX5 hR5
              have HPG5 := Lib.hid hpg5
              have HLEN5 := Lib.hid hlen5
              obtain ⟨⟨D, im, E⟩, hQ⟩ : ∃ Q, Q = bootS N s5 := ⟨_, rfl⟩
              have HQ := Lib.hid hQ
              have HSE : Hid (((strL im).toList == (strL im).toList) = true) := Lib.hid (by simp)
              have HNA : Hid (((E : Int) != (E : Int)) = false) := Lib.hid (by simp)
              have hs0 := bkL_len 0 0 zeroH 0 ⟨#[]⟩ none 0 0
              clear hQ hF5 hX5 hR5 hT5 hpg5 hlen5
              go_wp2_with (first | go_skip | ((with_reducible apply wpl_alloc); intro z wz _ _ _) | ((with_reducible apply (wpl_guard (op := .convert _ _ _))); (exact rfl)) | ((with_reducible apply wpl_loadrow); (exact rfl); infer_instance; infer_instance; (first | (with_reducible assumption) | (with_reducible exact H32.size _) | (with_reducible exact enc_sz _ rfl) | kernel_rfl)) | ((with_reducible apply wpl_loadcellN); (exact rfl); infer_instance; (exact rfl)) | ((with_reducible apply wpl_storerow); (exact rfl); (exact rfl); infer_instance; infer_instance; (first | (with_reducible assumption) | (with_reducible exact H32.size _) | (with_reducible exact enc_sz _ rfl) | kernel_rfl); (first | (with_reducible assumption) | (with_reducible exact H32.size _) | (with_reducible exact enc_sz _ rfl) | kernel_rfl); (first | (with_reducible exact u8s_one _) | (with_reducible assumption) | (with_reducible exact enc_one _) | kernel_rfl); intro ws _ _) | ((with_reducible apply wpl_storecell); (exact rfl); (exact rfl); infer_instance; (exact rfl); (first | (with_reducible assumption) | omega | (focus (simp; done)) | (focus (simp; omega; done)) | decide); intro ws _ _))
              refine (bkBoot_calls (FlashAt.nw HF5.out)).mono ?_
              rw [← HQ.out]
              unfold BootQ
              rintro e w6 ⟨M6, m6, d6, I6, n6, c6, rfl, hm6, hd6, hM6, _, hn6, hc6, hI6, _, _⟩
              have hm6 : D.mind.length = m6 := hm6
              have hn6 : im.length = n6 := hn6
              have hM6 : HR w6 M6 (bs D.mind) := hM6
              have hI6 : HR w6 I6 (bs im) := hI6
              have hq6 := bkL_len D.bank D.size D.sum D.cnt (strL D.name) M6 m6 d6
              have ho6 := bkL_one D.bank D.size D.sum D.cnt (strL D.name) M6 m6 d6
              go_wp2_with (first | go_skip | ((with_reducible apply wpl_storerow); (exact rfl); (exact rfl); infer_instance; infer_instance; (exact hq6); (exact hs0); (exact ho6); intro wq _ hba) | ((with_reducible apply (wpl_alloc (dst := some 9))); intro za wza _ _ _) | ((with_reducible apply wpl_alloc); intro z wz _ _ _) | ((with_reducible apply (wpl_guard (op := .convert _ _ _))); (exact rfl)) | ((with_reducible apply wpl_loadrow); (exact rfl); infer_instance; infer_instance; (first | (with_reducible assumption) | (with_reducible exact H32.size _) | (with_reducible exact enc_sz _ rfl) | kernel_rfl)) | ((with_reducible apply wpl_loadcellN); (exact rfl); infer_instance; (exact rfl)) | ((with_reducible apply wpl_storerow); (exact rfl); (exact rfl); infer_instance; infer_instance; (first | (with_reducible assumption) | (with_reducible exact H32.size _) | (with_reducible exact enc_sz _ rfl) | kernel_rfl); (first | (with_reducible assumption) | (with_reducible exact H32.size _) | (with_reducible exact enc_sz _ rfl) | kernel_rfl); (first | (with_reducible exact u8s_one _) | (with_reducible assumption) | (with_reducible exact enc_one _) | kernel_rfl); intro ws _ _) | ((with_reducible apply wpl_storecell); (exact rfl); (exact rfl); infer_instance; (exact rfl); (first | (with_reducible assumption) | omega | (focus (simp; done)) | (focus (simp; omega; done)) | decide); intro ws _ _))
              refine (rbBoot_calls (RF.nw HX5.out) HR5.out HOK5.out).mono ?_
              rw [← HQ.out]
              unfold BootQ
              rintro e w7 ⟨M7, m7, d7, I7, n7, c7, rfl, hm7, hd7, hM7, _, hn7, hc7, hI7, _, _⟩
              have hm7 : D.mind.length = m7 := hm7
              have hn7 : im.length = n7 := hn7
              have hM7 : HR w7 M7 (bs D.mind) := hM7
              have hI7 : HR w7 I7 (bs im) := hI7
              have hq7 := bkL_len D.bank D.size D.sum D.cnt (strL D.name) M7 m7 d7
              have ho7 := bkL_one D.bank D.size D.sum D.cnt (strL D.name) M7 m7 d7
              go_wp2_with (first | go_skip | ((with_reducible apply wpl_storerow); (exact rfl); (exact rfl); infer_instance; infer_instance; (exact hq7); (exact hs0); (exact ho7); intro wt _ hbb) | ((with_reducible apply wpl_loadrow); (exact rfl); (exact hba); infer_instance; (exact hq6)) | ((with_reducible apply wpl_loadrow); (exact rfl); (exact hbb); infer_instance; (exact hq7)) | ((with_reducible apply (wpl_alloc (dst := some 12))); intro zb wzb _ _ _) | ((with_reducible apply wpl_alloc); intro z wz _ _ _) | ((with_reducible apply (wpl_guard (op := .convert _ _ _))); (exact rfl)) | ((with_reducible apply wpl_loadrow); (exact rfl); infer_instance; infer_instance; (first | (with_reducible assumption) | (with_reducible exact H32.size _) | (with_reducible exact enc_sz _ rfl) | kernel_rfl)) | ((with_reducible apply wpl_loadcellN); (exact rfl); infer_instance; (exact rfl)) | ((with_reducible apply wpl_storerow); (exact rfl); (exact rfl); infer_instance; infer_instance; (first | (with_reducible assumption) | (with_reducible exact H32.size _) | (with_reducible exact enc_sz _ rfl) | kernel_rfl); (first | (with_reducible assumption) | (with_reducible exact H32.size _) | (with_reducible exact enc_sz _ rfl) | kernel_rfl); (first | (with_reducible exact u8s_one _) | (with_reducible assumption) | (with_reducible exact enc_one _) | kernel_rfl); intro ws _ _) | ((with_reducible apply wpl_storecell); (exact rfl); (exact rfl); infer_instance; (exact rfl); (first | (with_reducible assumption) | omega | (focus (simp; done)) | (focus (simp; omega; done)) | decide); intro ws _ _))
              refine (bkSame_calls D hm6 hm7).mono ?_
              rintro e w8 ⟨rfl, _⟩
              have hse := HSE.out
              have hna := HNA.out
              have hI68 : HR w8 I6 (bs im) := inferInstance
              have hI78 : HR w8 I7 (bs im) := inferInstance
              go_wp2_with (first | go_skip | ((with_reducible apply wpl_alloc); intro z wz _ _ _) | ((with_reducible apply (wpl_guard (op := .convert _ _ _))); (exact rfl)) | ((with_reducible apply wpl_loadrow); (exact rfl); infer_instance; infer_instance; (first | (with_reducible assumption) | (with_reducible exact H32.size _) | (with_reducible exact enc_sz _ rfl) | kernel_rfl)) | ((with_reducible apply wpl_loadcellN); (exact rfl); infer_instance; (exact rfl)) | ((with_reducible apply wpl_storerow); (exact rfl); (exact rfl); infer_instance; infer_instance; (first | (with_reducible assumption) | (with_reducible exact H32.size _) | (with_reducible exact enc_sz _ rfl) | kernel_rfl); (first | (with_reducible assumption) | (with_reducible exact H32.size _) | (with_reducible exact enc_sz _ rfl) | kernel_rfl); (first | (with_reducible exact u8s_one _) | (with_reducible assumption) | (with_reducible exact enc_one _) | kernel_rfl); intro ws _ _) | ((with_reducible apply wpl_storecell); (exact rfl); (exact rfl); infer_instance; (exact rfl); (first | (with_reducible assumption) | omega | (focus (simp; done)) | (focus (simp; omega; done)) | decide); intro ws _ _) | ((with_reducible apply wpl_indexH); (exact rfl); (exact rfl); infer_instance; infer_instance; (first | (with_reducible assumption) | omega); (first | (with_reducible assumption) | omega); (first | (with_reducible assumption) | omega)) | ((with_reducible apply wpl_indexH'); (exact rfl); (exact rfl); infer_instance; infer_instance; (first | (with_reducible assumption) | omega); (first | (with_reducible assumption) | omega); (first | (with_reducible assumption) | omega)) | ((with_reducible apply (wpl_loadhash (t := 52))); (exact rfl); infer_instance; infer_instance; (first | (with_reducible assumption) | omega)) | ((with_reducible apply (wpl_storehash (t := 52))); (exact rfl); (exact rfl); infer_instance; infer_instance; (first | (with_reducible assumption) | omega | (focus (simp; done)) | (focus (simp; omega; done)) | decide); intro ws _ _) | ((with_reducible apply (wpl_indexE (α := BAct) (t := 44))); (exact rfl); (exact rfl); infer_instance; infer_instance; (first | (with_reducible assumption) | omega | (focus (simp; done)) | (focus (simp; omega; done)) | decide); (exact rfl); (decide); (first | (with_reducible assumption) | omega | (focus (simp; done)) | (focus (simp; omega; done)) | decide)) | ((with_reducible apply (wpl_indexE0 (α := BAct) (t := 44))); (exact rfl); infer_instance; infer_instance; (first | (with_reducible assumption) | omega | (focus (simp; done)) | (focus (simp; omega; done)) | decide); (exact rfl); (decide); (first | (with_reducible assumption) | omega | (focus (simp; done)) | (focus (simp; omega; done)) | decide)) | ((with_reducible apply (wpl_loadE (α := BAct) (t := 48))); infer_instance; (exact rfl); infer_instance; (exact rfl); (decide); (first | (with_reducible assumption) | omega | (focus (simp; done)) | (focus (simp; omega; done)) | decide)) | ((with_reducible apply (wpl_fieldE (t := 48))); (exact Try.underlying48); (exact rfl); (kernel_rfl); (exact rfl); infer_instance; (exact cells_pos (by decide) (by omega))) | ((with_reducible apply (wpl_loadF (α := BAct))); infer_instance; (exact rfl); infer_instance; (exact rfl); (first | (with_reducible assumption) | omega | (focus (simp; done)) | (focus (simp; omega; done)) | decide); (exact rfl)) | ((with_reducible apply wpl_conv); (exact rfl); infer_instance; (first | (with_reducible assumption) | (focus (simp; done)) | omega); (exact Try.underlying22); (exact Try.underlying5); (exact Try.underlying9)) | ((with_reducible apply (wpl_loadint (t := 3))); (exact rfl); infer_instance; infer_instance; (first | (with_reducible assumption) | omega)) | ((with_reducible apply (wpl_loadbyte (t := 5))); (exact rfl); infer_instance; infer_instance; (first | (with_reducible assumption) | omega)) | ((with_reducible apply (wpl_storeint (t := 3))); (exact rfl); (exact rfl); infer_instance; (first | (with_reducible assumption) | omega); intro ws _ _) | ((with_reducible apply (wpl_storebyte (t := 5))); (exact rfl); (exact rfl); infer_instance; (first | (with_reducible assumption) | omega | (focus (simp; done)) | (focus (simp; omega; done)) | decide); (constructor <;> omega); intro ws _ _))
              have n8 : Nw wz w8 := inferInstance
              clear hse hna hbb hba
              go_loopw [15] (fun iv wy => ∃ j : Nat, j ≤ N ∧ iv = .int .i64 (j : Int) ∧ Step nowhere wz wy) (fun iv _ => N - (intOf iv).toNat)
              case atStart => exact ⟨0, Nat.zero_le _, rfl, stepN⟩
              case round =>
                obtain ⟨j, hj, rfl, _⟩ := hrel
                have ny : Nw wz wr := inferInstance
                have hbx9 : HB wr x 63 #[.slice A5 N cA5, .int .i64 r5.left, .int .i64 (r5.tear : Int), .bool r5.off] := inferInstance
                by_cases hjj : j < N
                · have hjI : (j : Int) < (N : Int) := by omega
                  have hpos : 0 < (cellsOf rows5).length := by rw [HLEN5.out]; omega
                  obtain ⟨hvt, hlen, hrd⟩ := HPG5.out j hjj
                  go_wp2_with (first | go_skip | ((with_reducible apply wpl_alloc); intro z wz _ _ _) | ((with_reducible apply (wpl_guard (op := .convert _ _ _))); (exact rfl)) | ((with_reducible apply wpl_loadrow); (exact rfl); infer_instance; infer_instance; (first | (with_reducible assumption) | (with_reducible exact H32.size _) | (with_reducible exact enc_sz _ rfl) | kernel_rfl)) | ((with_reducible apply wpl_loadcellN); (exact rfl); infer_instance; (exact rfl)) | ((with_reducible apply wpl_storerow); (exact rfl); (exact rfl); infer_instance; infer_instance; (first | (with_reducible assumption) | (with_reducible exact H32.size _) | (with_reducible exact enc_sz _ rfl) | kernel_rfl); (first | (with_reducible assumption) | (with_reducible exact H32.size _) | (with_reducible exact enc_sz _ rfl) | kernel_rfl); (first | (with_reducible exact u8s_one _) | (with_reducible assumption) | (with_reducible exact enc_one _) | kernel_rfl); intro ws _ _) | ((with_reducible apply wpl_storecell); (exact rfl); (exact rfl); infer_instance; (exact rfl); (first | (with_reducible assumption) | omega | (focus (simp; done)) | (focus (simp; omega; done)) | decide); intro ws _ _))
                  refine (Read_at g p N s5 _ j _ (FlashAt.nw HF5.out) rfl hjj).mono ?_
                  obtain ⟨R, hR⟩ : ∃ R, R = (gt rows5 j).A := ⟨_, rfl⟩
                  obtain ⟨rc, hrc⟩ : ∃ R, R = (gt rows5 j).c := ⟨_, rfl⟩
                  obtain ⟨pg, hpgE⟩ : ∃ R, R = s5.page j := ⟨_, rfl⟩
                  rw [← hR, ← hrc] at hvt
                  rw [← hR, ← hpgE] at hrd
                  rw [← hpgE] at hlen ⊢
                  clear hR hrc hpgE HSE
                  rintro e w9 ⟨A9, c9, rfl, hA9, _, hn9⟩
                  have n9 : Nw wz w9 := inferInstance
                  have hpg : HR w9 R (bs pg) := ⟨hrd.later n9.out⟩
                  have HSE : Hid (((strL pg).toList == (strL pg).toList) = true) := Lib.hid (by simp)
                  clear hrd
                  go_wp2_with (first | go_skip | ((with_reducible apply wpl_alloc); intro z wz _ _ _) | ((with_reducible apply (wpl_guard (op := .convert _ _ _))); (exact rfl)) | ((with_reducible apply wpl_loadrow); (exact rfl); infer_instance; infer_instance; (first | (with_reducible assumption) | (with_reducible exact H32.size _) | (with_reducible exact enc_sz _ rfl) | kernel_rfl)) | ((with_reducible apply wpl_loadcellN); (exact rfl); infer_instance; (exact rfl)) | ((with_reducible apply wpl_storerow); (exact rfl); (exact rfl); infer_instance; infer_instance; (first | (with_reducible assumption) | (with_reducible exact H32.size _) | (with_reducible exact enc_sz _ rfl) | kernel_rfl); (first | (with_reducible assumption) | (with_reducible exact H32.size _) | (with_reducible exact enc_sz _ rfl) | kernel_rfl); (first | (with_reducible exact u8s_one _) | (with_reducible assumption) | (with_reducible exact enc_one _) | kernel_rfl); intro ws _ _) | ((with_reducible apply wpl_storecell); (exact rfl); (exact rfl); infer_instance; (exact rfl); (first | (with_reducible assumption) | omega | (focus (simp; done)) | (focus (simp; omega; done)) | decide); intro ws _ _))
                  refine wp_region_N (nowhere) (by kernel_rfl) (fun wd _ _ => ?_)
                  refine' takeH (i := 0) (v := _) rfl (by kernel_rfl) (by kernel_rfl) (by kernel_rfl) (fun _ _ _ h => h) (yields_of (by rfl) (fun w' _ => ?_)) inferInstance ?_
                  rotate_left
                  · (go_simp; try with_reducible rfl)
                  try simp only [Act.put, sA]; try simp only [sB, sC]
                  refine' takeH (i := 1) (v := _) rfl (by kernel_rfl) (by kernel_rfl) (by kernel_rfl) (fun _ _ _ h => h) (yields_of (by rfl) (fun w' _ => ?_)) inferInstance ?_
                  rotate_left
                  · (first | ((with_reducible apply ev_conv); (exact rfl); infer_instance; (first | (with_reducible assumption) | (focus (simp; done)) | omega); (exact Try.underlying22); (exact Try.underlying5); (exact Try.underlying9)) | (go_simp; try with_reducible rfl))
                  try simp only [Act.put, sA]; try simp only [sB, sC]
                  refine' takeH (i := 2) (v := _) rfl (by kernel_rfl) (by kernel_rfl) (by kernel_rfl) (fun _ _ _ h => h) (yields_of (by rfl) (fun w' _ => ?_)) inferInstance ?_
                  rotate_left
                  · (go_simp; try with_reducible rfl)
                  try simp only [Act.put, sA]; try simp only [sB, sC]
                  refine' takeH (i := 3) (v := _) rfl (by kernel_rfl) (by kernel_rfl) (by kernel_rfl) (fun _ _ _ h => h) (yields_of (by rfl) (fun w' _ => ?_)) inferInstance ?_
                  rotate_left
                  · (go_simp; try with_reducible rfl)
                  try simp only [Act.put, sA]; try simp only [sB, sC]
                  refine' takeH (i := 4) (v := _) rfl (by kernel_rfl) (by kernel_rfl) (by kernel_rfl) (fun _ _ _ h => h) (yields_of (by rfl) (fun w' _ => ?_)) inferInstance ?_
                  rotate_left
                  · (first | ((with_reducible apply (ev_fieldE (t := 48))); (exact Try.underlying48); (exact rfl); (kernel_rfl); (exact rfl); infer_instance; (exact cells_pos (by decide) (by omega))) | (go_simp; try with_reducible rfl))
                  try simp only [Act.put, sA]; try simp only [sB, sC]
                  refine' takeH (i := 5) (v := _) rfl (by kernel_rfl) (by kernel_rfl) (by kernel_rfl) (fun _ _ _ h => h) (yields_of (by rfl) (fun w' _ => ?_)) inferInstance ?_
                  rotate_left
                  · (first | ((with_reducible apply ev_loadcellN); (exact rfl); infer_instance; infer_instance; (exact rfl)))
                  try simp only [Act.put, sA]; try simp only [sB, sC]
                  refine' takeH (i := 6) (v := _) rfl (by kernel_rfl) (by kernel_rfl) (by kernel_rfl) (fun _ _ _ h => h) (yields_of (by rfl) (fun w' _ => ?_)) inferInstance ?_
                  rotate_left
                  · (go_simp; try with_reducible rfl)
                  try simp only [Act.put, sA]; try simp only [sB, sC]
                  refine' takeH (i := 7) (v := _) rfl (by kernel_rfl) (by kernel_rfl) (by kernel_rfl) (fun _ _ _ h => h) (yields_of (by rfl) (fun w' _ => ?_)) inferInstance ?_
                  rotate_left
                  · (first | ((with_reducible apply (ev_index1 (k := j))); (exact rfl); (exact rfl); infer_instance; infer_instance; (exact hpos); (exact hjj)))
                  try simp only [Act.put, sA]; try simp only [sB, sC]
                  refine' takeH (i := 8) (v := _) rfl (by kernel_rfl) (by kernel_rfl) (by kernel_rfl) (fun _ _ _ h => h) (yields_of (by rfl) (fun w' _ => ?_)) inferInstance ?_
                  rotate_left
                  · (first | ((with_reducible apply (ev_load1 (k := j))); (exact rfl); infer_instance; infer_instance; (exact hvt)))
                  try simp only [Act.put, sA]; try simp only [sB, sC]
                  refine' takeH (i := 9) (v := _) rfl (by kernel_rfl) (by kernel_rfl) (by kernel_rfl) (fun _ _ _ h => h) (yields_of (by rfl) (fun w' _ => ?_)) inferInstance ?_
                  rotate_left
                  · (first | ((with_reducible apply ev_conv); (exact rfl); infer_instance; (first | (with_reducible assumption) | (focus (simp; done)) | omega); (exact Try.underlying22); (exact Try.underlying5); (exact Try.underlying9)) | (go_simp; try with_reducible rfl))
                  try simp only [Act.put, sA]; try simp only [sB, sC]
                  refine' takeH (i := 10) (v := _) rfl (by kernel_rfl) (by kernel_rfl) (by kernel_rfl) (fun _ _ _ h => h) (yields_of (by rfl) (fun w' _ => ?_)) inferInstance ?_
                  rotate_left
                  · (go_simp; try with_reducible rfl)
                  try simp only [Act.put, sA]; try simp only [sB, sC]
                  try simp only [HSE.out]
                  try simp only [HNA.out]
                  try simp only [HNB.out]
                  try simp only [HNC.out]
                  refine wpAnyH_done (by kernel_rfl) ?_ _
                  go_wp2_with (first | go_skip | ((with_reducible apply wpl_alloc); intro z wz _ _ _) | ((with_reducible apply (wpl_guard (op := .convert _ _ _))); (exact rfl)) | ((with_reducible apply wpl_loadrow); (exact rfl); infer_instance; infer_instance; (first | (with_reducible assumption) | (with_reducible exact H32.size _) | (with_reducible exact enc_sz _ rfl) | kernel_rfl)) | ((with_reducible apply wpl_loadcellN); (exact rfl); infer_instance; (exact rfl)) | ((with_reducible apply wpl_storerow); (exact rfl); (exact rfl); infer_instance; infer_instance; (first | (with_reducible assumption) | (with_reducible exact H32.size _) | (with_reducible exact enc_sz _ rfl) | kernel_rfl); (first | (with_reducible assumption) | (with_reducible exact H32.size _) | (with_reducible exact enc_sz _ rfl) | kernel_rfl); (first | (with_reducible exact u8s_one _) | (with_reducible assumption) | (with_reducible exact enc_one _) | kernel_rfl); intro ws _ _) | ((with_reducible apply wpl_storecell); (exact rfl); (exact rfl); infer_instance; (exact rfl); (first | (with_reducible assumption) | omega | (focus (simp; done)) | (focus (simp; omega; done)) | decide); intro ws _ _))
                  exact ⟨⟨j + 1, by omega, by go_num, stepN⟩, by simp [intOf]; omega⟩
                · have hjI : ¬ (j : Int) < (N : Int) := by omega
                  have nz9 : Nw w wr := inferInstance
                  go_wp2_with (first | go_skip | ((with_reducible apply wpl_alloc); intro z wz _ _ _) | ((with_reducible apply (wpl_guard (op := .convert _ _ _))); (exact rfl)) | ((with_reducible apply wpl_loadrow); (exact rfl); infer_instance; infer_instance; (first | (with_reducible assumption) | (with_reducible exact H32.size _) | (with_reducible exact enc_sz _ rfl) | kernel_rfl)) | ((with_reducible apply wpl_loadcellN); (exact rfl); infer_instance; (exact rfl)) | ((with_reducible apply wpl_storerow); (exact rfl); (exact rfl); infer_instance; infer_instance; (first | (with_reducible assumption) | (with_reducible exact H32.size _) | (with_reducible exact enc_sz _ rfl) | kernel_rfl); (first | (with_reducible assumption) | (with_reducible exact H32.size _) | (with_reducible exact enc_sz _ rfl) | kernel_rfl); (first | (with_reducible exact u8s_one _) | (with_reducible assumption) | (with_reducible exact enc_one _) | kernel_rfl); intro ws _ _) | ((with_reducible apply wpl_storecell); (exact rfl); (exact rfl); infer_instance; (exact rfl); (first | (with_reducible assumption) | omega | (focus (simp; done)) | (focus (simp; omega; done)) | decide); intro ws _ _))
                  exact ⟨⟨k + 1, by omega, by omega, by go_num, inferInstance, inferInstance, Lib.hid (BothS.nw HBz.out)⟩, by simp [intOf]; omega⟩
            · have e2 : ((gt l k).kind == 2) = false := by simp [hk2]
              by_cases hk3 : (gt l k).kind = 3
              · obtain ⟨⟨s, r, hF, hX, hR⟩, hTl⟩ := HBo.out
                have HF := Lib.hid hF
                have HX := Lib.hid hX
                have HTl := Lib.hid hTl
                have hok := Lib.hid hF.ok
                have HR0 := Lib.hid hR
                have HNC : Hid (True = True) := Lib.hid rfl
                have ozz : OffB (Two g p) wr.heap.size := ⟨fun h => by
                  have h1 := HF.out.lts
                  rcases h with h | h
                  · omega
                  · omega⟩
                clear hF hX hR hTl HBo
                have e3 : ((gt l k).kind == 3) = true := by simp [hk3]
                clear hk1 hk2 hk3
                go_wp2_with (first | go_skip | ((with_reducible apply wpl_alloc); intro z wz _ _ _) | ((with_reducible apply (wpl_guard (op := .convert _ _ _))); (exact rfl)) | ((with_reducible apply wpl_loadrow); (exact rfl); infer_instance; infer_instance; (first | (with_reducible assumption) | (with_reducible exact H32.size _) | (with_reducible exact enc_sz _ rfl) | kernel_rfl)) | ((with_reducible apply wpl_loadcellN); (exact rfl); infer_instance; (exact rfl)) | ((with_reducible apply wpl_storerow); (exact rfl); (exact rfl); infer_instance; infer_instance; (first | (with_reducible assumption) | (with_reducible exact H32.size _) | (with_reducible exact enc_sz _ rfl) | kernel_rfl); (first | (with_reducible assumption) | (with_reducible exact H32.size _) | (with_reducible exact enc_sz _ rfl) | kernel_rfl); (first | (with_reducible exact u8s_one _) | (with_reducible assumption) | (with_reducible exact enc_one _) | kernel_rfl); intro ws _ _) | ((with_reducible apply wpl_storecell); (exact rfl); (exact rfl); infer_instance; (exact rfl); (first | (with_reducible assumption) | omega | (focus (simp; done)) | (focus (simp; omega; done)) | decide); intro ws _ _) | ((with_reducible apply wpl_indexH); (exact rfl); (exact rfl); infer_instance; infer_instance; (first | (with_reducible assumption) | omega); (first | (with_reducible assumption) | omega); (first | (with_reducible assumption) | omega)) | ((with_reducible apply wpl_indexH'); (exact rfl); (exact rfl); infer_instance; infer_instance; (first | (with_reducible assumption) | omega); (first | (with_reducible assumption) | omega); (first | (with_reducible assumption) | omega)) | ((with_reducible apply (wpl_loadhash (t := 52))); (exact rfl); infer_instance; infer_instance; (first | (with_reducible assumption) | omega)) | ((with_reducible apply (wpl_storehash (t := 52))); (exact rfl); (exact rfl); infer_instance; infer_instance; (first | (with_reducible assumption) | omega | (focus (simp; done)) | (focus (simp; omega; done)) | decide); intro ws _ _) | ((with_reducible apply (wpl_indexE (α := BAct) (t := 44))); (exact rfl); (exact rfl); infer_instance; infer_instance; (first | (with_reducible assumption) | omega | (focus (simp; done)) | (focus (simp; omega; done)) | decide); (exact rfl); (decide); (first | (with_reducible assumption) | omega | (focus (simp; done)) | (focus (simp; omega; done)) | decide)) | ((with_reducible apply (wpl_indexE0 (α := BAct) (t := 44))); (exact rfl); infer_instance; infer_instance; (first | (with_reducible assumption) | omega | (focus (simp; done)) | (focus (simp; omega; done)) | decide); (exact rfl); (decide); (first | (with_reducible assumption) | omega | (focus (simp; done)) | (focus (simp; omega; done)) | decide)) | ((with_reducible apply (wpl_loadE (α := BAct) (t := 48))); infer_instance; (exact rfl); infer_instance; (exact rfl); (decide); (first | (with_reducible assumption) | omega | (focus (simp; done)) | (focus (simp; omega; done)) | decide)) | ((with_reducible apply (wpl_fieldE (t := 48))); (exact Try.underlying48); (exact rfl); (kernel_rfl); (exact rfl); infer_instance; (exact cells_pos (by decide) (by omega))) | ((with_reducible apply (wpl_loadF (α := BAct))); infer_instance; (exact rfl); infer_instance; (exact rfl); (first | (with_reducible assumption) | omega | (focus (simp; done)) | (focus (simp; omega; done)) | decide); (exact rfl)) | ((with_reducible apply wpl_conv); (exact rfl); infer_instance; (first | (with_reducible assumption) | (focus (simp; done)) | omega); (exact Try.underlying22); (exact Try.underlying5); (exact Try.underlying9)) | ((with_reducible apply (wpl_loadint (t := 3))); (exact rfl); infer_instance; infer_instance; (first | (with_reducible assumption) | omega)) | ((with_reducible apply (wpl_loadbyte (t := 5))); (exact rfl); infer_instance; infer_instance; (first | (with_reducible assumption) | omega)) | ((with_reducible apply (wpl_storeint (t := 3))); (exact rfl); (exact rfl); infer_instance; (first | (with_reducible assumption) | omega); intro ws _ _) | ((with_reducible apply (wpl_storebyte (t := 5))); (exact rfl); (exact rfl); infer_instance; (first | (with_reducible assumption) | omega | (focus (simp; done)) | (focus (simp; omega; done)) | decide); (constructor <;> omega); intro ws _ _))
                refine (Fuse_calls g p N s (gt l k).n (gt l k).tear _ (FlashAt.nw HF.out) HA1.out.2.2.2.2.2.2).mono ?_
                rintro e w5 ⟨rfl, HF5, c5⟩
                have s5 : Step (Two g p) _ w5 := ⟨c5.out⟩
                have HX5 : Hid (RF w5 x T r) := Lib.hid (RF.ch (S := Two g p) HX.out HTG.out)
                have HT5 : Hid (∀ k, T k → k < w5.heap.size) := Lib.hid (fun k hk => Nat.lt_of_lt_of_le (HTl.out k hk) (inferInstance : SzLe wr w5).out)
                clear c5
                go_wp2_with (first | go_skip | ((with_reducible apply wpl_alloc); intro z wz _ _ _) | ((with_reducible apply (wpl_guard (op := .convert _ _ _))); (exact rfl)) | ((with_reducible apply wpl_loadrow); (exact rfl); infer_instance; infer_instance; (first | (with_reducible assumption) | (with_reducible exact H32.size _) | (with_reducible exact enc_sz _ rfl) | kernel_rfl)) | ((with_reducible apply wpl_loadcellN); (exact rfl); infer_instance; (exact rfl)) | ((with_reducible apply wpl_storerow); (exact rfl); (exact rfl); infer_instance; infer_instance; (first | (with_reducible assumption) | (with_reducible exact H32.size _) | (with_reducible exact enc_sz _ rfl) | kernel_rfl); (first | (with_reducible assumption) | (with_reducible exact H32.size _) | (with_reducible exact enc_sz _ rfl) | kernel_rfl); (first | (with_reducible exact u8s_one _) | (with_reducible assumption) | (with_reducible exact enc_one _) | kernel_rfl); intro ws _ _) | ((with_reducible apply wpl_storecell); (exact rfl); (exact rfl); infer_instance; (exact rfl); (first | (with_reducible assumption) | omega | (focus (simp; done)) | (focus (simp; omega; done)) | decide); intro ws _ _))
                refine (rfFuse_calls (RF.nw HX5.out) (gt l k).n (gt l k).tear).mono ?_
                rintro e wz ⟨rfl, h6, c6⟩
                have s6 : Step T _ wz := ⟨c6⟩
                have HBz : Hid (BothS wz g p N x T) := Lib.hid ⟨⟨_, _, (FlashAt.nw HF5.out).chg c6 HTg.out HTp.out, h6, HR0.out.fuse _ _⟩, fun k hk => Nat.lt_of_lt_of_le (HT5.out k hk) (inferInstance : SzLe w5 wz).out⟩
                clear h6 c6 HF HX HTl hok HR0 HF5 HX5 HT5
                have HL5 : HR wz L (cellsOf l) := ⟨hL.out.chg (inferInstance : Nw w wz).out (fun _ _ _ h => h)⟩
                obtain ⟨⟨s5, r5, hF5, hX5, hR5⟩, hT5⟩ := HBz.out
                have HF5 := Lib.hid hF5
                have HX5 := Lib.hid hX5
                have HR5 := Lib.hid hR5
                have HOK5 := Lib.hid hF5.ok
                have hN256 := hF5.ok.most
                obtain ⟨A5, cA5, rows5, hbx5, hra5, hlen5, hpg5⟩ := rf_rows hX5 hR5
                have HPG5 := Lib.hid hpg5
                have HLEN5 := Lib.hid hlen5
                obtain ⟨⟨D, im, E⟩, hQ⟩ : ∃ Q, Q = bootS N s5 := ⟨_, rfl⟩
                have HQ := Lib.hid hQ
                have HSE : Hid (((strL im).toList == (strL im).toList) = true) := Lib.hid (by simp)
                have HNA : Hid (((E : Int) != (E : Int)) = false) := Lib.hid (by simp)
                have hs0 := bkL_len 0 0 zeroH 0 ⟨#[]⟩ none 0 0
                clear hQ hF5 hX5 hR5 hT5 hpg5 hlen5
                go_wp2_with (first | go_skip | ((with_reducible apply wpl_alloc); intro z wz _ _ _) | ((with_reducible apply (wpl_guard (op := .convert _ _ _))); (exact rfl)) | ((with_reducible apply wpl_loadrow); (exact rfl); infer_instance; infer_instance; (first | (with_reducible assumption) | (with_reducible exact H32.size _) | (with_reducible exact enc_sz _ rfl) | kernel_rfl)) | ((with_reducible apply wpl_loadcellN); (exact rfl); infer_instance; (exact rfl)) | ((with_reducible apply wpl_storerow); (exact rfl); (exact rfl); infer_instance; infer_instance; (first | (with_reducible assumption) | (with_reducible exact H32.size _) | (with_reducible exact enc_sz _ rfl) | kernel_rfl); (first | (with_reducible assumption) | (with_reducible exact H32.size _) | (with_reducible exact enc_sz _ rfl) | kernel_rfl); (first | (with_reducible exact u8s_one _) | (with_reducible assumption) | (with_reducible exact enc_one _) | kernel_rfl); intro ws _ _) | ((with_reducible apply wpl_storecell); (exact rfl); (exact rfl); infer_instance; (exact rfl); (first | (with_reducible assumption) | omega | (focus (simp; done)) | (focus (simp; omega; done)) | decide); intro ws _ _))
                refine (bkBoot_calls (FlashAt.nw HF5.out)).mono ?_
                rw [← HQ.out]
                unfold BootQ
                rintro e w6 ⟨M6, m6, d6, I6, n6, c6, rfl, hm6, hd6, hM6, _, hn6, hc6, hI6, _, _⟩
                have hm6 : D.mind.length = m6 := hm6
                have hn6 : im.length = n6 := hn6
                have hM6 : HR w6 M6 (bs D.mind) := hM6
                have hI6 : HR w6 I6 (bs im) := hI6
                have hq6 := bkL_len D.bank D.size D.sum D.cnt (strL D.name) M6 m6 d6
                have ho6 := bkL_one D.bank D.size D.sum D.cnt (strL D.name) M6 m6 d6
                go_wp2_with (first | go_skip | ((with_reducible apply wpl_storerow); (exact rfl); (exact rfl); infer_instance; infer_instance; (exact hq6); (exact hs0); (exact ho6); intro wq _ hba) | ((with_reducible apply (wpl_alloc (dst := some 9))); intro za wza _ _ _) | ((with_reducible apply wpl_alloc); intro z wz _ _ _) | ((with_reducible apply (wpl_guard (op := .convert _ _ _))); (exact rfl)) | ((with_reducible apply wpl_loadrow); (exact rfl); infer_instance; infer_instance; (first | (with_reducible assumption) | (with_reducible exact H32.size _) | (with_reducible exact enc_sz _ rfl) | kernel_rfl)) | ((with_reducible apply wpl_loadcellN); (exact rfl); infer_instance; (exact rfl)) | ((with_reducible apply wpl_storerow); (exact rfl); (exact rfl); infer_instance; infer_instance; (first | (with_reducible assumption) | (with_reducible exact H32.size _) | (with_reducible exact enc_sz _ rfl) | kernel_rfl); (first | (with_reducible assumption) | (with_reducible exact H32.size _) | (with_reducible exact enc_sz _ rfl) | kernel_rfl); (first | (with_reducible exact u8s_one _) | (with_reducible assumption) | (with_reducible exact enc_one _) | kernel_rfl); intro ws _ _) | ((with_reducible apply wpl_storecell); (exact rfl); (exact rfl); infer_instance; (exact rfl); (first | (with_reducible assumption) | omega | (focus (simp; done)) | (focus (simp; omega; done)) | decide); intro ws _ _))
                refine (rbBoot_calls (RF.nw HX5.out) HR5.out HOK5.out).mono ?_
                rw [← HQ.out]
                unfold BootQ
                rintro e w7 ⟨M7, m7, d7, I7, n7, c7, rfl, hm7, hd7, hM7, _, hn7, hc7, hI7, _, _⟩
                have hm7 : D.mind.length = m7 := hm7
                have hn7 : im.length = n7 := hn7
                have hM7 : HR w7 M7 (bs D.mind) := hM7
                have hI7 : HR w7 I7 (bs im) := hI7
                have hq7 := bkL_len D.bank D.size D.sum D.cnt (strL D.name) M7 m7 d7
                have ho7 := bkL_one D.bank D.size D.sum D.cnt (strL D.name) M7 m7 d7
                go_wp2_with (first | go_skip | ((with_reducible apply wpl_storerow); (exact rfl); (exact rfl); infer_instance; infer_instance; (exact hq7); (exact hs0); (exact ho7); intro wt _ hbb) | ((with_reducible apply wpl_loadrow); (exact rfl); (exact hba); infer_instance; (exact hq6)) | ((with_reducible apply wpl_loadrow); (exact rfl); (exact hbb); infer_instance; (exact hq7)) | ((with_reducible apply (wpl_alloc (dst := some 12))); intro zb wzb _ _ _) | ((with_reducible apply wpl_alloc); intro z wz _ _ _) | ((with_reducible apply (wpl_guard (op := .convert _ _ _))); (exact rfl)) | ((with_reducible apply wpl_loadrow); (exact rfl); infer_instance; infer_instance; (first | (with_reducible assumption) | (with_reducible exact H32.size _) | (with_reducible exact enc_sz _ rfl) | kernel_rfl)) | ((with_reducible apply wpl_loadcellN); (exact rfl); infer_instance; (exact rfl)) | ((with_reducible apply wpl_storerow); (exact rfl); (exact rfl); infer_instance; infer_instance; (first | (with_reducible assumption) | (with_reducible exact H32.size _) | (with_reducible exact enc_sz _ rfl) | kernel_rfl); (first | (with_reducible assumption) | (with_reducible exact H32.size _) | (with_reducible exact enc_sz _ rfl) | kernel_rfl); (first | (with_reducible exact u8s_one _) | (with_reducible assumption) | (with_reducible exact enc_one _) | kernel_rfl); intro ws _ _) | ((with_reducible apply wpl_storecell); (exact rfl); (exact rfl); infer_instance; (exact rfl); (first | (with_reducible assumption) | omega | (focus (simp; done)) | (focus (simp; omega; done)) | decide); intro ws _ _))
                refine (bkSame_calls D hm6 hm7).mono ?_
                rintro e w8 ⟨rfl, _⟩
                have hse := HSE.out
                have hna := HNA.out
                have hI68 : HR w8 I6 (bs im) := inferInstance
                have hI78 : HR w8 I7 (bs im) := inferInstance
                go_wp2_with (first | go_skip | ((with_reducible apply wpl_alloc); intro z wz _ _ _) | ((with_reducible apply (wpl_guard (op := .convert _ _ _))); (exact rfl)) | ((with_reducible apply wpl_loadrow); (exact rfl); infer_instance; infer_instance; (first | (with_reducible assumption) | (with_reducible exact H32.size _) | (with_reducible exact enc_sz _ rfl) | kernel_rfl)) | ((with_reducible apply wpl_loadcellN); (exact rfl); infer_instance; (exact rfl)) | ((with_reducible apply wpl_storerow); (exact rfl); (exact rfl); infer_instance; infer_instance; (first | (with_reducible assumption) | (with_reducible exact H32.size _) | (with_reducible exact enc_sz _ rfl) | kernel_rfl); (first | (with_reducible assumption) | (with_reducible exact H32.size _) | (with_reducible exact enc_sz _ rfl) | kernel_rfl); (first | (with_reducible exact u8s_one _) | (with_reducible assumption) | (with_reducible exact enc_one _) | kernel_rfl); intro ws _ _) | ((with_reducible apply wpl_storecell); (exact rfl); (exact rfl); infer_instance; (exact rfl); (first | (with_reducible assumption) | omega | (focus (simp; done)) | (focus (simp; omega; done)) | decide); intro ws _ _) | ((with_reducible apply wpl_indexH); (exact rfl); (exact rfl); infer_instance; infer_instance; (first | (with_reducible assumption) | omega); (first | (with_reducible assumption) | omega); (first | (with_reducible assumption) | omega)) | ((with_reducible apply wpl_indexH'); (exact rfl); (exact rfl); infer_instance; infer_instance; (first | (with_reducible assumption) | omega); (first | (with_reducible assumption) | omega); (first | (with_reducible assumption) | omega)) | ((with_reducible apply (wpl_loadhash (t := 52))); (exact rfl); infer_instance; infer_instance; (first | (with_reducible assumption) | omega)) | ((with_reducible apply (wpl_storehash (t := 52))); (exact rfl); (exact rfl); infer_instance; infer_instance; (first | (with_reducible assumption) | omega | (focus (simp; done)) | (focus (simp; omega; done)) | decide); intro ws _ _) | ((with_reducible apply (wpl_indexE (α := BAct) (t := 44))); (exact rfl); (exact rfl); infer_instance; infer_instance; (first | (with_reducible assumption) | omega | (focus (simp; done)) | (focus (simp; omega; done)) | decide); (exact rfl); (decide); (first | (with_reducible assumption) | omega | (focus (simp; done)) | (focus (simp; omega; done)) | decide)) | ((with_reducible apply (wpl_indexE0 (α := BAct) (t := 44))); (exact rfl); infer_instance; infer_instance; (first | (with_reducible assumption) | omega | (focus (simp; done)) | (focus (simp; omega; done)) | decide); (exact rfl); (decide); (first | (with_reducible assumption) | omega | (focus (simp; done)) | (focus (simp; omega; done)) | decide)) | ((with_reducible apply (wpl_loadE (α := BAct) (t := 48))); infer_instance; (exact rfl); infer_instance; (exact rfl); (decide); (first | (with_reducible assumption) | omega | (focus (simp; done)) | (focus (simp; omega; done)) | decide)) | ((with_reducible apply (wpl_fieldE (t := 48))); (exact Try.underlying48); (exact rfl); (kernel_rfl); (exact rfl); infer_instance; (exact cells_pos (by decide) (by omega))) | ((with_reducible apply (wpl_loadF (α := BAct))); infer_instance; (exact rfl); infer_instance; (exact rfl); (first | (with_reducible assumption) | omega | (focus (simp; done)) | (focus (simp; omega; done)) | decide); (exact rfl)) | ((with_reducible apply wpl_conv); (exact rfl); infer_instance; (first | (with_reducible assumption) | (focus (simp; done)) | omega); (exact Try.underlying22); (exact Try.underlying5); (exact Try.underlying9)) | ((with_reducible apply (wpl_loadint (t := 3))); (exact rfl); infer_instance; infer_instance; (first | (with_reducible assumption) | omega)) | ((with_reducible apply (wpl_loadbyte (t := 5))); (exact rfl); infer_instance; infer_instance; (first | (with_reducible assumption) | omega)) | ((with_reducible apply (wpl_storeint (t := 3))); (exact rfl); (exact rfl); infer_instance; (first | (with_reducible assumption) | omega); intro ws _ _) | ((with_reducible apply (wpl_storebyte (t := 5))); (exact rfl); (exact rfl); infer_instance; (first | (with_reducible assumption) | omega | (focus (simp; done)) | (focus (simp; omega; done)) | decide); (constructor <;> omega); intro ws _ _))
                have n8 : Nw wz w8 := inferInstance
                clear hse hna hbb hba
                go_loopw [15] (fun iv wy => ∃ j : Nat, j ≤ N ∧ iv = .int .i64 (j : Int) ∧ Step nowhere wz wy) (fun iv _ => N - (intOf iv).toNat)
                case atStart => exact ⟨0, Nat.zero_le _, rfl, stepN⟩
                case round =>
                  obtain ⟨j, hj, rfl, _⟩ := hrel
                  have ny : Nw wz wr := inferInstance
                  have hbx9 : HB wr x 63 #[.slice A5 N cA5, .int .i64 r5.left, .int .i64 (r5.tear : Int), .bool r5.off] := inferInstance
                  by_cases hjj : j < N
                  · have hjI : (j : Int) < (N : Int) := by omega
                    have hpos : 0 < (cellsOf rows5).length := by rw [HLEN5.out]; omega
                    obtain ⟨hvt, hlen, hrd⟩ := HPG5.out j hjj
                    go_wp2_with (first | go_skip | ((with_reducible apply wpl_alloc); intro z wz _ _ _) | ((with_reducible apply (wpl_guard (op := .convert _ _ _))); (exact rfl)) | ((with_reducible apply wpl_loadrow); (exact rfl); infer_instance; infer_instance; (first | (with_reducible assumption) | (with_reducible exact H32.size _) | (with_reducible exact enc_sz _ rfl) | kernel_rfl)) | ((with_reducible apply wpl_loadcellN); (exact rfl); infer_instance; (exact rfl)) | ((with_reducible apply wpl_storerow); (exact rfl); (exact rfl); infer_instance; infer_instance; (first | (with_reducible assumption) | (with_reducible exact H32.size _) | (with_reducible exact enc_sz _ rfl) | kernel_rfl); (first | (with_reducible assumption) | (with_reducible exact H32.size _) | (with_reducible exact enc_sz _ rfl) | kernel_rfl); (first | (with_reducible exact u8s_one _) | (with_reducible assumption) | (with_reducible exact enc_one _) | kernel_rfl); intro ws _ _) | ((with_reducible apply wpl_storecell); (exact rfl); (exact rfl); infer_instance; (exact rfl); (first | (with_reducible assumption) | omega | (focus (simp; done)) | (focus (simp; omega; done)) | decide); intro ws _ _))
                    refine (Read_at g p N s5 _ j _ (FlashAt.nw HF5.out) rfl hjj).mono ?_
                    obtain ⟨R, hR⟩ : ∃ R, R = (gt rows5 j).A := ⟨_, rfl⟩
                    obtain ⟨rc, hrc⟩ : ∃ R, R = (gt rows5 j).c := ⟨_, rfl⟩
                    obtain ⟨pg, hpgE⟩ : ∃ R, R = s5.page j := ⟨_, rfl⟩
                    rw [← hR, ← hrc] at hvt
                    rw [← hR, ← hpgE] at hrd
                    rw [← hpgE] at hlen ⊢
                    clear hR hrc hpgE HSE
                    rintro e w9 ⟨A9, c9, rfl, hA9, _, hn9⟩
                    have n9 : Nw wz w9 := inferInstance
                    have hpg : HR w9 R (bs pg) := ⟨hrd.later n9.out⟩
                    have HSE : Hid (((strL pg).toList == (strL pg).toList) = true) := Lib.hid (by simp)
                    clear hrd
                    go_wp2_with (first | go_skip | ((with_reducible apply wpl_alloc); intro z wz _ _ _) | ((with_reducible apply (wpl_guard (op := .convert _ _ _))); (exact rfl)) | ((with_reducible apply wpl_loadrow); (exact rfl); infer_instance; infer_instance; (first | (with_reducible assumption) | (with_reducible exact H32.size _) | (with_reducible exact enc_sz _ rfl) | kernel_rfl)) | ((with_reducible apply wpl_loadcellN); (exact rfl); infer_instance; (exact rfl)) | ((with_reducible apply wpl_storerow); (exact rfl); (exact rfl); infer_instance; infer_instance; (first | (with_reducible assumption) | (with_reducible exact H32.size _) | (with_reducible exact enc_sz _ rfl) | kernel_rfl); (first | (with_reducible assumption) | (with_reducible exact H32.size _) | (with_reducible exact enc_sz _ rfl) | kernel_rfl); (first | (with_reducible exact u8s_one _) | (with_reducible assumption) | (with_reducible exact enc_one _) | kernel_rfl); intro ws _ _) | ((with_reducible apply wpl_storecell); (exact rfl); (exact rfl); infer_instance; (exact rfl); (first | (with_reducible assumption) | omega | (focus (simp; done)) | (focus (simp; omega; done)) | decide); intro ws _ _))
                    refine wp_region_N (nowhere) (by kernel_rfl) (fun wd _ _ => ?_)
                    refine' takeH (i := 0) (v := _) rfl (by kernel_rfl) (by kernel_rfl) (by kernel_rfl) (fun _ _ _ h => h) (yields_of (by rfl) (fun w' _ => ?_)) inferInstance ?_
                    rotate_left
                    · (go_simp; try with_reducible rfl)
                    try simp only [Act.put, sA]; try simp only [sB, sC]
                    refine' takeH (i := 1) (v := _) rfl (by kernel_rfl) (by kernel_rfl) (by kernel_rfl) (fun _ _ _ h => h) (yields_of (by rfl) (fun w' _ => ?_)) inferInstance ?_
                    rotate_left
                    · (first | ((with_reducible apply ev_conv); (exact rfl); infer_instance; (first | (with_reducible assumption) | (focus (simp; done)) | omega); (exact Try.underlying22); (exact Try.underlying5); (exact Try.underlying9)) | (go_simp; try with_reducible rfl))
                    try simp only [Act.put, sA]; try simp only [sB, sC]
                    refine' takeH (i := 2) (v := _) rfl (by kernel_rfl) (by kernel_rfl) (by kernel_rfl) (fun _ _ _ h => h) (yields_of (by rfl) (fun w' _ => ?_)) inferInstance ?_
                    rotate_left
                    · (go_simp; try with_reducible rfl)
                    try simp only [Act.put, sA]; try simp only [sB, sC]
                    refine' takeH (i := 3) (v := _) rfl (by kernel_rfl) (by kernel_rfl) (by kernel_rfl) (fun _ _ _ h => h) (yields_of (by rfl) (fun w' _ => ?_)) inferInstance ?_
                    rotate_left
                    · (go_simp; try with_reducible rfl)
                    try simp only [Act.put, sA]; try simp only [sB, sC]
                    refine' takeH (i := 4) (v := _) rfl (by kernel_rfl) (by kernel_rfl) (by kernel_rfl) (fun _ _ _ h => h) (yields_of (by rfl) (fun w' _ => ?_)) inferInstance ?_
                    rotate_left
                    · (first | ((with_reducible apply (ev_fieldE (t := 48))); (exact Try.underlying48); (exact rfl); (kernel_rfl); (exact rfl); infer_instance; (exact cells_pos (by decide) (by omega))) | (go_simp; try with_reducible rfl))
                    try simp only [Act.put, sA]; try simp only [sB, sC]
                    refine' takeH (i := 5) (v := _) rfl (by kernel_rfl) (by kernel_rfl) (by kernel_rfl) (fun _ _ _ h => h) (yields_of (by rfl) (fun w' _ => ?_)) inferInstance ?_
                    rotate_left
                    · (first | ((with_reducible apply ev_loadcellN); (exact rfl); infer_instance; infer_instance; (exact rfl)))
                    try simp only [Act.put, sA]; try simp only [sB, sC]
                    refine' takeH (i := 6) (v := _) rfl (by kernel_rfl) (by kernel_rfl) (by kernel_rfl) (fun _ _ _ h => h) (yields_of (by rfl) (fun w' _ => ?_)) inferInstance ?_
                    rotate_left
                    · (go_simp; try with_reducible rfl)
                    try simp only [Act.put, sA]; try simp only [sB, sC]
                    refine' takeH (i := 7) (v := _) rfl (by kernel_rfl) (by kernel_rfl) (by kernel_rfl) (fun _ _ _ h => h) (yields_of (by rfl) (fun w' _ => ?_)) inferInstance ?_
                    rotate_left
                    · (first | ((with_reducible apply (ev_index1 (k := j))); (exact rfl); (exact rfl); infer_instance; infer_instance; (exact hpos); (exact hjj)))
                    try simp only [Act.put, sA]; try simp only [sB, sC]
                    refine' takeH (i := 8) (v := _) rfl (by kernel_rfl) (by kernel_rfl) (by kernel_rfl) (fun _ _ _ h => h) (yields_of (by rfl) (fun w' _ => ?_)) inferInstance ?_
                    rotate_left
                    · (first | ((with_reducible apply (ev_load1 (k := j))); (exact rfl); infer_instance; infer_instance; (exact hvt)))
                    try simp only [Act.put, sA]; try simp only [sB, sC]
                    refine' takeH (i := 9) (v := _) rfl (by kernel_rfl) (by kernel_rfl) (by kernel_rfl) (fun _ _ _ h => h) (yields_of (by rfl) (fun w' _ => ?_)) inferInstance ?_
                    rotate_left
                    · (first | ((with_reducible apply ev_conv); (exact rfl); infer_instance; (first | (with_reducible assumption) | (focus (simp; done)) | omega); (exact Try.underlying22); (exact Try.underlying5); (exact Try.underlying9)) | (go_simp; try with_reducible rfl))
                    try simp only [Act.put, sA]; try simp only [sB, sC]
                    refine' takeH (i := 10) (v := _) rfl (by kernel_rfl) (by kernel_rfl) (by kernel_rfl) (fun _ _ _ h => h) (yields_of (by rfl) (fun w' _ => ?_)) inferInstance ?_
                    rotate_left
                    · (go_simp; try with_reducible rfl)
                    try simp only [Act.put, sA]; try simp only [sB, sC]
                    try simp only [HSE.out]
                    try simp only [HNA.out]
                    try simp only [HNB.out]
                    try simp only [HNC.out]
                    refine wpAnyH_done (by kernel_rfl) ?_ _
                    go_wp2_with (first | go_skip | ((with_reducible apply wpl_alloc); intro z wz _ _ _) | ((with_reducible apply (wpl_guard (op := .convert _ _ _))); (exact rfl)) | ((with_reducible apply wpl_loadrow); (exact rfl); infer_instance; infer_instance; (first | (with_reducible assumption) | (with_reducible exact H32.size _) | (with_reducible exact enc_sz _ rfl) | kernel_rfl)) | ((with_reducible apply wpl_loadcellN); (exact rfl); infer_instance; (exact rfl)) | ((with_reducible apply wpl_storerow); (exact rfl); (exact rfl); infer_instance; infer_instance; (first | (with_reducible assumption) | (with_reducible exact H32.size _) | (with_reducible exact enc_sz _ rfl) | kernel_rfl); (first | (with_reducible assumption) | (with_reducible exact H32.size _) | (with_reducible exact enc_sz _ rfl) | kernel_rfl); (first | (with_reducible exact u8s_one _) | (with_reducible assumption) | (with_reducible exact enc_one _) | kernel_rfl); intro ws _ _) | ((with_reducible apply wpl_storecell); (exact rfl); (exact rfl); infer_instance; (exact rfl); (first | (with_reducible assumption) | omega | (focus (simp; done)) | (focus (simp; omega; done)) | decide); intro ws _ _))
                    exact ⟨⟨j + 1, by omega, by go_num, stepN⟩, by simp [intOf]; omega⟩
                  · have hjI : ¬ (j : Int) < (N : Int) := by omega
                    have nz9 : Nw w wr := inferInstance
                    go_wp2_with (first | go_skip | ((with_reducible apply wpl_alloc); intro z wz _ _ _) | ((with_reducible apply (wpl_guard (op := .convert _ _ _))); (exact rfl)) | ((with_reducible apply wpl_loadrow); (exact rfl); infer_instance; infer_instance; (first | (with_reducible assumption) | (with_reducible exact H32.size _) | (with_reducible exact enc_sz _ rfl) | kernel_rfl)) | ((with_reducible apply wpl_loadcellN); (exact rfl); infer_instance; (exact rfl)) | ((with_reducible apply wpl_storerow); (exact rfl); (exact rfl); infer_instance; infer_instance; (first | (with_reducible assumption) | (with_reducible exact H32.size _) | (with_reducible exact enc_sz _ rfl) | kernel_rfl); (first | (with_reducible assumption) | (with_reducible exact H32.size _) | (with_reducible exact enc_sz _ rfl) | kernel_rfl); (first | (with_reducible exact u8s_one _) | (with_reducible assumption) | (with_reducible exact enc_one _) | kernel_rfl); intro ws _ _) | ((with_reducible apply wpl_storecell); (exact rfl); (exact rfl); infer_instance; (exact rfl); (first | (with_reducible assumption) | omega | (focus (simp; done)) | (focus (simp; omega; done)) | decide); intro ws _ _))
                    exact ⟨⟨k + 1, by omega, by omega, by go_num, inferInstance, inferInstance, Lib.hid (BothS.nw HBz.out)⟩, by simp [intOf]; omega⟩
              · obtain ⟨⟨s, r, hF, hX, hR⟩, hTl⟩ := HBo.out
                have HF := Lib.hid hF
                have HX := Lib.hid hX
                have HTl := Lib.hid hTl
                have hok := Lib.hid hF.ok
                have HR0 := Lib.hid hR
                have HNC : Hid (True = True) := Lib.hid rfl
                clear hF hX hR hTl HBo
                have e3 : ((gt l k).kind == 3) = false := by simp [hk3]
                clear hk1 hk2 hk3
                go_wp2_with (first | go_skip | ((with_reducible apply wpl_alloc); intro z wz _ _ _) | ((with_reducible apply (wpl_guard (op := .convert _ _ _))); (exact rfl)) | ((with_reducible apply wpl_loadrow); (exact rfl); infer_instance; infer_instance; (first | (with_reducible assumption) | (with_reducible exact H32.size _) | (with_reducible exact enc_sz _ rfl) | kernel_rfl)) | ((with_reducible apply wpl_loadcellN); (exact rfl); infer_instance; (exact rfl)) | ((with_reducible apply wpl_storerow); (exact rfl); (exact rfl); infer_instance; infer_instance; (first | (with_reducible assumption) | (with_reducible exact H32.size _) | (with_reducible exact enc_sz _ rfl) | kernel_rfl); (first | (with_reducible assumption) | (with_reducible exact H32.size _) | (with_reducible exact enc_sz _ rfl) | kernel_rfl); (first | (with_reducible exact u8s_one _) | (with_reducible assumption) | (with_reducible exact enc_one _) | kernel_rfl); intro ws _ _) | ((with_reducible apply wpl_storecell); (exact rfl); (exact rfl); infer_instance; (exact rfl); (first | (with_reducible assumption) | omega | (focus (simp; done)) | (focus (simp; omega; done)) | decide); intro ws _ _) | ((with_reducible apply wpl_indexH); (exact rfl); (exact rfl); infer_instance; infer_instance; (first | (with_reducible assumption) | omega); (first | (with_reducible assumption) | omega); (first | (with_reducible assumption) | omega)) | ((with_reducible apply wpl_indexH'); (exact rfl); (exact rfl); infer_instance; infer_instance; (first | (with_reducible assumption) | omega); (first | (with_reducible assumption) | omega); (first | (with_reducible assumption) | omega)) | ((with_reducible apply (wpl_loadhash (t := 52))); (exact rfl); infer_instance; infer_instance; (first | (with_reducible assumption) | omega)) | ((with_reducible apply (wpl_storehash (t := 52))); (exact rfl); (exact rfl); infer_instance; infer_instance; (first | (with_reducible assumption) | omega | (focus (simp; done)) | (focus (simp; omega; done)) | decide); intro ws _ _) | ((with_reducible apply (wpl_indexE (α := BAct) (t := 44))); (exact rfl); (exact rfl); infer_instance; infer_instance; (first | (with_reducible assumption) | omega | (focus (simp; done)) | (focus (simp; omega; done)) | decide); (exact rfl); (decide); (first | (with_reducible assumption) | omega | (focus (simp; done)) | (focus (simp; omega; done)) | decide)) | ((with_reducible apply (wpl_indexE0 (α := BAct) (t := 44))); (exact rfl); infer_instance; infer_instance; (first | (with_reducible assumption) | omega | (focus (simp; done)) | (focus (simp; omega; done)) | decide); (exact rfl); (decide); (first | (with_reducible assumption) | omega | (focus (simp; done)) | (focus (simp; omega; done)) | decide)) | ((with_reducible apply (wpl_loadE (α := BAct) (t := 48))); infer_instance; (exact rfl); infer_instance; (exact rfl); (decide); (first | (with_reducible assumption) | omega | (focus (simp; done)) | (focus (simp; omega; done)) | decide)) | ((with_reducible apply (wpl_fieldE (t := 48))); (exact Try.underlying48); (exact rfl); (kernel_rfl); (exact rfl); infer_instance; (exact cells_pos (by decide) (by omega))) | ((with_reducible apply (wpl_loadF (α := BAct))); infer_instance; (exact rfl); infer_instance; (exact rfl); (first | (with_reducible assumption) | omega | (focus (simp; done)) | (focus (simp; omega; done)) | decide); (exact rfl)) | ((with_reducible apply wpl_conv); (exact rfl); infer_instance; (first | (with_reducible assumption) | (focus (simp; done)) | omega); (exact Try.underlying22); (exact Try.underlying5); (exact Try.underlying9)) | ((with_reducible apply (wpl_loadint (t := 3))); (exact rfl); infer_instance; infer_instance; (first | (with_reducible assumption) | omega)) | ((with_reducible apply (wpl_loadbyte (t := 5))); (exact rfl); infer_instance; infer_instance; (first | (with_reducible assumption) | omega)) | ((with_reducible apply (wpl_storeint (t := 3))); (exact rfl); (exact rfl); infer_instance; (first | (with_reducible assumption) | omega); intro ws _ _) | ((with_reducible apply (wpl_storebyte (t := 5))); (exact rfl); (exact rfl); infer_instance; (first | (with_reducible assumption) | omega | (focus (simp; done)) | (focus (simp; omega; done)) | decide); (constructor <;> omega); intro ws _ _))
                refine (Boot_calls g p N s _ (FlashAt.nw HF.out)).mono ?_
                rintro e w5 ⟨rfl, HF5, c5⟩
                have s5 : Step (Two g p) _ w5 := ⟨c5.out⟩
                have HX5 : Hid (RF w5 x T r) := Lib.hid (RF.ch (S := Two g p) HX.out HTG.out)
                have HT5 : Hid (∀ k, T k → k < w5.heap.size) := Lib.hid (fun k hk => Nat.lt_of_lt_of_le (HTl.out k hk) (inferInstance : SzLe wr w5).out)
                clear c5
                go_wp2_with (first | go_skip | ((with_reducible apply wpl_alloc); intro z wz _ _ _) | ((with_reducible apply (wpl_guard (op := .convert _ _ _))); (exact rfl)) | ((with_reducible apply wpl_loadrow); (exact rfl); infer_instance; infer_instance; (first | (with_reducible assumption) | (with_reducible exact H32.size _) | (with_reducible exact enc_sz _ rfl) | kernel_rfl)) | ((with_reducible apply wpl_loadcellN); (exact rfl); infer_instance; (exact rfl)) | ((with_reducible apply wpl_storerow); (exact rfl); (exact rfl); infer_instance; infer_instance; (first | (with_reducible assumption) | (with_reducible exact H32.size _) | (with_reducible exact enc_sz _ rfl) | kernel_rfl); (first | (with_reducible assumption) | (with_reducible exact H32.size _) | (with_reducible exact enc_sz _ rfl) | kernel_rfl); (first | (with_reducible exact u8s_one _) | (with_reducible assumption) | (with_reducible exact enc_one _) | kernel_rfl); intro ws _ _) | ((with_reducible apply wpl_storecell); (exact rfl); (exact rfl); infer_instance; (exact rfl); (first | (with_reducible assumption) | omega | (focus (simp; done)) | (focus (simp; omega; done)) | decide); intro ws _ _))
                refine (rfBoot_calls (RF.nw HX5.out)).mono ?_
                rintro e wz ⟨rfl, h6, c6⟩
                have s6 : Step T _ wz := ⟨c6⟩
                have HBz : Hid (BothS wz g p N x T) := Lib.hid ⟨⟨_, _, (FlashAt.nw HF5.out).chg c6 HTg.out HTp.out, h6, HR0.out.boot⟩, fun k hk => Nat.lt_of_lt_of_le (HT5.out k hk) (inferInstance : SzLe w5 wz).out⟩
                clear h6 c6 HF HX HTl hok HR0 HF5 HX5 HT5
                have HL5 : HR wz L (cellsOf l) := ⟨hL.out.chg (inferInstance : Nw w wz).out (fun _ _ _ h => h)⟩
                obtain ⟨⟨s5, r5, hF5, hX5, hR5⟩, hT5⟩ := HBz.out
                have HF5 := Lib.hid hF5
                have HX5 := Lib.hid hX5
                have HR5 := Lib.hid hR5
                have HOK5 := Lib.hid hF5.ok
                have hN256 := hF5.ok.most
                obtain ⟨A5, cA5, rows5, hbx5, hra5, hlen5, hpg5⟩ := rf_rows hX5 hR5
                have HPG5 := Lib.hid hpg5
                have HLEN5 := Lib.hid hlen5
                obtain ⟨⟨D, im, E⟩, hQ⟩ : ∃ Q, Q = bootS N s5 := ⟨_, rfl⟩
                have HQ := Lib.hid hQ
                have HSE : Hid (((strL im).toList == (strL im).toList) = true) := Lib.hid (by simp)
                have HNA : Hid (((E : Int) != (E : Int)) = false) := Lib.hid (by simp)
                have hs0 := bkL_len 0 0 zeroH 0 ⟨#[]⟩ none 0 0
                clear hQ hF5 hX5 hR5 hT5 hpg5 hlen5
                go_wp2_with (first | go_skip | ((with_reducible apply wpl_alloc); intro z wz _ _ _) | ((with_reducible apply (wpl_guard (op := .convert _ _ _))); (exact rfl)) | ((with_reducible apply wpl_loadrow); (exact rfl); infer_instance; infer_instance; (first | (with_reducible assumption) | (with_reducible exact H32.size _) | (with_reducible exact enc_sz _ rfl) | kernel_rfl)) | ((with_reducible apply wpl_loadcellN); (exact rfl); infer_instance; (exact rfl)) | ((with_reducible apply wpl_storerow); (exact rfl); (exact rfl); infer_instance; infer_instance; (first | (with_reducible assumption) | (with_reducible exact H32.size _) | (with_reducible exact enc_sz _ rfl) | kernel_rfl); (first | (with_reducible assumption) | (with_reducible exact H32.size _) | (with_reducible exact enc_sz _ rfl) | kernel_rfl); (first | (with_reducible exact u8s_one _) | (with_reducible assumption) | (with_reducible exact enc_one _) | kernel_rfl); intro ws _ _) | ((with_reducible apply wpl_storecell); (exact rfl); (exact rfl); infer_instance; (exact rfl); (first | (with_reducible assumption) | omega | (focus (simp; done)) | (focus (simp; omega; done)) | decide); intro ws _ _))
                refine (bkBoot_calls (FlashAt.nw HF5.out)).mono ?_
                rw [← HQ.out]
                unfold BootQ
                rintro e w6 ⟨M6, m6, d6, I6, n6, c6, rfl, hm6, hd6, hM6, _, hn6, hc6, hI6, _, _⟩
                have hm6 : D.mind.length = m6 := hm6
                have hn6 : im.length = n6 := hn6
                have hM6 : HR w6 M6 (bs D.mind) := hM6
                have hI6 : HR w6 I6 (bs im) := hI6
                have hq6 := bkL_len D.bank D.size D.sum D.cnt (strL D.name) M6 m6 d6
                have ho6 := bkL_one D.bank D.size D.sum D.cnt (strL D.name) M6 m6 d6
                go_wp2_with (first | go_skip | ((with_reducible apply wpl_storerow); (exact rfl); (exact rfl); infer_instance; infer_instance; (exact hq6); (exact hs0); (exact ho6); intro wq _ hba) | ((with_reducible apply (wpl_alloc (dst := some 9))); intro za wza _ _ _) | ((with_reducible apply wpl_alloc); intro z wz _ _ _) | ((with_reducible apply (wpl_guard (op := .convert _ _ _))); (exact rfl)) | ((with_reducible apply wpl_loadrow); (exact rfl); infer_instance; infer_instance; (first | (with_reducible assumption) | (with_reducible exact H32.size _) | (with_reducible exact enc_sz _ rfl) | kernel_rfl)) | ((with_reducible apply wpl_loadcellN); (exact rfl); infer_instance; (exact rfl)) | ((with_reducible apply wpl_storerow); (exact rfl); (exact rfl); infer_instance; infer_instance; (first | (with_reducible assumption) | (with_reducible exact H32.size _) | (with_reducible exact enc_sz _ rfl) | kernel_rfl); (first | (with_reducible assumption) | (with_reducible exact H32.size _) | (with_reducible exact enc_sz _ rfl) | kernel_rfl); (first | (with_reducible exact u8s_one _) | (with_reducible assumption) | (with_reducible exact enc_one _) | kernel_rfl); intro ws _ _) | ((with_reducible apply wpl_storecell); (exact rfl); (exact rfl); infer_instance; (exact rfl); (first | (with_reducible assumption) | omega | (focus (simp; done)) | (focus (simp; omega; done)) | decide); intro ws _ _))
                refine (rbBoot_calls (RF.nw HX5.out) HR5.out HOK5.out).mono ?_
                rw [← HQ.out]
                unfold BootQ
                rintro e w7 ⟨M7, m7, d7, I7, n7, c7, rfl, hm7, hd7, hM7, _, hn7, hc7, hI7, _, _⟩
                have hm7 : D.mind.length = m7 := hm7
                have hn7 : im.length = n7 := hn7
                have hM7 : HR w7 M7 (bs D.mind) := hM7
                have hI7 : HR w7 I7 (bs im) := hI7
                have hq7 := bkL_len D.bank D.size D.sum D.cnt (strL D.name) M7 m7 d7
                have ho7 := bkL_one D.bank D.size D.sum D.cnt (strL D.name) M7 m7 d7
                go_wp2_with (first | go_skip | ((with_reducible apply wpl_storerow); (exact rfl); (exact rfl); infer_instance; infer_instance; (exact hq7); (exact hs0); (exact ho7); intro wt _ hbb) | ((with_reducible apply wpl_loadrow); (exact rfl); (exact hba); infer_instance; (exact hq6)) | ((with_reducible apply wpl_loadrow); (exact rfl); (exact hbb); infer_instance; (exact hq7)) | ((with_reducible apply (wpl_alloc (dst := some 12))); intro zb wzb _ _ _) | ((with_reducible apply wpl_alloc); intro z wz _ _ _) | ((with_reducible apply (wpl_guard (op := .convert _ _ _))); (exact rfl)) | ((with_reducible apply wpl_loadrow); (exact rfl); infer_instance; infer_instance; (first | (with_reducible assumption) | (with_reducible exact H32.size _) | (with_reducible exact enc_sz _ rfl) | kernel_rfl)) | ((with_reducible apply wpl_loadcellN); (exact rfl); infer_instance; (exact rfl)) | ((with_reducible apply wpl_storerow); (exact rfl); (exact rfl); infer_instance; infer_instance; (first | (with_reducible assumption) | (with_reducible exact H32.size _) | (with_reducible exact enc_sz _ rfl) | kernel_rfl); (first | (with_reducible assumption) | (with_reducible exact H32.size _) | (with_reducible exact enc_sz _ rfl) | kernel_rfl); (first | (with_reducible exact u8s_one _) | (with_reducible assumption) | (with_reducible exact enc_one _) | kernel_rfl); intro ws _ _) | ((with_reducible apply wpl_storecell); (exact rfl); (exact rfl); infer_instance; (exact rfl); (first | (with_reducible assumption) | omega | (focus (simp; done)) | (focus (simp; omega; done)) | decide); intro ws _ _))
                refine (bkSame_calls D hm6 hm7).mono ?_
                rintro e w8 ⟨rfl, _⟩
                have hse := HSE.out
                have hna := HNA.out
                have hI68 : HR w8 I6 (bs im) := inferInstance
                have hI78 : HR w8 I7 (bs im) := inferInstance
                go_wp2_with (first | go_skip | ((with_reducible apply wpl_alloc); intro z wz _ _ _) | ((with_reducible apply (wpl_guard (op := .convert _ _ _))); (exact rfl)) | ((with_reducible apply wpl_loadrow); (exact rfl); infer_instance; infer_instance; (first | (with_reducible assumption) | (with_reducible exact H32.size _) | (with_reducible exact enc_sz _ rfl) | kernel_rfl)) | ((with_reducible apply wpl_loadcellN); (exact rfl); infer_instance; (exact rfl)) | ((with_reducible apply wpl_storerow); (exact rfl); (exact rfl); infer_instance; infer_instance; (first | (with_reducible assumption) | (with_reducible exact H32.size _) | (with_reducible exact enc_sz _ rfl) | kernel_rfl); (first | (with_reducible assumption) | (with_reducible exact H32.size _) | (with_reducible exact enc_sz _ rfl) | kernel_rfl); (first | (with_reducible exact u8s_one _) | (with_reducible assumption) | (with_reducible exact enc_one _) | kernel_rfl); intro ws _ _) | ((with_reducible apply wpl_storecell); (exact rfl); (exact rfl); infer_instance; (exact rfl); (first | (with_reducible assumption) | omega | (focus (simp; done)) | (focus (simp; omega; done)) | decide); intro ws _ _) | ((with_reducible apply wpl_indexH); (exact rfl); (exact rfl); infer_instance; infer_instance; (first | (with_reducible assumption) | omega); (first | (with_reducible assumption) | omega); (first | (with_reducible assumption) | omega)) | ((with_reducible apply wpl_indexH'); (exact rfl); (exact rfl); infer_instance; infer_instance; (first | (with_reducible assumption) | omega); (first | (with_reducible assumption) | omega); (first | (with_reducible assumption) | omega)) | ((with_reducible apply (wpl_loadhash (t := 52))); (exact rfl); infer_instance; infer_instance; (first | (with_reducible assumption) | omega)) | ((with_reducible apply (wpl_storehash (t := 52))); (exact rfl); (exact rfl); infer_instance; infer_instance; (first | (with_reducible assumption) | omega | (focus (simp; done)) | (focus (simp; omega; done)) | decide); intro ws _ _) | ((with_reducible apply (wpl_indexE (α := BAct) (t := 44))); (exact rfl); (exact rfl); infer_instance; infer_instance; (first | (with_reducible assumption) | omega | (focus (simp; done)) | (focus (simp; omega; done)) | decide); (exact rfl); (decide); (first | (with_reducible assumption) | omega | (focus (simp; done)) | (focus (simp; omega; done)) | decide)) | ((with_reducible apply (wpl_indexE0 (α := BAct) (t := 44))); (exact rfl); infer_instance; infer_instance; (first | (with_reducible assumption) | omega | (focus (simp; done)) | (focus (simp; omega; done)) | decide); (exact rfl); (decide); (first | (with_reducible assumption) | omega | (focus (simp; done)) | (focus (simp; omega; done)) | decide)) | ((with_reducible apply (wpl_loadE (α := BAct) (t := 48))); infer_instance; (exact rfl); infer_instance; (exact rfl); (decide); (first | (with_reducible assumption) | omega | (focus (simp; done)) | (focus (simp; omega; done)) | decide)) | ((with_reducible apply (wpl_fieldE (t := 48))); (exact Try.underlying48); (exact rfl); (kernel_rfl); (exact rfl); infer_instance; (exact cells_pos (by decide) (by omega))) | ((with_reducible apply (wpl_loadF (α := BAct))); infer_instance; (exact rfl); infer_instance; (exact rfl); (first | (with_reducible assumption) | omega | (focus (simp; done)) | (focus (simp; omega; done)) | decide); (exact rfl)) | ((with_reducible apply wpl_conv); (exact rfl); infer_instance; (first | (with_reducible assumption) | (focus (simp; done)) | omega); (exact Try.underlying22); (exact Try.underlying5); (exact Try.underlying9)) | ((with_reducible apply (wpl_loadint (t := 3))); (exact rfl); infer_instance; infer_instance; (first | (with_reducible assumption) | omega)) | ((with_reducible apply (wpl_loadbyte (t := 5))); (exact rfl); infer_instance; infer_instance; (first | (with_reducible assumption) | omega)) | ((with_reducible apply (wpl_storeint (t := 3))); (exact rfl); (exact rfl); infer_instance; (first | (with_reducible assumption) | omega); intro ws _ _) | ((with_reducible apply (wpl_storebyte (t := 5))); (exact rfl); (exact rfl); infer_instance; (first | (with_reducible assumption) | omega | (focus (simp; done)) | (focus (simp; omega; done)) | decide); (constructor <;> omega); intro ws _ _))
                have n8 : Nw wz w8 := inferInstance
                clear hse hna hbb hba
                go_loopw [15] (fun iv wy => ∃ j : Nat, j ≤ N ∧ iv = .int .i64 (j : Int) ∧ Step nowhere wz wy) (fun iv _ => N - (intOf iv).toNat)
                case atStart => exact ⟨0, Nat.zero_le _, rfl, stepN⟩
                case round =>
                  obtain ⟨j, hj, rfl, _⟩ := hrel
                  have ny : Nw wz wr := inferInstance
                  have hbx9 : HB wr x 63 #[.slice A5 N cA5, .int .i64 r5.left, .int .i64 (r5.tear : Int), .bool r5.off] := inferInstance
                  by_cases hjj : j < N
                  · have hjI : (j : Int) < (N : Int) := by omega
                    have hpos : 0 < (cellsOf rows5).length := by rw [HLEN5.out]; omega
                    obtain ⟨hvt, hlen, hrd⟩ := HPG5.out j hjj
                    go_wp2_with (first | go_skip | ((with_reducible apply wpl_alloc); intro z wz _ _ _) | ((with_reducible apply (wpl_guard (op := .convert _ _ _))); (exact rfl)) | ((with_reducible apply wpl_loadrow); (exact rfl); infer_instance; infer_instance; (first | (with_reducible assumption) | (with_reducible exact H32.size _) | (with_reducible exact enc_sz _ rfl) | kernel_rfl)) | ((with_reducible apply wpl_loadcellN); (exact rfl); infer_instance; (exact rfl)) | ((with_reducible apply wpl_storerow); (exact rfl); (exact rfl); infer_instance; infer_instance; (first | (with_reducible assumption) | (with_reducible exact H32.size _) | (with_reducible exact enc_sz _ rfl) | kernel_rfl); (first | (with_reducible assumption) | (with_reducible exact H32.size _) | (with_reducible exact enc_sz _ rfl) | kernel_rfl); (first | (with_reducible exact u8s_one _) | (with_reducible assumption) | (with_reducible exact enc_one _) | kernel_rfl); intro ws _ _) | ((with_reducible apply wpl_storecell); (exact rfl); (exact rfl); infer_instance; (exact rfl); (first | (with_reducible assumption) | omega | (focus (simp; done)) | (focus (simp; omega; done)) | decide); intro ws _ _))
                    refine (Read_at g p N s5 _ j _ (FlashAt.nw HF5.out) rfl hjj).mono ?_
                    obtain ⟨R, hR⟩ : ∃ R, R = (gt rows5 j).A := ⟨_, rfl⟩
                    obtain ⟨rc, hrc⟩ : ∃ R, R = (gt rows5 j).c := ⟨_, rfl⟩
                    obtain ⟨pg, hpgE⟩ : ∃ R, R = s5.page j := ⟨_, rfl⟩
                    rw [← hR, ← hrc] at hvt
                    rw [← hR, ← hpgE] at hrd
                    rw [← hpgE] at hlen ⊢
                    clear hR hrc hpgE HSE
                    rintro e w9 ⟨A9, c9, rfl, hA9, _, hn9⟩
                    have n9 : Nw wz w9 := inferInstance
                    have hpg : HR w9 R (bs pg) := ⟨hrd.later n9.out⟩
                    have HSE : Hid (((strL pg).toList == (strL pg).toList) = true) := Lib.hid (by simp)
                    clear hrd
                    go_wp2_with (first | go_skip | ((with_reducible apply wpl_alloc); intro z wz _ _ _) | ((with_reducible apply (wpl_guard (op := .convert _ _ _))); (exact rfl)) | ((with_reducible apply wpl_loadrow); (exact rfl); infer_instance; infer_instance; (first | (with_reducible assumption) | (with_reducible exact H32.size _) | (with_reducible exact enc_sz _ rfl) | kernel_rfl)) | ((with_reducible apply wpl_loadcellN); (exact rfl); infer_instance; (exact rfl)) | ((with_reducible apply wpl_storerow); (exact rfl); (exact rfl); infer_instance; infer_instance; (first | (with_reducible assumption) | (with_reducible exact H32.size _) | (with_reducible exact enc_sz _ rfl) | kernel_rfl); (first | (with_reducible assumption) | (with_reducible exact H32.size _) | (with_reducible exact enc_sz _ rfl) | kernel_rfl); (first | (with_reducible exact u8s_one _) | (with_reducible assumption) | (with_reducible exact enc_one _) | kernel_rfl); intro ws _ _) | ((with_reducible apply wpl_storecell); (exact rfl); (exact rfl); infer_instance; (exact rfl); (first | (with_reducible assumption) | omega | (focus (simp; done)) | (focus (simp; omega; done)) | decide); intro ws _ _))
                    refine wp_region_N (nowhere) (by kernel_rfl) (fun wd _ _ => ?_)
                    refine' takeH (i := 0) (v := _) rfl (by kernel_rfl) (by kernel_rfl) (by kernel_rfl) (fun _ _ _ h => h) (yields_of (by rfl) (fun w' _ => ?_)) inferInstance ?_
                    rotate_left
                    · (go_simp; try with_reducible rfl)
                    try simp only [Act.put, sA]; try simp only [sB, sC]
                    refine' takeH (i := 1) (v := _) rfl (by kernel_rfl) (by kernel_rfl) (by kernel_rfl) (fun _ _ _ h => h) (yields_of (by rfl) (fun w' _ => ?_)) inferInstance ?_
                    rotate_left
                    · (first | ((with_reducible apply ev_conv); (exact rfl); infer_instance; (first | (with_reducible assumption) | (focus (simp; done)) | omega); (exact Try.underlying22); (exact Try.underlying5); (exact Try.underlying9)) | (go_simp; try with_reducible rfl))
                    try simp only [Act.put, sA]; try simp only [sB, sC]
                    refine' takeH (i := 2) (v := _) rfl (by kernel_rfl) (by kernel_rfl) (by kernel_rfl) (fun _ _ _ h => h) (yields_of (by rfl) (fun w' _ => ?_)) inferInstance ?_
                    rotate_left
                    · (go_simp; try with_reducible rfl)
                    try simp only [Act.put, sA]; try simp only [sB, sC]
                    refine' takeH (i := 3) (v := _) rfl (by kernel_rfl) (by kernel_rfl) (by kernel_rfl) (fun _ _ _ h => h) (yields_of (by rfl) (fun w' _ => ?_)) inferInstance ?_
                    rotate_left
                    · (go_simp; try with_reducible rfl)
                    try simp only [Act.put, sA]; try simp only [sB, sC]
                    refine' takeH (i := 4) (v := _) rfl (by kernel_rfl) (by kernel_rfl) (by kernel_rfl) (fun _ _ _ h => h) (yields_of (by rfl) (fun w' _ => ?_)) inferInstance ?_
                    rotate_left
                    · (first | ((with_reducible apply (ev_fieldE (t := 48))); (exact Try.underlying48); (exact rfl); (kernel_rfl); (exact rfl); infer_instance; (exact cells_pos (by decide) (by omega))) | (go_simp; try with_reducible rfl))
                    try simp only [Act.put, sA]; try simp only [sB, sC]
                    refine' takeH (i := 5) (v := _) rfl (by kernel_rfl) (by kernel_rfl) (by kernel_rfl) (fun _ _ _ h => h) (yields_of (by rfl) (fun w' _ => ?_)) inferInstance ?_
                    rotate_left
                    · (first | ((with_reducible apply ev_loadcellN); (exact rfl); infer_instance; infer_instance; (exact rfl)))
                    try simp only [Act.put, sA]; try simp only [sB, sC]
                    refine' takeH (i := 6) (v := _) rfl (by kernel_rfl) (by kernel_rfl) (by kernel_rfl) (fun _ _ _ h => h) (yields_of (by rfl) (fun w' _ => ?_)) inferInstance ?_
                    rotate_left
                    · (go_simp; try with_reducible rfl)
                    try simp only [Act.put, sA]; try simp only [sB, sC]
                    refine' takeH (i := 7) (v := _) rfl (by kernel_rfl) (by kernel_rfl) (by kernel_rfl) (fun _ _ _ h => h) (yields_of (by rfl) (fun w' _ => ?_)) inferInstance ?_
                    rotate_left
                    · (first | ((with_reducible apply (ev_index1 (k := j))); (exact rfl); (exact rfl); infer_instance; infer_instance; (exact hpos); (exact hjj)))
                    try simp only [Act.put, sA]; try simp only [sB, sC]
                    refine' takeH (i := 8) (v := _) rfl (by kernel_rfl) (by kernel_rfl) (by kernel_rfl) (fun _ _ _ h => h) (yields_of (by rfl) (fun w' _ => ?_)) inferInstance ?_
                    rotate_left
                    · (first | ((with_reducible apply (ev_load1 (k := j))); (exact rfl); infer_instance; infer_instance; (exact hvt)))
                    try simp only [Act.put, sA]; try simp only [sB, sC]
                    refine' takeH (i := 9) (v := _) rfl (by kernel_rfl) (by kernel_rfl) (by kernel_rfl) (fun _ _ _ h => h) (yields_of (by rfl) (fun w' _ => ?_)) inferInstance ?_
                    rotate_left
                    · (first | ((with_reducible apply ev_conv); (exact rfl); infer_instance; (first | (with_reducible assumption) | (focus (simp; done)) | omega); (exact Try.underlying22); (exact Try.underlying5); (exact Try.underlying9)) | (go_simp; try with_reducible rfl))
                    try simp only [Act.put, sA]; try simp only [sB, sC]
                    refine' takeH (i := 10) (v := _) rfl (by kernel_rfl) (by kernel_rfl) (by kernel_rfl) (fun _ _ _ h => h) (yields_of (by rfl) (fun w' _ => ?_)) inferInstance ?_
                    rotate_left
                    · (go_simp; try with_reducible rfl)
                    try simp only [Act.put, sA]; try simp only [sB, sC]
                    try simp only [HSE.out]
                    try simp only [HNA.out]
                    try simp only [HNB.out]
                    try simp only [HNC.out]
                    refine wpAnyH_done (by kernel_rfl) ?_ _
                    go_wp2_with (first | go_skip | ((with_reducible apply wpl_alloc); intro z wz _ _ _) | ((with_reducible apply (wpl_guard (op := .convert _ _ _))); (exact rfl)) | ((with_reducible apply wpl_loadrow); (exact rfl); infer_instance; infer_instance; (first | (with_reducible assumption) | (with_reducible exact H32.size _) | (with_reducible exact enc_sz _ rfl) | kernel_rfl)) | ((with_reducible apply wpl_loadcellN); (exact rfl); infer_instance; (exact rfl)) | ((with_reducible apply wpl_storerow); (exact rfl); (exact rfl); infer_instance; infer_instance; (first | (with_reducible assumption) | (with_reducible exact H32.size _) | (with_reducible exact enc_sz _ rfl) | kernel_rfl); (first | (with_reducible assumption) | (with_reducible exact H32.size _) | (with_reducible exact enc_sz _ rfl) | kernel_rfl); (first | (with_reducible exact u8s_one _) | (with_reducible assumption) | (with_reducible exact enc_one _) | kernel_rfl); intro ws _ _) | ((with_reducible apply wpl_storecell); (exact rfl); (exact rfl); infer_instance; (exact rfl); (first | (with_reducible assumption) | omega | (focus (simp; done)) | (focus (simp; omega; done)) | decide); intro ws _ _))
                    exact ⟨⟨j + 1, by omega, by go_num, stepN⟩, by simp [intOf]; omega⟩
                  · have hjI : ¬ (j : Int) < (N : Int) := by omega
                    have nz9 : Nw w wr := inferInstance
                    go_wp2_with (first | go_skip | ((with_reducible apply wpl_alloc); intro z wz _ _ _) | ((with_reducible apply (wpl_guard (op := .convert _ _ _))); (exact rfl)) | ((with_reducible apply wpl_loadrow); (exact rfl); infer_instance; infer_instance; (first | (with_reducible assumption) | (with_reducible exact H32.size _) | (with_reducible exact enc_sz _ rfl) | kernel_rfl)) | ((with_reducible apply wpl_loadcellN); (exact rfl); infer_instance; (exact rfl)) | ((with_reducible apply wpl_storerow); (exact rfl); (exact rfl); infer_instance; infer_instance; (first | (with_reducible assumption) | (with_reducible exact H32.size _) | (with_reducible exact enc_sz _ rfl) | kernel_rfl); (first | (with_reducible assumption) | (with_reducible exact H32.size _) | (with_reducible exact enc_sz _ rfl) | kernel_rfl); (first | (with_reducible exact u8s_one _) | (with_reducible assumption) | (with_reducible exact enc_one _) | kernel_rfl); intro ws _ _) | ((with_reducible apply wpl_storecell); (exact rfl); (exact rfl); infer_instance; (exact rfl); (first | (with_reducible assumption) | omega | (focus (simp; done)) | (focus (simp; omega; done)) | decide); intro ws _ _))
                    exact ⟨⟨k + 1, by omega, by omega, by go_num, inferInstance, inferInstance, Lib.hid (BothS.nw HBz.out)⟩, by simp [intOf]; omega⟩
        · have hgo2 : (nl : Int) ≤ (k : Int) ∨ 16 ≤ (k : Int) := by omega
          have n1 : Nw w wr := inferInstance
          by_cases hkn : (k : Int) < (nl : Int)
          all_goals
            go_wp2_with (first | go_skip | ((with_reducible apply wpl_alloc); intro z wz _ _ _) | ((with_reducible apply (wpl_guard (op := .convert _ _ _))); (exact rfl)) | ((with_reducible apply wpl_loadrow); (exact rfl); infer_instance; infer_instance; (first | (with_reducible assumption) | (with_reducible exact H32.size _) | (with_reducible exact enc_sz _ rfl) | kernel_rfl)) | ((with_reducible apply wpl_loadcellN); (exact rfl); infer_instance; (exact rfl)) | ((with_reducible apply wpl_storerow); (exact rfl); (exact rfl); infer_instance; infer_instance; (first | (with_reducible assumption) | (with_reducible exact H32.size _) | (with_reducible exact enc_sz _ rfl) | kernel_rfl); (first | (with_reducible assumption) | (with_reducible exact H32.size _) | (with_reducible exact enc_sz _ rfl) | kernel_rfl); (first | (with_reducible exact u8s_one _) | (with_reducible assumption) | (with_reducible exact enc_one _) | kernel_rfl); intro ws _ _) | ((with_reducible apply wpl_storecell); (exact rfl); (exact rfl); infer_instance; (exact rfl); (first | (with_reducible assumption) | omega | (focus (simp; done)) | (focus (simp; omega; done)) | decide); intro ws _ _))
            refine (bkKnown_calls _).mono ?_
            rintro e w8 ⟨rfl, _⟩
            go_wp2_with (first | go_skip | ((with_reducible apply wpl_alloc); intro z wz _ _ _) | ((with_reducible apply (wpl_guard (op := .convert _ _ _))); (exact rfl)) | ((with_reducible apply wpl_loadrow); (exact rfl); infer_instance; infer_instance; (first | (with_reducible assumption) | (with_reducible exact H32.size _) | (with_reducible exact enc_sz _ rfl) | kernel_rfl)) | ((with_reducible apply wpl_loadcellN); (exact rfl); infer_instance; (exact rfl)) | ((with_reducible apply wpl_storerow); (exact rfl); (exact rfl); infer_instance; infer_instance; (first | (with_reducible assumption) | (with_reducible exact H32.size _) | (with_reducible exact enc_sz _ rfl) | kernel_rfl); (first | (with_reducible assumption) | (with_reducible exact H32.size _) | (with_reducible exact enc_sz _ rfl) | kernel_rfl); (first | (with_reducible exact u8s_one _) | (with_reducible assumption) | (with_reducible exact enc_one _) | kernel_rfl); intro ws _ _) | ((with_reducible apply wpl_storecell); (exact rfl); (exact rfl); infer_instance; (exact rfl); (first | (with_reducible assumption) | omega | (focus (simp; done)) | (focus (simp; omega; done)) | decide); intro ws _ _))
            go_ret
            exact ⟨rfl, (inferInstance : Nw w _).out⟩
  · go_wp2_with (first | go_skip | ((with_reducible apply wpl_alloc); intro z wz _ _ _) | ((with_reducible apply (wpl_guard (op := .convert _ _ _))); (exact rfl)) | ((with_reducible apply wpl_loadrow); (exact rfl); infer_instance; infer_instance; (first | (with_reducible assumption) | (with_reducible exact H32.size _) | (with_reducible exact enc_sz _ rfl) | kernel_rfl)) | ((with_reducible apply wpl_loadcellN); (exact rfl); infer_instance; (exact rfl)) | ((with_reducible apply wpl_storerow); (exact rfl); (exact rfl); infer_instance; infer_instance; (first | (with_reducible assumption) | (with_reducible exact H32.size _) | (with_reducible exact enc_sz _ rfl) | kernel_rfl); (first | (with_reducible assumption) | (with_reducible exact H32.size _) | (with_reducible exact enc_sz _ rfl) | kernel_rfl); (first | (with_reducible exact u8s_one _) | (with_reducible assumption) | (with_reducible exact enc_one _) | kernel_rfl); intro ws _ _) | ((with_reducible apply wpl_storecell); (exact rfl); (exact rfl); infer_instance; (exact rfl); (first | (with_reducible assumption) | omega | (focus (simp; done)) | (focus (simp; omega; done)) | decide); intro ws _ _))
    go_ret
    exact ⟨rfl, (stepN (w0 := w)).chg⟩
end Go.Proofs.Ytegdihpnefoolaa
