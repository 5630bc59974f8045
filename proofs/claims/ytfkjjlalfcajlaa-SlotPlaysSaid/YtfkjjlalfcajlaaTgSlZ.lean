/- SlY, SlZ -/
import Derived.Test.YtfkjjlalfcajlaaTgSlX
import Derived.Test.YtfkjjlalfcajlaaTgPlain
section
open Go Go.RowKit
namespace Go.Proofs.Ytfkjjlalfcajlaa
instance : ElemT Try.prog 22 30 4 48 (.agg #[.int .i64 0, .slice none 0 0, .int .i64 0, .int .i64 0]) := ⟨⟨Try.underlying22, by kernel_rfl, rfl, by decide⟩⟩
theorem slNewAny_calls (n : Int) (N : Nat) (hN : min (max n 1) 256 = (N : Int)) (hn : n ≤ 256) (w : World) :
    Calls Try.prog 10 #[.int .i64 n] w fun e w' => ∃ g p, e = .returned (.pointer (some ⟨g, 0, none⟩)) ∧ Hid (FlashAt w' g p N (FS.fresh N)) ∧ Hid (Chg nowhere w w') ∧ w.heap.size ≤ g ∧ w.heap.size ≤ p := by
  by_cases h : n < 1
  · obtain rfl : N = 1 := by omega
    exact NewLow_calls n h w
  · obtain rfl : n = (N : Int) := by omega
    exact New_calls N w (by omega) (by omega)
/-- an act of the script, as it stands in this world -/
def SActIn (w : World) (a : SAct) : Prop := Rd w a.A (bs a.b) ∧ a.b.length ≤ 9223372036854775807 ∧ a.n ≤ 9223372036854775807
/-- both flashes, one -/
def BothS (w : World) (g p N x : Nat) (T : Nat → Prop) : Prop := (∃ s r, FlashAt w g p N s ∧ RF w x T r ∧ Rel s r N) ∧ ∀ k, T k → k < w.heap.size
theorem BothS.nw {w0 w : World} [n : Nw w0 w] {g p N x : Nat} {T : Nat → Prop} (h : BothS w0 g p N x T) : BothS w g p N x T := by
  obtain ⟨⟨s, r, h1, h2, h3⟩, h4⟩ := h
  exact ⟨⟨s, r, FlashAt.nw h1, RF.nw h2, h3⟩, fun k hk => Nat.lt_of_lt_of_le (h4 k hk) n.out.size⟩
set_option maxRecDepth 100000 in
set_option maxHeartbeats 3200000 in
theorem slotPlays_calls (n : Int) {L : Option Addr} {nl cl : Nat} {l : List SAct} {w : World} [hL : HR w L (cellsOf l)] (hl : l.length = nl) (hmax : nl ≤ 9223372036854775807) (hA : ∀ a ∈ l, SActIn w a) :
    Calls Try.prog 3 #[.int .i64 n, .slice L nl cl] w fun e w' => e = .returned (.bool true) ∧ Chg nowhere w w' := by
  have HAI := Lib.hid hA
  have HL := Lib.hid hl
  clear hA hl
  go_enter Try.func3, Try.ntmps3
  go_wp2_with (first | go_skip | ((with_reducible apply wpl_loadrow); (exact rfl); infer_instance; infer_instance; (first | (with_reducible assumption) | (with_reducible exact H32.size _) | (with_reducible exact enc_sz _ rfl) | kernel_rfl)) | ((with_reducible apply wpl_loadcellN); (exact rfl); infer_instance; (exact rfl)))
  refine (slLong L nl cl l _ (inferInstance : HR _ L (cellsOf l)).out HL.out).mono ?_
  rintro e w1 ⟨he, hw1⟩
  obtain rfl := hw1.symm
  rcases he with rfl | rfl
  · by_cases hn : 90 < n
    · go_wp2_with (first | go_skip | ((with_reducible apply wpl_loadrow); (exact rfl); infer_instance; infer_instance; (first | (with_reducible assumption) | (with_reducible exact H32.size _) | (with_reducible exact enc_sz _ rfl) | kernel_rfl)) | ((with_reducible apply wpl_loadcellN); (exact rfl); infer_instance; (exact rfl)))
      go_ret
      exact ⟨rfl, (stepN (w0 := w)).chg⟩
    · have hn90 : n ≤ 90 := by omega
      obtain ⟨N, hN⟩ : ∃ N : Nat, min (max n 1) 256 = (N : Int) := Int.eq_ofNat_of_zero_le (by omega)
      go_wp2_with (first | go_skip | ((with_reducible apply wpl_loadrow); (exact rfl); infer_instance; infer_instance; (first | (with_reducible assumption) | (with_reducible exact H32.size _) | (with_reducible exact enc_sz _ rfl) | kernel_rfl)) | ((with_reducible apply wpl_loadcellN); (exact rfl); infer_instance; (exact rfl)))
      refine (slNewAny_calls n N hN (by omega) _).mono ?_
      rintro e w2 ⟨g, p, rfl, hF, hc2, hg, hp⟩
      have s2 : Step nowhere _ w2 := ⟨hc2.out⟩
      have HF2 := hF
      clear hF hc2
      go_wp2_with (first | go_skip | ((with_reducible apply wpl_loadrow); (exact rfl); infer_instance; infer_instance; (first | (with_reducible assumption) | (with_reducible exact H32.size _) | (with_reducible exact enc_sz _ rfl) | kernel_rfl)) | ((with_reducible apply wpl_loadcellN); (exact rfl); infer_instance; (exact rfl)))
      refine (rfNew_calls n N hN _).mono ?_
      rintro e w3 ⟨x, T, rfl, hX, _, hT⟩
      have hg' : w.heap.size ≤ g := Nat.le_trans (inferInstance : SzLe w _).out hg
      have hp' : w.heap.size ≤ p := Nat.le_trans (inferInstance : SzLe w _).out hp
      obtain ⟨hgl, hpl⟩ := HF2.out.lts
      have HTG : Hid (∀ k, T k → ¬ Two g p k) := Lib.hid (fun k hk h => by
        have h1 := (hT k hk).1
        rcases h with h | h
        · rw [h] at h1; exact absurd hgl (Nat.not_lt.2 h1)
        · rw [h] at h1; exact absurd hpl (Nat.not_lt.2 h1))
      have HTW : Hid (∀ k, T k → w.heap.size ≤ k) := Lib.hid (fun k hk => Nat.le_trans (inferInstance : SzLe w w2).out (hT k hk).1)
      have HB3 : Hid (BothS w3 g p N x T) := Lib.hid ⟨⟨_, _, FlashAt.nw HF2.out, hX, Rel.fresh N⟩, fun k hk => (hT k hk).2⟩
      have abP : Above w (PT g p T) := ⟨fun k h => by
        rcases h with (h | h) | h
        · rw [h]; exact hg'
        · rw [h]; exact hp'
        · exact HTW.out k h⟩
      have abT : Above w T := ⟨fun k h => abP.out k (.inr h)⟩
      have ab2 : Above w (Two g p) := ⟨fun k h => abP.out k (.inl h)⟩
      have HTg : Hid (¬ T g) := Lib.hid (fun h => HTG.out g h (.inl rfl))
      have HTp : Hid (¬ T p) := Lib.hid (fun h => HTG.out p h (.inr rfl))
      have HOL : Hid (∀ (A : Option Addr) (vs : List Value), Rd w A vs → OffR (PT g p T) A vs) := Lib.hid (fun A vs h => ⟨fun hne ad e hk => by
        have h1 := rd_lt h hne e
        have h2 := abP.out _ hk
        omega⟩)
      have oL : OffR (PT g p T) L (cellsOf l) := HOL.out _ _ hL.out
      clear HF2 hX hT hg hp hgl hpl hN
      go_wp2_with (first | go_skip | ((with_reducible apply wpl_loadrow); (exact rfl); infer_instance; infer_instance; (first | (with_reducible assumption) | (with_reducible exact H32.size _) | (with_reducible exact enc_sz _ rfl) | kernel_rfl)) | ((with_reducible apply wpl_loadcellN); (exact rfl); infer_instance; (exact rfl)))
      go_loopw [7] (fun kv wr => ∃ k : Nat, k ≤ nl ∧ k ≤ 20 ∧ kv = .int .i64 (k : Int) ∧ Nw w wr ∧ HR wr L (cellsOf l) ∧ Hid (BothS wr g p N x T)) (fun kv _ => 20 - (intOf kv).toNat)
      case atStart => exact ⟨0, Nat.zero_le _, Nat.zero_le _, rfl, inferInstance, inferInstance, HB3⟩
      case round =>
        obtain ⟨k, hk, hk20, rfl, _, _, HBo⟩ := hrel
        clear HB3
        by_cases hgo : k < nl ∧ k < 20
        · obtain ⟨hkn, hk8⟩ := hgo
          have hknI : (k : Int) < (nl : Int) := by omega
          have hk8I : (k : Int) < 20 := by omega
          have hkl : k < l.length := by rw [HL.out]; exact hkn
          have hll : l.length = nl := HL.out
          obtain ⟨a, hae⟩ : ∃ a, a = gt l k := ⟨_, rfl⟩
          have ha := HAI.out (gt l k) (gt_mem l k hkl)
          have HA1 := Lib.hid ha
          have n1 : Nw w wr := inferInstance
          have hra : HR wr (gt l k).A (bs (gt l k).b) := ⟨HA1.out.1.chg (inferInstance : Nw w wr).out (fun _ _ _ h => h)⟩
          have oB : OffR (PT g p T) (gt l k).A (bs (gt l k).b) := HOL.out _ _ HA1.out.1
          clear ha hae
          by_cases hk1 : (gt l k).kind = 1
          · obtain ⟨⟨s, r, hF, hX, hR⟩, hTl⟩ := HBo.out
            have HF := Lib.hid hF
            have HX := Lib.hid hX
            have HTl := Lib.hid hTl
            have hok := Lib.hid hF.ok
            have HR0 := Lib.hid hR
            obtain ⟨q, hq⟩ : ∃ q, q = saveN N s (gt l k).b := ⟨_, rfl⟩
            have HQ0 := Lib.hid hq
            have HNC : Hid (((q.1 : Int) != (q.1 : Int)) = false) := Lib.hid (by simp)
            have e1 : ((gt l k).kind == 1) = true := by simp [hk1]
            clear hF hX hR hTl hq hk1 HBo
            go_wp2_with (first | go_skip | ((with_reducible apply wpl_loadrow); (exact rfl); infer_instance; infer_instance; (first | (with_reducible assumption) | (with_reducible exact H32.size _) | (with_reducible exact enc_sz _ rfl) | kernel_rfl)) | ((with_reducible apply wpl_loadcellN); (exact rfl); infer_instance; (exact rfl)) | ((with_reducible apply wpl_indexH); (exact rfl); (exact rfl); infer_instance; infer_instance; (first | (with_reducible assumption) | omega); (first | (with_reducible assumption) | omega); (first | (with_reducible assumption) | omega)) | ((with_reducible apply wpl_indexH'); (exact rfl); (exact rfl); infer_instance; infer_instance; (first | (with_reducible assumption) | omega); (first | (with_reducible assumption) | omega); (first | (with_reducible assumption) | omega)) | ((with_reducible apply (wpl_loadhash (t := 75))); (exact rfl); infer_instance; infer_instance; (first | (with_reducible assumption) | omega)) | ((with_reducible apply (wpl_indexE (α := SAct) (t := 22))); (exact rfl); (exact rfl); infer_instance; infer_instance; (first | (with_reducible assumption) | omega | (focus (simp; done)) | (focus (simp; omega; done)) | decide); (exact rfl); (decide); (first | (with_reducible assumption) | omega | (focus (simp; done)) | (focus (simp; omega; done)) | decide)) | ((with_reducible apply (wpl_indexE0 (α := SAct) (t := 22))); (exact rfl); infer_instance; infer_instance; (first | (with_reducible assumption) | omega | (focus (simp; done)) | (focus (simp; omega; done)) | decide); (exact rfl); (decide); (first | (with_reducible assumption) | omega | (focus (simp; done)) | (focus (simp; omega; done)) | decide)) | ((with_reducible apply (wpl_loadE (α := SAct) (t := 30))); infer_instance; (exact rfl); infer_instance; (exact rfl); (decide); (first | (with_reducible assumption) | omega | (focus (simp; done)) | (focus (simp; omega; done)) | decide)) | ((with_reducible apply (wpl_fieldE (t := 30))); (exact Try.underlying30); (exact rfl); (kernel_rfl); (exact rfl); infer_instance; (exact cells_pos (by decide) (by omega))) | ((with_reducible apply (wpl_loadF (α := SAct))); infer_instance; (exact rfl); infer_instance; (exact rfl); (first | (with_reducible assumption) | omega | (focus (simp; done)) | (focus (simp; omega; done)) | decide); (exact rfl)) | ((with_reducible apply wpl_conv); (exact rfl); infer_instance; (first | (with_reducible assumption) | (focus (simp; done)) | omega); (exact Try.underlying28); (exact Try.underlying5); (exact Try.underlying9)) | ((with_reducible apply (wpl_loadint (t := 3))); (exact rfl); infer_instance; infer_instance; (first | (with_reducible assumption) | omega)) | ((with_reducible apply (wpl_loadbyte (t := 5))); (exact rfl); infer_instance; infer_instance; (first | (with_reducible assumption) | omega)))
            refine wp_region_N ((PT g p T)) (by kernel_rfl) (fun wd _ _ => ?_)
            refine' takeH (i := 0) (v := _) rfl (by kernel_rfl) (by kernel_rfl) (by kernel_rfl) (fun _ _ _ h => h) (yields_of (by rfl) (fun w' _ => ?_)) inferInstance ?_
            rotate_left
            · (go_simp; try with_reducible rfl)
            try simp only [Act.put, sA]; try simp only [sB, sC]
            refine' takeH (i := 1) (v := _) rfl (by kernel_rfl) (by kernel_rfl) (by kernel_rfl) (fun _ _ _ h => h) (yields_of (by rfl) (fun w' _ => ?_)) inferInstance ?_
            rotate_left
            · (go_simp; try with_reducible rfl)
            try simp only [Act.put, sA]; try simp only [sB, sC]
            refine' takeH (i := 2) (v := _) rfl (by kernel_rfl) (by kernel_rfl) (by kernel_rfl) (fun _ _ _ h => h) (yields_of (by rfl) (fun w' _ => ?_)) inferInstance ?_
            rotate_left
            · (go_simp; try with_reducible rfl)
            try simp only [Act.put, sA]; try simp only [sB, sC]
            refine' takeH (i := 3) (v := _) rfl (by kernel_rfl) (by kernel_rfl) (by kernel_rfl) (fun _ _ _ h => h) (yields_of (by rfl) (fun w' _ => ?_)) inferInstance ?_
            rotate_left
            · (first | ((with_reducible apply ev_indexH'); (exact rfl); (exact rfl); infer_instance; infer_instance; (first | (with_reducible assumption) | omega); (first | (with_reducible assumption) | omega); (first | (with_reducible assumption) | omega)) | ((with_reducible apply ev_indexH); (exact rfl); (exact rfl); infer_instance; infer_instance; (first | (with_reducible assumption) | omega); (first | (with_reducible assumption) | omega)) | ((with_reducible apply (ev_indexE (α := SAct) (t := 22))); (exact rfl); (exact rfl); infer_instance; infer_instance; (first | (with_reducible assumption) | omega | (focus (simp; done)) | (focus (simp; omega; done)) | decide); (exact rfl); (decide); (first | (with_reducible assumption) | omega | (focus (simp; done)) | (focus (simp; omega; done)) | decide)) | ((with_reducible apply (ev_indexE0 (α := SAct) (t := 22))); (exact rfl); infer_instance; infer_instance; (first | (with_reducible assumption) | omega | (focus (simp; done)) | (focus (simp; omega; done)) | decide); (exact rfl); (decide); (first | (with_reducible assumption) | omega | (focus (simp; done)) | (focus (simp; omega; done)) | decide)) | (go_simp; try with_reducible rfl))
            try simp only [Act.put, sA]; try simp only [sB, sC]
            refine' takeH (i := 4) (v := _) rfl (by kernel_rfl) (by kernel_rfl) (by kernel_rfl) (fun _ _ _ h => h) (yields_of (by rfl) (fun w' _ => ?_)) inferInstance ?_
            rotate_left
            · (first | ((with_reducible apply (ev_fieldE (t := 30))); (exact Try.underlying30); (exact rfl); (kernel_rfl); (exact rfl); infer_instance; (exact cells_pos (by decide) (by omega))) | (go_simp; try with_reducible rfl))
            try simp only [Act.put, sA]; try simp only [sB, sC]
            refine' takeH (i := 5) (v := _) rfl (by kernel_rfl) (by kernel_rfl) (by kernel_rfl) (fun _ _ _ h => h) (yields_of (by rfl) (fun w' _ => ?_)) inferInstance ?_
            rotate_left
            · (first | ((with_reducible apply ev_loadrow); (exact rfl); infer_instance; infer_instance; (first | (with_reducible assumption) | (with_reducible exact H32.size _) | (with_reducible exact enc_sz _ rfl) | kernel_rfl)) | ((with_reducible apply (ev_loadhash (t := 75))); (exact rfl); infer_instance; infer_instance; (first | (with_reducible assumption) | omega)) | ((with_reducible apply ev_loadcellN); (exact rfl); infer_instance; infer_instance; (exact rfl)) | ((with_reducible apply (ev_loadE (α := SAct) (t := 30))); infer_instance; (exact rfl); infer_instance; (exact rfl); (decide); (first | (with_reducible assumption) | omega | (focus (simp; done)) | (focus (simp; omega; done)) | decide)) | ((with_reducible apply (ev_loadF (α := SAct))); infer_instance; (exact rfl); infer_instance; (exact rfl); (first | (with_reducible assumption) | omega | (focus (simp; done)) | (focus (simp; omega; done)) | decide); (exact rfl)) | ((with_reducible apply (ev_loadint (t := 3))); (exact rfl); infer_instance; infer_instance; (first | (with_reducible assumption) | omega)) | ((with_reducible apply (ev_loadbyte (t := 5))); (exact rfl); infer_instance; infer_instance; (first | (with_reducible assumption) | omega)) | (go_simp; try with_reducible rfl))
            try simp only [Act.put, sA]; try simp only [sB, sC]
            refine' takeH (i := 7) (v := _) rfl (by kernel_rfl) (by kernel_rfl) (by kernel_rfl) (fun _ _ _ h => h) (yields_of (by rfl) (fun w' _ => ?_)) inferInstance ?_
            rotate_left
            · (go_simp; try with_reducible rfl)
            try simp only [Act.put, sA]; try simp only [sB, sC]
            refine' takeH (i := 8) (v := _) rfl (by kernel_rfl) (by kernel_rfl) (by kernel_rfl) (fun _ _ _ h => h) (yields_of (by rfl) (fun w' _ => ?_)) inferInstance ?_
            rotate_left
            · (go_simp; try with_reducible rfl)
            try simp only [Act.put, sA]; try simp only [sB, sC]
            refine' takeH (i := 9) (v := _) rfl (by kernel_rfl) (by kernel_rfl) (by kernel_rfl) (fun _ _ _ h => h) (yields_of (by rfl) (fun w' _ => ?_)) inferInstance ?_
            rotate_left
            · (go_simp; try with_reducible rfl)
            try simp only [Act.put, sA]; try simp only [sB, sC]
            refine' takeH (i := 10) (v := _) rfl (by kernel_rfl) (by kernel_rfl) (by kernel_rfl) (fun _ _ _ h => h) (yields_of (by rfl) (fun w' _ => ?_)) inferInstance ?_
            rotate_left
            · (first | ((with_reducible apply ev_indexH'); (exact rfl); (exact rfl); infer_instance; infer_instance; (first | (with_reducible assumption) | omega); (first | (with_reducible assumption) | omega); (first | (with_reducible assumption) | omega)) | ((with_reducible apply ev_indexH); (exact rfl); (exact rfl); infer_instance; infer_instance; (first | (with_reducible assumption) | omega); (first | (with_reducible assumption) | omega)) | ((with_reducible apply (ev_indexE (α := SAct) (t := 22))); (exact rfl); (exact rfl); infer_instance; infer_instance; (first | (with_reducible assumption) | omega | (focus (simp; done)) | (focus (simp; omega; done)) | decide); (exact rfl); (decide); (first | (with_reducible assumption) | omega | (focus (simp; done)) | (focus (simp; omega; done)) | decide)) | ((with_reducible apply (ev_indexE0 (α := SAct) (t := 22))); (exact rfl); infer_instance; infer_instance; (first | (with_reducible assumption) | omega | (focus (simp; done)) | (focus (simp; omega; done)) | decide); (exact rfl); (decide); (first | (with_reducible assumption) | omega | (focus (simp; done)) | (focus (simp; omega; done)) | decide)) | (go_simp; try with_reducible rfl))
            try simp only [Act.put, sA]; try simp only [sB, sC]
            refine' takeH (i := 11) (v := _) rfl (by kernel_rfl) (by kernel_rfl) (by kernel_rfl) (fun _ _ _ h => h) (yields_of (by rfl) (fun w' _ => ?_)) inferInstance ?_
            rotate_left
            · (first | ((with_reducible apply (ev_fieldE (t := 30))); (exact Try.underlying30); (exact rfl); (kernel_rfl); (exact rfl); infer_instance; (exact cells_pos (by decide) (by omega))) | (go_simp; try with_reducible rfl))
            try simp only [Act.put, sA]; try simp only [sB, sC]
            refine' takeH (i := 12) (v := _) rfl (by kernel_rfl) (by kernel_rfl) (by kernel_rfl) (fun _ _ _ h => h) (yields_of (by rfl) (fun w' _ => ?_)) inferInstance ?_
            rotate_left
            · (first | ((with_reducible apply ev_loadrow); (exact rfl); infer_instance; infer_instance; (first | (with_reducible assumption) | (with_reducible exact H32.size _) | (with_reducible exact enc_sz _ rfl) | kernel_rfl)) | ((with_reducible apply (ev_loadhash (t := 75))); (exact rfl); infer_instance; infer_instance; (first | (with_reducible assumption) | omega)) | ((with_reducible apply ev_loadcellN); (exact rfl); infer_instance; infer_instance; (exact rfl)) | ((with_reducible apply (ev_loadE (α := SAct) (t := 30))); infer_instance; (exact rfl); infer_instance; (exact rfl); (decide); (first | (with_reducible assumption) | omega | (focus (simp; done)) | (focus (simp; omega; done)) | decide)) | ((with_reducible apply (ev_loadF (α := SAct))); infer_instance; (exact rfl); infer_instance; (exact rfl); (first | (with_reducible assumption) | omega | (focus (simp; done)) | (focus (simp; omega; done)) | decide); (exact rfl)) | ((with_reducible apply (ev_loadint (t := 3))); (exact rfl); infer_instance; infer_instance; (first | (with_reducible assumption) | omega)) | ((with_reducible apply (ev_loadbyte (t := 5))); (exact rfl); infer_instance; infer_instance; (first | (with_reducible assumption) | omega)) | (go_simp; try with_reducible rfl))
            try simp only [Act.put, sA]; try simp only [sB, sC]
            refine goH (i := 6) (by kernel_rfl) rfl (fun K_ hK_ => ?_)
            go_simp
            refine (pSave_calls (b := (gt l k).b) (FlashAt.nw HF.out) rfl HA1.out.2.1).mono ?_
            rw [← HQ0.out]
            rintro e w5 ⟨rfl, HF5, s5⟩
            have HX5 : Hid (RF w5 x T r) := Lib.hid (RF.ch (S := Two g p) HX.out HTG.out)
            have HT5 : Hid (∀ k, T k → k < w5.heap.size) := Lib.hid (fun k hk => Nat.lt_of_lt_of_le (HTl.out k hk) (inferInstance : SzLe wr w5).out)
            refine hK_.out _ _ inferInstance (fun _ => ?_)
            clear hK_ K_
            try simp only [Act.put, sA]; try simp only [sB, sC]
            refine goH (i := 13) (by kernel_rfl) rfl (fun K_ hK_ => ?_)
            go_simp
            refine (rSave_calls (b := (gt l k).b) (RF.nw HX5.out) HR0.out hok.out HT5.out rfl HA1.out.2.1).mono ?_
            rw [← HQ0.out]
            rintro e wz ⟨rfl, H6, s6⟩
            have HBz : Hid (BothS wz g p N x T) := Lib.hid (by
              obtain ⟨r', h1, h2⟩ := H6.out
              exact ⟨⟨_, r', HF5.out.chg s6.chg HTg.out HTp.out, h1, h2⟩, fun k hk => Nat.lt_of_lt_of_le (HT5.out k hk) s6.chg.size⟩)
            refine hK_.out _ _ inferInstance (fun _ => ?_)
            clear hK_ K_
            try simp only [Act.put, sA]; try simp only [sB, sC]
            refine' takeH (i := 14) (v := _) rfl (by kernel_rfl) (by kernel_rfl) (by kernel_rfl) (fun _ _ _ h => h) (yields_of (by rfl) (fun w' _ => ?_)) inferInstance ?_
            rotate_left
            · (go_simp; try with_reducible rfl)
            try simp only [Act.put, sA]; try simp only [sB, sC]
            try simp only [HSE.out]
            try simp only [HNA.out]
            try simp only [HNB.out]
            try simp only [HNC.out]
            refine wpAnyH_done (by kernel_rfl) ?_ _
            have HL5 : HR wz L (cellsOf l) := ⟨hL.out.chg (inferInstance : Nw w wz).out (fun _ _ _ h => h)⟩
            obtain ⟨⟨s5, r5, hF5, hX5, hR5⟩, hT5⟩ := HBz.out
            obtain ⟨Q, hQ⟩ : ∃ Q, Q = loadN N s5 := ⟨_, rfl⟩
            have HQ := Lib.hid hQ
            have HSE : Hid (((strL Q.1).toList == (strL Q.1).toList) = true) := Lib.hid (by simp)
            have HNA : Hid (((Q.2.1 : Int) != (Q.2.1 : Int)) = false) := Lib.hid (by simp)
            have HNB : Hid (((Q.2.2 : Int) != (Q.2.2 : Int)) = false) := Lib.hid (by simp)
            clear hQ
            go_wp2_with (first | go_skip | ((with_reducible apply wpl_loadrow); (exact rfl); infer_instance; infer_instance; (first | (with_reducible assumption) | (with_reducible exact H32.size _) | (with_reducible exact enc_sz _ rfl) | kernel_rfl)) | ((with_reducible apply wpl_loadcellN); (exact rfl); infer_instance; (exact rfl)))
            refine (pLoad_calls (FlashAt.nw hF5)).mono ?_
            rw [← HQ.out]
            unfold LoadQ
            rintro e w6 ⟨B6, m6, d6, rfl, hm6, hd6, hB6, hnB6, _⟩
            go_wp2_with (first | go_skip | ((with_reducible apply wpl_loadrow); (exact rfl); infer_instance; infer_instance; (first | (with_reducible assumption) | (with_reducible exact H32.size _) | (with_reducible exact enc_sz _ rfl) | kernel_rfl)) | ((with_reducible apply wpl_loadcellN); (exact rfl); infer_instance; (exact rfl)))
            refine (rLoad_calls (RF.nw hX5) hR5 hF5.ok).mono ?_
            rw [← HQ.out]
            unfold LoadQ
            rintro e w7 ⟨B7, m7, d7, rfl, hm7, hd7, hB7, hnB7, _⟩
            have hse := HSE.out
            have hna := HNA.out
            have hnb := HNB.out
            go_wp2_with (first | go_skip | ((with_reducible apply wpl_loadrow); (exact rfl); infer_instance; infer_instance; (first | (with_reducible assumption) | (with_reducible exact H32.size _) | (with_reducible exact enc_sz _ rfl) | kernel_rfl)) | ((with_reducible apply wpl_loadcellN); (exact rfl); infer_instance; (exact rfl)) | ((with_reducible apply wpl_indexH); (exact rfl); (exact rfl); infer_instance; infer_instance; (first | (with_reducible assumption) | omega); (first | (with_reducible assumption) | omega); (first | (with_reducible assumption) | omega)) | ((with_reducible apply wpl_indexH'); (exact rfl); (exact rfl); infer_instance; infer_instance; (first | (with_reducible assumption) | omega); (first | (with_reducible assumption) | omega); (first | (with_reducible assumption) | omega)) | ((with_reducible apply (wpl_loadhash (t := 75))); (exact rfl); infer_instance; infer_instance; (first | (with_reducible assumption) | omega)) | ((with_reducible apply (wpl_indexE (α := SAct) (t := 22))); (exact rfl); (exact rfl); infer_instance; infer_instance; (first | (with_reducible assumption) | omega | (focus (simp; done)) | (focus (simp; omega; done)) | decide); (exact rfl); (decide); (first | (with_reducible assumption) | omega | (focus (simp; done)) | (focus (simp; omega; done)) | decide)) | ((with_reducible apply (wpl_indexE0 (α := SAct) (t := 22))); (exact rfl); infer_instance; infer_instance; (first | (with_reducible assumption) | omega | (focus (simp; done)) | (focus (simp; omega; done)) | decide); (exact rfl); (decide); (first | (with_reducible assumption) | omega | (focus (simp; done)) | (focus (simp; omega; done)) | decide)) | ((with_reducible apply (wpl_loadE (α := SAct) (t := 30))); infer_instance; (exact rfl); infer_instance; (exact rfl); (decide); (first | (with_reducible assumption) | omega | (focus (simp; done)) | (focus (simp; omega; done)) | decide)) | ((with_reducible apply (wpl_fieldE (t := 30))); (exact Try.underlying30); (exact rfl); (kernel_rfl); (exact rfl); infer_instance; (exact cells_pos (by decide) (by omega))) | ((with_reducible apply (wpl_loadF (α := SAct))); infer_instance; (exact rfl); infer_instance; (exact rfl); (first | (with_reducible assumption) | omega | (focus (simp; done)) | (focus (simp; omega; done)) | decide); (exact rfl)) | ((with_reducible apply wpl_conv); (exact rfl); infer_instance; (first | (with_reducible assumption) | (focus (simp; done)) | omega); (exact Try.underlying28); (exact Try.underlying5); (exact Try.underlying9)) | ((with_reducible apply (wpl_loadint (t := 3))); (exact rfl); infer_instance; infer_instance; (first | (with_reducible assumption) | omega)) | ((with_reducible apply (wpl_loadbyte (t := 5))); (exact rfl); infer_instance; infer_instance; (first | (with_reducible assumption) | omega)))
            refine (slAlike_calls (FlashAt.nw hF5) (RF.nw hX5) hR5).mono ?_
            rintro e w8 ⟨rfl, _⟩
            go_wp2_with (first | go_skip | ((with_reducible apply wpl_loadrow); (exact rfl); infer_instance; infer_instance; (first | (with_reducible assumption) | (with_reducible exact H32.size _) | (with_reducible exact enc_sz _ rfl) | kernel_rfl)) | ((with_reducible apply wpl_loadcellN); (exact rfl); infer_instance; (exact rfl)))
            exact ⟨⟨k + 1, by omega, by omega, by go_num, inferInstance, inferInstance, Lib.hid (BothS.nw HBz.out)⟩, by simp [intOf]; omega⟩
          · have e1 : ((gt l k).kind == 1) = false := by simp [hk1]
            by_cases hk2 : (gt l k).kind = 2
            · obtain ⟨⟨s, r, hF, hX, hR⟩, hTl⟩ := HBo.out
              have HF := Lib.hid hF
              have HX := Lib.hid hX
              have HTl := Lib.hid hTl
              have HR0 := Lib.hid hR
              have HNC : Hid (True = True) := Lib.hid rfl
              clear hF hX hR hTl HBo
              have e2 : ((gt l k).kind == 2) = true := by simp [hk2]
              clear hk1 hk2
              go_wp2_with (first | go_skip | ((with_reducible apply wpl_loadrow); (exact rfl); infer_instance; infer_instance; (first | (with_reducible assumption) | (with_reducible exact H32.size _) | (with_reducible exact enc_sz _ rfl) | kernel_rfl)) | ((with_reducible apply wpl_loadcellN); (exact rfl); infer_instance; (exact rfl)) | ((with_reducible apply wpl_indexH); (exact rfl); (exact rfl); infer_instance; infer_instance; (first | (with_reducible assumption) | omega); (first | (with_reducible assumption) | omega); (first | (with_reducible assumption) | omega)) | ((with_reducible apply wpl_indexH'); (exact rfl); (exact rfl); infer_instance; infer_instance; (first | (with_reducible assumption) | omega); (first | (with_reducible assumption) | omega); (first | (with_reducible assumption) | omega)) | ((with_reducible apply (wpl_loadhash (t := 75))); (exact rfl); infer_instance; infer_instance; (first | (with_reducible assumption) | omega)) | ((with_reducible apply (wpl_indexE (α := SAct) (t := 22))); (exact rfl); (exact rfl); infer_instance; infer_instance; (first | (with_reducible assumption) | omega | (focus (simp; done)) | (focus (simp; omega; done)) | decide); (exact rfl); (decide); (first | (with_reducible assumption) | omega | (focus (simp; done)) | (focus (simp; omega; done)) | decide)) | ((with_reducible apply (wpl_indexE0 (α := SAct) (t := 22))); (exact rfl); infer_instance; infer_instance; (first | (with_reducible assumption) | omega | (focus (simp; done)) | (focus (simp; omega; done)) | decide); (exact rfl); (decide); (first | (with_reducible assumption) | omega | (focus (simp; done)) | (focus (simp; omega; done)) | decide)) | ((with_reducible apply (wpl_loadE (α := SAct) (t := 30))); infer_instance; (exact rfl); infer_instance; (exact rfl); (decide); (first | (with_reducible assumption) | omega | (focus (simp; done)) | (focus (simp; omega; done)) | decide)) | ((with_reducible apply (wpl_fieldE (t := 30))); (exact Try.underlying30); (exact rfl); (kernel_rfl); (exact rfl); infer_instance; (exact cells_pos (by decide) (by omega))) | ((with_reducible apply (wpl_loadF (α := SAct))); infer_instance; (exact rfl); infer_instance; (exact rfl); (first | (with_reducible assumption) | omega | (focus (simp; done)) | (focus (simp; omega; done)) | decide); (exact rfl)) | ((with_reducible apply wpl_conv); (exact rfl); infer_instance; (first | (with_reducible assumption) | (focus (simp; done)) | omega); (exact Try.underlying28); (exact Try.underlying5); (exact Try.underlying9)) | ((with_reducible apply (wpl_loadint (t := 3))); (exact rfl); infer_instance; infer_instance; (first | (with_reducible assumption) | omega)) | ((with_reducible apply (wpl_loadbyte (t := 5))); (exact rfl); infer_instance; infer_instance; (first | (with_reducible assumption) | omega)))
              refine wp_region_N ((PT g p T)) (by kernel_rfl) (fun wd _ _ => ?_)
              refine' takeH (i := 0) (v := _) rfl (by kernel_rfl) (by kernel_rfl) (by kernel_rfl) (fun _ _ _ h => h) (yields_of (by rfl) (fun w' _ => ?_)) inferInstance ?_
              rotate_left
              · (go_simp; try with_reducible rfl)
              try simp only [Act.put, sA]; try simp only [sB, sC]
              refine' takeH (i := 1) (v := _) rfl (by kernel_rfl) (by kernel_rfl) (by kernel_rfl) (fun _ _ _ h => h) (yields_of (by rfl) (fun w' _ => ?_)) inferInstance ?_
              rotate_left
              · (go_simp; try with_reducible rfl)
              try simp only [Act.put, sA]; try simp only [sB, sC]
              refine' takeH (i := 2) (v := _) rfl (by kernel_rfl) (by kernel_rfl) (by kernel_rfl) (fun _ _ _ h => h) (yields_of (by rfl) (fun w' _ => ?_)) inferInstance ?_
              rotate_left
              · (go_simp; try with_reducible rfl)
              try simp only [Act.put, sA]; try simp only [sB, sC]
              refine' takeH (i := 3) (v := _) rfl (by kernel_rfl) (by kernel_rfl) (by kernel_rfl) (fun _ _ _ h => h) (yields_of (by rfl) (fun w' _ => ?_)) inferInstance ?_
              rotate_left
              · (first | ((with_reducible apply ev_indexH'); (exact rfl); (exact rfl); infer_instance; infer_instance; (first | (with_reducible assumption) | omega); (first | (with_reducible assumption) | omega); (first | (with_reducible assumption) | omega)) | ((with_reducible apply ev_indexH); (exact rfl); (exact rfl); infer_instance; infer_instance; (first | (with_reducible assumption) | omega); (first | (with_reducible assumption) | omega)) | ((with_reducible apply (ev_indexE (α := SAct) (t := 22))); (exact rfl); (exact rfl); infer_instance; infer_instance; (first | (with_reducible assumption) | omega | (focus (simp; done)) | (focus (simp; omega; done)) | decide); (exact rfl); (decide); (first | (with_reducible assumption) | omega | (focus (simp; done)) | (focus (simp; omega; done)) | decide)) | ((with_reducible apply (ev_indexE0 (α := SAct) (t := 22))); (exact rfl); infer_instance; infer_instance; (first | (with_reducible assumption) | omega | (focus (simp; done)) | (focus (simp; omega; done)) | decide); (exact rfl); (decide); (first | (with_reducible assumption) | omega | (focus (simp; done)) | (focus (simp; omega; done)) | decide)) | (go_simp; try with_reducible rfl))
              try simp only [Act.put, sA]; try simp only [sB, sC]
              refine' takeH (i := 4) (v := _) rfl (by kernel_rfl) (by kernel_rfl) (by kernel_rfl) (fun _ _ _ h => h) (yields_of (by rfl) (fun w' _ => ?_)) inferInstance ?_
              rotate_left
              · (first | ((with_reducible apply (ev_fieldE (t := 30))); (exact Try.underlying30); (exact rfl); (kernel_rfl); (exact rfl); infer_instance; (exact cells_pos (by decide) (by omega))) | (go_simp; try with_reducible rfl))
              try simp only [Act.put, sA]; try simp only [sB, sC]
              refine' takeH (i := 5) (v := _) rfl (by kernel_rfl) (by kernel_rfl) (by kernel_rfl) (fun _ _ _ h => h) (yields_of (by rfl) (fun w' _ => ?_)) inferInstance ?_
              rotate_left
              · (first | ((with_reducible apply ev_loadrow); (exact rfl); infer_instance; infer_instance; (first | (with_reducible assumption) | (with_reducible exact H32.size _) | (with_reducible exact enc_sz _ rfl) | kernel_rfl)) | ((with_reducible apply (ev_loadhash (t := 75))); (exact rfl); infer_instance; infer_instance; (first | (with_reducible assumption) | omega)) | ((with_reducible apply ev_loadcellN); (exact rfl); infer_instance; infer_instance; (exact rfl)) | ((with_reducible apply (ev_loadE (α := SAct) (t := 30))); infer_instance; (exact rfl); infer_instance; (exact rfl); (decide); (first | (with_reducible assumption) | omega | (focus (simp; done)) | (focus (simp; omega; done)) | decide)) | ((with_reducible apply (ev_loadF (α := SAct))); infer_instance; (exact rfl); infer_instance; (exact rfl); (first | (with_reducible assumption) | omega | (focus (simp; done)) | (focus (simp; omega; done)) | decide); (exact rfl)) | ((with_reducible apply (ev_loadint (t := 3))); (exact rfl); infer_instance; infer_instance; (first | (with_reducible assumption) | omega)) | ((with_reducible apply (ev_loadbyte (t := 5))); (exact rfl); infer_instance; infer_instance; (first | (with_reducible assumption) | omega)) | (go_simp; try with_reducible rfl))
              try simp only [Act.put, sA]; try simp only [sB, sC]
              refine' takeH (i := 6) (v := _) rfl (by kernel_rfl) (by kernel_rfl) (by kernel_rfl) (fun _ _ _ h => h) (yields_of (by rfl) (fun w' _ => ?_)) inferInstance ?_
              rotate_left
              · (go_simp; try with_reducible rfl)
              try simp only [Act.put, sA]; try simp only [sB, sC]
              refine' takeH (i := 7) (v := _) rfl (by kernel_rfl) (by kernel_rfl) (by kernel_rfl) (fun _ _ _ h => h) (yields_of (by rfl) (fun w' _ => ?_)) inferInstance ?_
              rotate_left
              · (go_simp; try with_reducible rfl)
              try simp only [Act.put, sA]; try simp only [sB, sC]
              refine' takeH (i := 8) (v := _) rfl (by kernel_rfl) (by kernel_rfl) (by kernel_rfl) (fun _ _ _ h => h) (yields_of (by rfl) (fun w' _ => ?_)) inferInstance ?_
              rotate_left
              · (first | ((with_reducible apply ev_indexH'); (exact rfl); (exact rfl); infer_instance; infer_instance; (first | (with_reducible assumption) | omega); (first | (with_reducible assumption) | omega); (first | (with_reducible assumption) | omega)) | ((with_reducible apply ev_indexH); (exact rfl); (exact rfl); infer_instance; infer_instance; (first | (with_reducible assumption) | omega); (first | (with_reducible assumption) | omega)) | ((with_reducible apply (ev_indexE (α := SAct) (t := 22))); (exact rfl); (exact rfl); infer_instance; infer_instance; (first | (with_reducible assumption) | omega | (focus (simp; done)) | (focus (simp; omega; done)) | decide); (exact rfl); (decide); (first | (with_reducible assumption) | omega | (focus (simp; done)) | (focus (simp; omega; done)) | decide)) | ((with_reducible apply (ev_indexE0 (α := SAct) (t := 22))); (exact rfl); infer_instance; infer_instance; (first | (with_reducible assumption) | omega | (focus (simp; done)) | (focus (simp; omega; done)) | decide); (exact rfl); (decide); (first | (with_reducible assumption) | omega | (focus (simp; done)) | (focus (simp; omega; done)) | decide)) | (go_simp; try with_reducible rfl))
              try simp only [Act.put, sA]; try simp only [sB, sC]
              refine' takeH (i := 9) (v := _) rfl (by kernel_rfl) (by kernel_rfl) (by kernel_rfl) (fun _ _ _ h => h) (yields_of (by rfl) (fun w' _ => ?_)) inferInstance ?_
              rotate_left
              · (first | ((with_reducible apply (ev_fieldE (t := 30))); (exact Try.underlying30); (exact rfl); (kernel_rfl); (exact rfl); infer_instance; (exact cells_pos (by decide) (by omega))) | (go_simp; try with_reducible rfl))
              try simp only [Act.put, sA]; try simp only [sB, sC]
              refine' takeH (i := 10) (v := _) rfl (by kernel_rfl) (by kernel_rfl) (by kernel_rfl) (fun _ _ _ h => h) (yields_of (by rfl) (fun w' _ => ?_)) inferInstance ?_
              rotate_left
              · (first | ((with_reducible apply ev_loadrow); (exact rfl); infer_instance; infer_instance; (first | (with_reducible assumption) | (with_reducible exact H32.size _) | (with_reducible exact enc_sz _ rfl) | kernel_rfl)) | ((with_reducible apply (ev_loadhash (t := 75))); (exact rfl); infer_instance; infer_instance; (first | (with_reducible assumption) | omega)) | ((with_reducible apply ev_loadcellN); (exact rfl); infer_instance; infer_instance; (exact rfl)) | ((with_reducible apply (ev_loadE (α := SAct) (t := 30))); infer_instance; (exact rfl); infer_instance; (exact rfl); (decide); (first | (with_reducible assumption) | omega | (focus (simp; done)) | (focus (simp; omega; done)) | decide)) | ((with_reducible apply (ev_loadF (α := SAct))); infer_instance; (exact rfl); infer_instance; (exact rfl); (first | (with_reducible assumption) | omega | (focus (simp; done)) | (focus (simp; omega; done)) | decide); (exact rfl)) | ((with_reducible apply (ev_loadint (t := 3))); (exact rfl); infer_instance; infer_instance; (first | (with_reducible assumption) | omega)) | ((with_reducible apply (ev_loadbyte (t := 5))); (exact rfl); infer_instance; infer_instance; (first | (with_reducible assumption) | omega)) | (go_simp; try with_reducible rfl))
              try simp only [Act.put, sA]; try simp only [sB, sC]
              refine goH (i := 11) (by kernel_rfl) rfl (fun K_ hK_ => ?_)
              go_simp
              refine (Fuse_calls g p N s (gt l k).n (gt l k).tear _ (FlashAt.nw HF.out) HA1.out.2.2).mono ?_
              rintro e w5 ⟨rfl, HF5, c5⟩
              have s5 : Step (Two g p) _ w5 := ⟨c5.out⟩
              have HX5 : Hid (RF w5 x T r) := Lib.hid (RF.ch (S := Two g p) HX.out HTG.out)
              have HT5 : Hid (∀ k, T k → k < w5.heap.size) := Lib.hid (fun k hk => Nat.lt_of_lt_of_le (HTl.out k hk) (inferInstance : SzLe wr w5).out)
              clear c5
              refine hK_.out _ _ inferInstance (fun _ => ?_)
              clear hK_ K_
              try simp only [Act.put, sA]; try simp only [sB, sC]
              refine wpAnyH_done (by kernel_rfl) ?_ _
              go_wp2_with (first | go_skip | ((with_reducible apply wpl_loadrow); (exact rfl); infer_instance; infer_instance; (first | (with_reducible assumption) | (with_reducible exact H32.size _) | (with_reducible exact enc_sz _ rfl) | kernel_rfl)) | ((with_reducible apply wpl_loadcellN); (exact rfl); infer_instance; (exact rfl)))
              refine wp_region_N ((PT g p T)) (by kernel_rfl) (fun wd _ _ => ?_)
              refine' takeH (i := 0) (v := _) rfl (by kernel_rfl) (by kernel_rfl) (by kernel_rfl) (fun _ _ _ h => h) (yields_of (by rfl) (fun w' _ => ?_)) inferInstance ?_
              rotate_left
              · (go_simp; try with_reducible rfl)
              try simp only [Act.put, sA]; try simp only [sB, sC]
              refine' takeH (i := 1) (v := _) rfl (by kernel_rfl) (by kernel_rfl) (by kernel_rfl) (fun _ _ _ h => h) (yields_of (by rfl) (fun w' _ => ?_)) inferInstance ?_
              rotate_left
              · (go_simp; try with_reducible rfl)
              try simp only [Act.put, sA]; try simp only [sB, sC]
              refine' takeH (i := 2) (v := _) rfl (by kernel_rfl) (by kernel_rfl) (by kernel_rfl) (fun _ _ _ h => h) (yields_of (by rfl) (fun w' _ => ?_)) inferInstance ?_
              rotate_left
              · (go_simp; try with_reducible rfl)
              try simp only [Act.put, sA]; try simp only [sB, sC]
              refine' takeH (i := 3) (v := _) rfl (by kernel_rfl) (by kernel_rfl) (by kernel_rfl) (fun _ _ _ h => h) (yields_of (by rfl) (fun w' _ => ?_)) inferInstance ?_
              rotate_left
              · (first | ((with_reducible apply ev_indexH'); (exact rfl); (exact rfl); infer_instance; infer_instance; (first | (with_reducible assumption) | omega); (first | (with_reducible assumption) | omega); (first | (with_reducible assumption) | omega)) | ((with_reducible apply ev_indexH); (exact rfl); (exact rfl); infer_instance; infer_instance; (first | (with_reducible assumption) | omega); (first | (with_reducible assumption) | omega)) | ((with_reducible apply (ev_indexE (α := SAct) (t := 22))); (exact rfl); (exact rfl); infer_instance; infer_instance; (first | (with_reducible assumption) | omega | (focus (simp; done)) | (focus (simp; omega; done)) | decide); (exact rfl); (decide); (first | (with_reducible assumption) | omega | (focus (simp; done)) | (focus (simp; omega; done)) | decide)) | ((with_reducible apply (ev_indexE0 (α := SAct) (t := 22))); (exact rfl); infer_instance; infer_instance; (first | (with_reducible assumption) | omega | (focus (simp; done)) | (focus (simp; omega; done)) | decide); (exact rfl); (decide); (first | (with_reducible assumption) | omega | (focus (simp; done)) | (focus (simp; omega; done)) | decide)) | (go_simp; try with_reducible rfl))
              try simp only [Act.put, sA]; try simp only [sB, sC]
              refine' takeH (i := 4) (v := _) rfl (by kernel_rfl) (by kernel_rfl) (by kernel_rfl) (fun _ _ _ h => h) (yields_of (by rfl) (fun w' _ => ?_)) inferInstance ?_
              rotate_left
              · (first | ((with_reducible apply (ev_fieldE (t := 30))); (exact Try.underlying30); (exact rfl); (kernel_rfl); (exact rfl); infer_instance; (exact cells_pos (by decide) (by omega))) | (go_simp; try with_reducible rfl))
              try simp only [Act.put, sA]; try simp only [sB, sC]
              refine' takeH (i := 5) (v := _) rfl (by kernel_rfl) (by kernel_rfl) (by kernel_rfl) (fun _ _ _ h => h) (yields_of (by rfl) (fun w' _ => ?_)) inferInstance ?_
              rotate_left
              · (first | ((with_reducible apply ev_loadrow); (exact rfl); infer_instance; infer_instance; (first | (with_reducible assumption) | (with_reducible exact H32.size _) | (with_reducible exact enc_sz _ rfl) | kernel_rfl)) | ((with_reducible apply (ev_loadhash (t := 75))); (exact rfl); infer_instance; infer_instance; (first | (with_reducible assumption) | omega)) | ((with_reducible apply ev_loadcellN); (exact rfl); infer_instance; infer_instance; (exact rfl)) | ((with_reducible apply (ev_loadE (α := SAct) (t := 30))); infer_instance; (exact rfl); infer_instance; (exact rfl); (decide); (first | (with_reducible assumption) | omega | (focus (simp; done)) | (focus (simp; omega; done)) | decide)) | ((with_reducible apply (ev_loadF (α := SAct))); infer_instance; (exact rfl); infer_instance; (exact rfl); (first | (with_reducible assumption) | omega | (focus (simp; done)) | (focus (simp; omega; done)) | decide); (exact rfl)) | ((with_reducible apply (ev_loadint (t := 3))); (exact rfl); infer_instance; infer_instance; (first | (with_reducible assumption) | omega)) | ((with_reducible apply (ev_loadbyte (t := 5))); (exact rfl); infer_instance; infer_instance; (first | (with_reducible assumption) | omega)) | (go_simp; try with_reducible rfl))
              try simp only [Act.put, sA]; try simp only [sB, sC]
              refine' takeH (i := 6) (v := _) rfl (by kernel_rfl) (by kernel_rfl) (by kernel_rfl) (fun _ _ _ h => h) (yields_of (by rfl) (fun w' _ => ?_)) inferInstance ?_
              rotate_left
              · (go_simp; try with_reducible rfl)
              try simp only [Act.put, sA]; try simp only [sB, sC]
              refine' takeH (i := 7) (v := _) rfl (by kernel_rfl) (by kernel_rfl) (by kernel_rfl) (fun _ _ _ h => h) (yields_of (by rfl) (fun w' _ => ?_)) inferInstance ?_
              rotate_left
              · (go_simp; try with_reducible rfl)
              try simp only [Act.put, sA]; try simp only [sB, sC]
              refine' takeH (i := 8) (v := _) rfl (by kernel_rfl) (by kernel_rfl) (by kernel_rfl) (fun _ _ _ h => h) (yields_of (by rfl) (fun w' _ => ?_)) inferInstance ?_
              rotate_left
              · (first | ((with_reducible apply ev_indexH'); (exact rfl); (exact rfl); infer_instance; infer_instance; (first | (with_reducible assumption) | omega); (first | (with_reducible assumption) | omega); (first | (with_reducible assumption) | omega)) | ((with_reducible apply ev_indexH); (exact rfl); (exact rfl); infer_instance; infer_instance; (first | (with_reducible assumption) | omega); (first | (with_reducible assumption) | omega)) | ((with_reducible apply (ev_indexE (α := SAct) (t := 22))); (exact rfl); (exact rfl); infer_instance; infer_instance; (first | (with_reducible assumption) | omega | (focus (simp; done)) | (focus (simp; omega; done)) | decide); (exact rfl); (decide); (first | (with_reducible assumption) | omega | (focus (simp; done)) | (focus (simp; omega; done)) | decide)) | ((with_reducible apply (ev_indexE0 (α := SAct) (t := 22))); (exact rfl); infer_instance; infer_instance; (first | (with_reducible assumption) | omega | (focus (simp; done)) | (focus (simp; omega; done)) | decide); (exact rfl); (decide); (first | (with_reducible assumption) | omega | (focus (simp; done)) | (focus (simp; omega; done)) | decide)) | (go_simp; try with_reducible rfl))
              try simp only [Act.put, sA]; try simp only [sB, sC]
              refine' takeH (i := 9) (v := _) rfl (by kernel_rfl) (by kernel_rfl) (by kernel_rfl) (fun _ _ _ h => h) (yields_of (by rfl) (fun w' _ => ?_)) inferInstance ?_
              rotate_left
              · (first | ((with_reducible apply (ev_fieldE (t := 30))); (exact Try.underlying30); (exact rfl); (kernel_rfl); (exact rfl); infer_instance; (exact cells_pos (by decide) (by omega))) | (go_simp; try with_reducible rfl))
              try simp only [Act.put, sA]; try simp only [sB, sC]
              refine' takeH (i := 10) (v := _) rfl (by kernel_rfl) (by kernel_rfl) (by kernel_rfl) (fun _ _ _ h => h) (yields_of (by rfl) (fun w' _ => ?_)) inferInstance ?_
              rotate_left
              · (first | ((with_reducible apply ev_loadrow); (exact rfl); infer_instance; infer_instance; (first | (with_reducible assumption) | (with_reducible exact H32.size _) | (with_reducible exact enc_sz _ rfl) | kernel_rfl)) | ((with_reducible apply (ev_loadhash (t := 75))); (exact rfl); infer_instance; infer_instance; (first | (with_reducible assumption) | omega)) | ((with_reducible apply ev_loadcellN); (exact rfl); infer_instance; infer_instance; (exact rfl)) | ((with_reducible apply (ev_loadE (α := SAct) (t := 30))); infer_instance; (exact rfl); infer_instance; (exact rfl); (decide); (first | (with_reducible assumption) | omega | (focus (simp; done)) | (focus (simp; omega; done)) | decide)) | ((with_reducible apply (ev_loadF (α := SAct))); infer_instance; (exact rfl); infer_instance; (exact rfl); (first | (with_reducible assumption) | omega | (focus (simp; done)) | (focus (simp; omega; done)) | decide); (exact rfl)) | ((with_reducible apply (ev_loadint (t := 3))); (exact rfl); infer_instance; infer_instance; (first | (with_reducible assumption) | omega)) | ((with_reducible apply (ev_loadbyte (t := 5))); (exact rfl); infer_instance; infer_instance; (first | (with_reducible assumption) | omega)) | (go_simp; try with_reducible rfl))
              try simp only [Act.put, sA]; try simp only [sB, sC]
              refine goH (i := 11) (by kernel_rfl) rfl (fun K_ hK_ => ?_)
              go_simp
              refine (rfFuse_calls (RF.nw HX5.out) (gt l k).n (gt l k).tear).mono ?_
              rintro e wz ⟨rfl, h6, c6⟩
              have s6 : Step T _ wz := ⟨c6⟩
              have HBz : Hid (BothS wz g p N x T) := Lib.hid ⟨⟨_, _, (FlashAt.nw HF5.out).chg c6 HTg.out HTp.out, h6, HR0.out.fuse _ _⟩, fun k hk => Nat.lt_of_lt_of_le (HT5.out k hk) (inferInstance : SzLe w5 wz).out⟩
              clear h6 c6
              refine hK_.out _ _ inferInstance (fun _ => ?_)
              clear hK_ K_
              try simp only [Act.put, sA]; try simp only [sB, sC]
              refine wpAnyH_done (by kernel_rfl) ?_ _
              have HL5 : HR wz L (cellsOf l) := ⟨hL.out.chg (inferInstance : Nw w wz).out (fun _ _ _ h => h)⟩
              obtain ⟨⟨s5, r5, hF5, hX5, hR5⟩, hT5⟩ := HBz.out
              obtain ⟨Q, hQ⟩ : ∃ Q, Q = loadN N s5 := ⟨_, rfl⟩
              have HQ := Lib.hid hQ
              have HSE : Hid (((strL Q.1).toList == (strL Q.1).toList) = true) := Lib.hid (by simp)
              have HNA : Hid (((Q.2.1 : Int) != (Q.2.1 : Int)) = false) := Lib.hid (by simp)
              have HNB : Hid (((Q.2.2 : Int) != (Q.2.2 : Int)) = false) := Lib.hid (by simp)
              clear hQ
              go_wp2_with (first | go_skip | ((with_reducible apply wpl_loadrow); (exact rfl); infer_instance; infer_instance; (first | (with_reducible assumption) | (with_reducible exact H32.size _) | (with_reducible exact enc_sz _ rfl) | kernel_rfl)) | ((with_reducible apply wpl_loadcellN); (exact rfl); infer_instance; (exact rfl)))
              refine (pLoad_calls (FlashAt.nw hF5)).mono ?_
              rw [← HQ.out]
              unfold LoadQ
              rintro e w6 ⟨B6, m6, d6, rfl, hm6, hd6, hB6, hnB6, _⟩
              go_wp2_with (first | go_skip | ((with_reducible apply wpl_loadrow); (exact rfl); infer_instance; infer_instance; (first | (with_reducible assumption) | (with_reducible exact H32.size _) | (with_reducible exact enc_sz _ rfl) | kernel_rfl)) | ((with_reducible apply wpl_loadcellN); (exact rfl); infer_instance; (exact rfl)))
              refine (rLoad_calls (RF.nw hX5) hR5 hF5.ok).mono ?_
              rw [← HQ.out]
              unfold LoadQ
              rintro e w7 ⟨B7, m7, d7, rfl, hm7, hd7, hB7, hnB7, _⟩
              have hse := HSE.out
              have hna := HNA.out
              have hnb := HNB.out
              go_wp2_with (first | go_skip | ((with_reducible apply wpl_loadrow); (exact rfl); infer_instance; infer_instance; (first | (with_reducible assumption) | (with_reducible exact H32.size _) | (with_reducible exact enc_sz _ rfl) | kernel_rfl)) | ((with_reducible apply wpl_loadcellN); (exact rfl); infer_instance; (exact rfl)) | ((with_reducible apply wpl_indexH); (exact rfl); (exact rfl); infer_instance; infer_instance; (first | (with_reducible assumption) | omega); (first | (with_reducible assumption) | omega); (first | (with_reducible assumption) | omega)) | ((with_reducible apply wpl_indexH'); (exact rfl); (exact rfl); infer_instance; infer_instance; (first | (with_reducible assumption) | omega); (first | (with_reducible assumption) | omega); (first | (with_reducible assumption) | omega)) | ((with_reducible apply (wpl_loadhash (t := 75))); (exact rfl); infer_instance; infer_instance; (first | (with_reducible assumption) | omega)) | ((with_reducible apply (wpl_indexE (α := SAct) (t := 22))); (exact rfl); (exact rfl); infer_instance; infer_instance; (first | (with_reducible assumption) | omega | (focus (simp; done)) | (focus (simp; omega; done)) | decide); (exact rfl); (decide); (first | (with_reducible assumption) | omega | (focus (simp; done)) | (focus (simp; omega; done)) | decide)) | ((with_reducible apply (wpl_indexE0 (α := SAct) (t := 22))); (exact rfl); infer_instance; infer_instance; (first | (with_reducible assumption) | omega | (focus (simp; done)) | (focus (simp; omega; done)) | decide); (exact rfl); (decide); (first | (with_reducible assumption) | omega | (focus (simp; done)) | (focus (simp; omega; done)) | decide)) | ((with_reducible apply (wpl_loadE (α := SAct) (t := 30))); infer_instance; (exact rfl); infer_instance; (exact rfl); (decide); (first | (with_reducible assumption) | omega | (focus (simp; done)) | (focus (simp; omega; done)) | decide)) | ((with_reducible apply (wpl_fieldE (t := 30))); (exact Try.underlying30); (exact rfl); (kernel_rfl); (exact rfl); infer_instance; (exact cells_pos (by decide) (by omega))) | ((with_reducible apply (wpl_loadF (α := SAct))); infer_instance; (exact rfl); infer_instance; (exact rfl); (first | (with_reducible assumption) | omega | (focus (simp; done)) | (focus (simp; omega; done)) | decide); (exact rfl)) | ((with_reducible apply wpl_conv); (exact rfl); infer_instance; (first | (with_reducible assumption) | (focus (simp; done)) | omega); (exact Try.underlying28); (exact Try.underlying5); (exact Try.underlying9)) | ((with_reducible apply (wpl_loadint (t := 3))); (exact rfl); infer_instance; infer_instance; (first | (with_reducible assumption) | omega)) | ((with_reducible apply (wpl_loadbyte (t := 5))); (exact rfl); infer_instance; infer_instance; (first | (with_reducible assumption) | omega)))
              refine (slAlike_calls (FlashAt.nw hF5) (RF.nw hX5) hR5).mono ?_
              rintro e w8 ⟨rfl, _⟩
              go_wp2_with (first | go_skip | ((with_reducible apply wpl_loadrow); (exact rfl); infer_instance; infer_instance; (first | (with_reducible assumption) | (with_reducible exact H32.size _) | (with_reducible exact enc_sz _ rfl) | kernel_rfl)) | ((with_reducible apply wpl_loadcellN); (exact rfl); infer_instance; (exact rfl)))
              exact ⟨⟨k + 1, by omega, by omega, by go_num, inferInstance, inferInstance, Lib.hid (BothS.nw HBz.out)⟩, by simp [intOf]; omega⟩
            · obtain ⟨⟨s, r, hF, hX, hR⟩, hTl⟩ := HBo.out
              have HF := Lib.hid hF
              have HX := Lib.hid hX
              have HTl := Lib.hid hTl
              have HR0 := Lib.hid hR
              have HNC : Hid (True = True) := Lib.hid rfl
              clear hF hX hR hTl HBo
              have e2 : ((gt l k).kind == 2) = false := by simp [hk2]
              clear hk1 hk2
              go_wp2_with (first | go_skip | ((with_reducible apply wpl_loadrow); (exact rfl); infer_instance; infer_instance; (first | (with_reducible assumption) | (with_reducible exact H32.size _) | (with_reducible exact enc_sz _ rfl) | kernel_rfl)) | ((with_reducible apply wpl_loadcellN); (exact rfl); infer_instance; (exact rfl)) | ((with_reducible apply wpl_indexH); (exact rfl); (exact rfl); infer_instance; infer_instance; (first | (with_reducible assumption) | omega); (first | (with_reducible assumption) | omega); (first | (with_reducible assumption) | omega)) | ((with_reducible apply wpl_indexH'); (exact rfl); (exact rfl); infer_instance; infer_instance; (first | (with_reducible assumption) | omega); (first | (with_reducible assumption) | omega); (first | (with_reducible assumption) | omega)) | ((with_reducible apply (wpl_loadhash (t := 75))); (exact rfl); infer_instance; infer_instance; (first | (with_reducible assumption) | omega)) | ((with_reducible apply (wpl_indexE (α := SAct) (t := 22))); (exact rfl); (exact rfl); infer_instance; infer_instance; (first | (with_reducible assumption) | omega | (focus (simp; done)) | (focus (simp; omega; done)) | decide); (exact rfl); (decide); (first | (with_reducible assumption) | omega | (focus (simp; done)) | (focus (simp; omega; done)) | decide)) | ((with_reducible apply (wpl_indexE0 (α := SAct) (t := 22))); (exact rfl); infer_instance; infer_instance; (first | (with_reducible assumption) | omega | (focus (simp; done)) | (focus (simp; omega; done)) | decide); (exact rfl); (decide); (first | (with_reducible assumption) | omega | (focus (simp; done)) | (focus (simp; omega; done)) | decide)) | ((with_reducible apply (wpl_loadE (α := SAct) (t := 30))); infer_instance; (exact rfl); infer_instance; (exact rfl); (decide); (first | (with_reducible assumption) | omega | (focus (simp; done)) | (focus (simp; omega; done)) | decide)) | ((with_reducible apply (wpl_fieldE (t := 30))); (exact Try.underlying30); (exact rfl); (kernel_rfl); (exact rfl); infer_instance; (exact cells_pos (by decide) (by omega))) | ((with_reducible apply (wpl_loadF (α := SAct))); infer_instance; (exact rfl); infer_instance; (exact rfl); (first | (with_reducible assumption) | omega | (focus (simp; done)) | (focus (simp; omega; done)) | decide); (exact rfl)) | ((with_reducible apply wpl_conv); (exact rfl); infer_instance; (first | (with_reducible assumption) | (focus (simp; done)) | omega); (exact Try.underlying28); (exact Try.underlying5); (exact Try.underlying9)) | ((with_reducible apply (wpl_loadint (t := 3))); (exact rfl); infer_instance; infer_instance; (first | (with_reducible assumption) | omega)) | ((with_reducible apply (wpl_loadbyte (t := 5))); (exact rfl); infer_instance; infer_instance; (first | (with_reducible assumption) | omega)))
              refine (Boot_calls g p N s _ (FlashAt.nw HF.out)).mono ?_
              rintro e w5 ⟨rfl, HF5, c5⟩
              have s5 : Step (Two g p) _ w5 := ⟨c5.out⟩
              have HX5 : Hid (RF w5 x T r) := Lib.hid (RF.ch (S := Two g p) HX.out HTG.out)
              have HT5 : Hid (∀ k, T k → k < w5.heap.size) := Lib.hid (fun k hk => Nat.lt_of_lt_of_le (HTl.out k hk) (inferInstance : SzLe wr w5).out)
              clear c5
              go_wp2_with (first | go_skip | ((with_reducible apply wpl_loadrow); (exact rfl); infer_instance; infer_instance; (first | (with_reducible assumption) | (with_reducible exact H32.size _) | (with_reducible exact enc_sz _ rfl) | kernel_rfl)) | ((with_reducible apply wpl_loadcellN); (exact rfl); infer_instance; (exact rfl)))
              refine (rfBoot_calls (RF.nw HX5.out)).mono ?_
              rintro e wz ⟨rfl, h6, c6⟩
              have s6 : Step T _ wz := ⟨c6⟩
              have HBz : Hid (BothS wz g p N x T) := Lib.hid ⟨⟨_, _, (FlashAt.nw HF5.out).chg c6 HTg.out HTp.out, h6, HR0.out.boot⟩, fun k hk => Nat.lt_of_lt_of_le (HT5.out k hk) (inferInstance : SzLe w5 wz).out⟩
              clear h6 c6
              have HL5 : HR wz L (cellsOf l) := ⟨hL.out.chg (inferInstance : Nw w wz).out (fun _ _ _ h => h)⟩
              obtain ⟨⟨s5, r5, hF5, hX5, hR5⟩, hT5⟩ := HBz.out
              obtain ⟨Q, hQ⟩ : ∃ Q, Q = loadN N s5 := ⟨_, rfl⟩
              have HQ := Lib.hid hQ
              have HSE : Hid (((strL Q.1).toList == (strL Q.1).toList) = true) := Lib.hid (by simp)
              have HNA : Hid (((Q.2.1 : Int) != (Q.2.1 : Int)) = false) := Lib.hid (by simp)
              have HNB : Hid (((Q.2.2 : Int) != (Q.2.2 : Int)) = false) := Lib.hid (by simp)
              clear hQ
              go_wp2_with (first | go_skip | ((with_reducible apply wpl_loadrow); (exact rfl); infer_instance; infer_instance; (first | (with_reducible assumption) | (with_reducible exact H32.size _) | (with_reducible exact enc_sz _ rfl) | kernel_rfl)) | ((with_reducible apply wpl_loadcellN); (exact rfl); infer_instance; (exact rfl)))
              refine (pLoad_calls (FlashAt.nw hF5)).mono ?_
              rw [← HQ.out]
              unfold LoadQ
              rintro e w6 ⟨B6, m6, d6, rfl, hm6, hd6, hB6, hnB6, _⟩
              go_wp2_with (first | go_skip | ((with_reducible apply wpl_loadrow); (exact rfl); infer_instance; infer_instance; (first | (with_reducible assumption) | (with_reducible exact H32.size _) | (with_reducible exact enc_sz _ rfl) | kernel_rfl)) | ((with_reducible apply wpl_loadcellN); (exact rfl); infer_instance; (exact rfl)))
              refine (rLoad_calls (RF.nw hX5) hR5 hF5.ok).mono ?_
              rw [← HQ.out]
              unfold LoadQ
              rintro e w7 ⟨B7, m7, d7, rfl, hm7, hd7, hB7, hnB7, _⟩
              have hse := HSE.out
              have hna := HNA.out
              have hnb := HNB.out
              go_wp2_with (first | go_skip | ((with_reducible apply wpl_loadrow); (exact rfl); infer_instance; infer_instance; (first | (with_reducible assumption) | (with_reducible exact H32.size _) | (with_reducible exact enc_sz _ rfl) | kernel_rfl)) | ((with_reducible apply wpl_loadcellN); (exact rfl); infer_instance; (exact rfl)) | ((with_reducible apply wpl_indexH); (exact rfl); (exact rfl); infer_instance; infer_instance; (first | (with_reducible assumption) | omega); (first | (with_reducible assumption) | omega); (first | (with_reducible assumption) | omega)) | ((with_reducible apply wpl_indexH'); (exact rfl); (exact rfl); infer_instance; infer_instance; (first | (with_reducible assumption) | omega); (first | (with_reducible assumption) | omega); (first | (with_reducible assumption) | omega)) | ((with_reducible apply (wpl_loadhash (t := 75))); (exact rfl); infer_instance; infer_instance; (first | (with_reducible assumption) | omega)) | ((with_reducible apply (wpl_indexE (α := SAct) (t := 22))); (exact rfl); (exact rfl); infer_instance; infer_instance; (first | (with_reducible assumption) | omega | (focus (simp; done)) | (focus (simp; omega; done)) | decide); (exact rfl); (decide); (first | (with_reducible assumption) | omega | (focus (simp; done)) | (focus (simp; omega; done)) | decide)) | ((with_reducible apply (wpl_indexE0 (α := SAct) (t := 22))); (exact rfl); infer_instance; infer_instance; (first | (with_reducible assumption) | omega | (focus (simp; done)) | (focus (simp; omega; done)) | decide); (exact rfl); (decide); (first | (with_reducible assumption) | omega | (focus (simp; done)) | (focus (simp; omega; done)) | decide)) | ((with_reducible apply (wpl_loadE (α := SAct) (t := 30))); infer_instance; (exact rfl); infer_instance; (exact rfl); (decide); (first | (with_reducible assumption) | omega | (focus (simp; done)) | (focus (simp; omega; done)) | decide)) | ((with_reducible apply (wpl_fieldE (t := 30))); (exact Try.underlying30); (exact rfl); (kernel_rfl); (exact rfl); infer_instance; (exact cells_pos (by decide) (by omega))) | ((with_reducible apply (wpl_loadF (α := SAct))); infer_instance; (exact rfl); infer_instance; (exact rfl); (first | (with_reducible assumption) | omega | (focus (simp; done)) | (focus (simp; omega; done)) | decide); (exact rfl)) | ((with_reducible apply wpl_conv); (exact rfl); infer_instance; (first | (with_reducible assumption) | (focus (simp; done)) | omega); (exact Try.underlying28); (exact Try.underlying5); (exact Try.underlying9)) | ((with_reducible apply (wpl_loadint (t := 3))); (exact rfl); infer_instance; infer_instance; (first | (with_reducible assumption) | omega)) | ((with_reducible apply (wpl_loadbyte (t := 5))); (exact rfl); infer_instance; infer_instance; (first | (with_reducible assumption) | omega)))
              refine (slAlike_calls (FlashAt.nw hF5) (RF.nw hX5) hR5).mono ?_
              rintro e w8 ⟨rfl, _⟩
              go_wp2_with (first | go_skip | ((with_reducible apply wpl_loadrow); (exact rfl); infer_instance; infer_instance; (first | (with_reducible assumption) | (with_reducible exact H32.size _) | (with_reducible exact enc_sz _ rfl) | kernel_rfl)) | ((with_reducible apply wpl_loadcellN); (exact rfl); infer_instance; (exact rfl)))
              exact ⟨⟨k + 1, by omega, by omega, by go_num, inferInstance, inferInstance, Lib.hid (BothS.nw HBz.out)⟩, by simp [intOf]; omega⟩
        · have hgo2 : (nl : Int) ≤ (k : Int) ∨ 20 ≤ (k : Int) := by omega
          have n1 : Nw w wr := inferInstance
          by_cases hkn : (k : Int) < (nl : Int)
          all_goals
            go_wp2_with (first | go_skip | ((with_reducible apply wpl_loadrow); (exact rfl); infer_instance; infer_instance; (first | (with_reducible assumption) | (with_reducible exact H32.size _) | (with_reducible exact enc_sz _ rfl) | kernel_rfl)) | ((with_reducible apply wpl_loadcellN); (exact rfl); infer_instance; (exact rfl)))
            refine (slKnown_calls _).mono ?_
            rintro e w8 ⟨rfl, _⟩
            go_wp2_with (first | go_skip | ((with_reducible apply wpl_loadrow); (exact rfl); infer_instance; infer_instance; (first | (with_reducible assumption) | (with_reducible exact H32.size _) | (with_reducible exact enc_sz _ rfl) | kernel_rfl)) | ((with_reducible apply wpl_loadcellN); (exact rfl); infer_instance; (exact rfl)))
            go_ret
            exact ⟨rfl, (inferInstance : Nw w _).out⟩
  · go_wp2_with (first | go_skip | ((with_reducible apply wpl_loadrow); (exact rfl); infer_instance; infer_instance; (first | (with_reducible assumption) | (with_reducible exact H32.size _) | (with_reducible exact enc_sz _ rfl) | kernel_rfl)) | ((with_reducible apply wpl_loadcellN); (exact rfl); infer_instance; (exact rfl)))
    go_ret
    exact ⟨rfl, (stepN (w0 := w)).chg⟩
end Go.Proofs.Ytfkjjlalfcajlaa
end
section
open Go Go.RowKit Go.WideShapes Go.ChangeShapes Go.Deep
namespace Go.Proofs.Ytfkjjlalfcajlaa
theorem cSAct4 : Try.prog.cellsOf 30 = 4 := by kernel_rfl
theorem cSI1 : Try.prog.cellsOf 3 = 1 := by kernel_rfl
theorem cSB1 : Try.prog.cellsOf 28 = 1 := by kernel_rfl
theorem cSU1 : Try.prog.cellsOf 5 = 1 := by kernel_rfl
theorem trod_fieldsS {H : Type} {enc : TypeId × Value → H} {P : Program} {w : World} {spare : Nat → Bool} {held : Bool} {fuel : Nat} {t : TypeId} {cs : List Value} {x : DataW H × List MemPlace} {fs : Array Field} (ht : P.underlying t = some (.struct fs)) (hf : DataW.trod enc P w 0 spare held fuel t cs = some x) :
    ∃ m, cs.length = P.cellsOf t ∧ ∀ (i : Nat) (f : Field), nth fs.toList i = some f → ∃ y, DataW.trod enc P w 0 spare held m f.type ((cs.drop f.offset).take (P.cellsOf f.type)) = some y := by
  obtain ⟨xs, m, _, hx, hl, hxl, hel⟩ := DataW.trod_struct ht hf
  refine ⟨m, hl, fun i f hi => ?_⟩
  rw [← nth_get] at hi
  have hi' : fs[i]? = some f := by simpa using hi
  have hlt : i < xs.length := by
    rw [hxl]
    exact (Array.getElem?_eq_some_iff.1 hi').1
  exact ⟨xs[i], by rw [hel i f hi', List.getElem?_eq_getElem hlt]⟩
theorem reads_sact {w : World} : ReadsP Try.prog w SAct (SActIn w) 30 := fun H enc spare held fuel cs x hf => by
  obtain ⟨m0, hl, E⟩ := trod_fieldsS Try.underlying30 hf
  obtain ⟨y0, e0⟩ := E 0 _ rfl
  obtain ⟨y2, e2⟩ := E 1 _ rfl
  obtain ⟨y3, e3⟩ := E 2 _ rfl
  obtain ⟨y4, e4⟩ := E 3 _ rfl
  dsimp only at e0 e2 e3 e4
  rw [cSI1] at e0 e3 e4
  rw [cSB1] at e2
  rw [cSAct4] at hl
  obtain ⟨z0, g0, _, _⟩ := DataW.trod_int Try.underlying3 e0
  obtain ⟨A, n, c, l, g2, l2, m2, r2, c2, _⟩ := rows_trodQ (α := UInt8) Try.underlying28 cSU1 (by decide) (readsQ_u8 Try.underlying5) e2
  obtain ⟨z3, g3, _, w3⟩ := DataW.trod_int Try.underlying3 e3
  obtain ⟨z4, g4, _, _⟩ := DataW.trod_int Try.underlying3 e4
  have h3 : -9223372036854775808 ≤ z3 ∧ z3 ≤ 9223372036854775807 := by simpa [Lit.wf, IntKind.min, IntKind.max, IntKind.signed, IntKind.bits, Int.le_iff_lt_add_one] using w3
  subst l2
  rw [cellsOf_bytes] at r2
  refine ⟨⟨z0, A, c, l, z3, z4⟩, ?_, r2, by unfold maxLen at m2; show l.length ≤ _; omega, h3.2⟩
  have q : cs = cs.drop 0 := rfl
  rw [q, seg cs 0 1 1 rfl, seg cs 1 1 2 rfl, seg cs 2 1 3 rfl, seg_last cs 3 1 hl, g0, g2, g3, g4]
  rfl
end Go.Proofs.Ytfkjjlalfcajlaa
end
