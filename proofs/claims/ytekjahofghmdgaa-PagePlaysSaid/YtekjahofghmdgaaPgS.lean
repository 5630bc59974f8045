/- Every flash and script: each answer and all pages (the law PagePlays). -/
import Derived.Test.YtekjahofghmdgaaPgR
open Go Go.RowKit
namespace Go.Proofs.Ytekjahofghmdgaa
instance : ElemT Try.prog 22 31 5 56 (.agg #[.int .i64 0, .int .i64 0, .slice none 0 0, .int .i64 0, .int .i64 0]) := ⟨⟨Try.underlying22, by kernel_rfl, rfl, by decide⟩⟩
theorem NewAny_calls (n : Int) (N : Nat) (hN : min (max n 1) 256 = (N : Int)) (hn : n ≤ 256) (w : World) :
    Calls Try.prog 17 #[.int .i64 n] w fun e w' => ∃ g p, e = .returned (.pointer (some ⟨g, 0, none⟩)) ∧ Hid (FlashAt w' g p N (FS.fresh N)) ∧ Hid (Chg nowhere w w') ∧ w.heap.size ≤ g ∧ w.heap.size ≤ p := by
  by_cases h : n < 1
  · obtain rfl : N = 1 := by omega
    exact NewLow_calls n h w
  · obtain rfl : n = (N : Int) := by omega
    exact New_calls N w (by omega) (by omega)
/-- an act of the script, as it stands in this world -/
def ActIn (w : World) (a : ActS) : Prop := Rd w a.A (bs a.b) ∧ a.b.length ≤ 9223372036854775807 ∧ a.n ≤ 9223372036854775807
/-- both flashes, one -/
def Both (w : World) (g p N x : Nat) (T : Nat → Prop) : Prop := (∃ s r, FlashAt w g p N s ∧ RF w x T r ∧ Rel s r N) ∧ ∀ k, T k → k < w.heap.size
set_option maxRecDepth 100000 in
set_option maxHeartbeats 1600000 in
theorem pagePlays_calls (n : Int) {L : Option Addr} {nl cl : Nat} {l : List ActS} {w : World} [hL : HR w L (cellsOf l)] (hl : l.length = nl) (_ : nl ≤ 9223372036854775807) (hA : ∀ a ∈ l, ActIn w a) :
    Calls Try.prog 3 #[.int .i64 n, .slice L nl cl] w fun e w' => e = .returned (.bool true) ∧ Chg nowhere w w' := by
  have HAI := Lib.hid hA
  have HL := Lib.hid hl
  clear hA hl
  go_enter Try.func3, Try.ntmps3
  go_wp2_with (first | go_skip | ((with_reducible apply wpl_loadrow); (exact rfl); (exact inferInstance); (exact inferInstance); (first | (with_reducible assumption) | (with_reducible exact H32.size _) | (with_reducible exact enc_sz _ rfl) | kernel_rfl)) | ((with_reducible apply wpl_loadcellN); (exact rfl); (exact inferInstance); (first | (exact rfl) | (exact tg_hw _) | (exact tg_ctr _) | (exact tg_ecu _) | (exact srch_who) | (exact srch_fd))))
  refine (long_calls L nl cl l _ (inferInstance : HR _ L (cellsOf l)).out HL.out).mono ?_
  rintro e w1 ⟨he, hw1⟩
  obtain rfl := hw1.symm
  rcases he with rfl | rfl
  · by_cases hn : 30 < n
    · go_wp2_with (first | go_skip | ((with_reducible apply wpl_loadrow); (exact rfl); (exact inferInstance); (exact inferInstance); (first | (with_reducible assumption) | (with_reducible exact H32.size _) | (with_reducible exact enc_sz _ rfl) | kernel_rfl)) | ((with_reducible apply wpl_loadcellN); (exact rfl); (exact inferInstance); (first | (exact rfl) | (exact tg_hw _) | (exact tg_ctr _) | (exact tg_ecu _) | (exact srch_who) | (exact srch_fd))))
      go_ret
      exact ⟨rfl, (stepN (w0 := w)).chg⟩
    · have hn30 : n ≤ 30 := by omega
      obtain ⟨N, hN⟩ : ∃ N : Nat, min (max n 1) 256 = (N : Int) := Int.eq_ofNat_of_zero_le (by omega)
      go_wp2_with (first | go_skip | ((with_reducible apply wpl_loadrow); (exact rfl); (exact inferInstance); (exact inferInstance); (first | (with_reducible assumption) | (with_reducible exact H32.size _) | (with_reducible exact enc_sz _ rfl) | kernel_rfl)) | ((with_reducible apply wpl_loadcellN); (exact rfl); (exact inferInstance); (first | (exact rfl) | (exact tg_hw _) | (exact tg_ctr _) | (exact tg_ecu _) | (exact srch_who) | (exact srch_fd))))
      refine (NewAny_calls n N hN (by omega) _).mono ?_
      rintro e w2 ⟨g, p, rfl, hF, hc2, hg, hp⟩
      have s2 : Step nowhere _ w2 := ⟨hc2.out⟩
      have HF2 := hF
      clear hF hc2
      go_wp2_with (first | go_skip | ((with_reducible apply wpl_loadrow); (exact rfl); (exact inferInstance); (exact inferInstance); (first | (with_reducible assumption) | (with_reducible exact H32.size _) | (with_reducible exact enc_sz _ rfl) | kernel_rfl)) | ((with_reducible apply wpl_loadcellN); (exact rfl); (exact inferInstance); (first | (exact rfl) | (exact tg_hw _) | (exact tg_ctr _) | (exact tg_ecu _) | (exact srch_who) | (exact srch_fd))))
      refine (rfNew_calls n N hN _).mono ?_
      rintro e w3 ⟨x, T, rfl, hX, _, hT⟩
      have hg' : w.heap.size ≤ g := Nat.le_trans (inferInstance : SzLe w _).out hg
      have hp' : w.heap.size ≤ p := Nat.le_trans (inferInstance : SzLe w _).out hp
      obtain ⟨hgl, hpl⟩ := HF2.out.lts
      have HTG : Hid (∀ k, T k → ¬ Two g p k) := Lib.hid (fun k hk h => by
        have h1 := (hT k hk).1
        rcases h with h | h
        · rw [h] at h1; exact absurd hgl (Nat.not_lt.2 h1)
        · rw [h] at h1; exact absurd hpl (Nat.not_lt.2 h1))
      have HTW : Hid (∀ k, T k → w.heap.size ≤ k) := Lib.hid (fun k hk => Nat.le_trans (inferInstance : SzLe w w2).out (hT k hk).1)
      have HB3 : Hid (Both w3 g p N x T) := Lib.hid ⟨⟨_, _, FlashAt.nw HF2.out, hX, Rel.fresh N⟩, fun k hk => (hT k hk).2⟩
      have abP : Above w (PT g p T) := ⟨fun k h => by
        rcases h with (h | h) | h
        · rw [h]; exact hg'
        · rw [h]; exact hp'
        · exact HTW.out k h⟩
      clear HF2 hX hT hg hp hgl hpl hN
      go_wp2_with (first | go_skip | ((with_reducible apply wpl_loadrow); (exact rfl); (exact inferInstance); (exact inferInstance); (first | (with_reducible assumption) | (with_reducible exact H32.size _) | (with_reducible exact enc_sz _ rfl) | kernel_rfl)) | ((with_reducible apply wpl_loadcellN); (exact rfl); (exact inferInstance); (first | (exact rfl) | (exact tg_hw _) | (exact tg_ctr _) | (exact tg_ecu _) | (exact srch_who) | (exact srch_fd))))
      go_loopw [7] (fun kv wr => ∃ k : Nat, k ≤ nl ∧ k ≤ 80 ∧ kv = .int .i64 (k : Int) ∧ Nw w wr ∧ HR wr L (cellsOf l) ∧ Hid (Both wr g p N x T)) (fun kv _ => 80 - (intOf kv).toNat)
      case atStart => exact ⟨0, Nat.zero_le _, Nat.zero_le _, rfl, inferInstance, inferInstance, HB3⟩
      case round =>
        obtain ⟨k, hk, hk80, rfl, _, _, HBo⟩ := hrel
        clear HB3
        by_cases hgo : k < nl ∧ k < 80
        · obtain ⟨hkn, hk8⟩ := hgo
          have hknI : (k : Int) < (nl : Int) := by omega
          have hk8I : (k : Int) < 80 := by omega
          have hkl : k < l.length := by rw [HL.out]; exact hkn
          have hll : l.length = nl := HL.out
          have ha := HAI.out (gt l k) (gt_mem l k hkl)
          have HA1 := Lib.hid ha
          have n1 : Nw w wr := inferInstance
          go_wp2_with (first | go_skip | ((with_reducible apply wpl_loadrow); (exact rfl); (exact inferInstance); (exact inferInstance); (first | (with_reducible assumption) | (with_reducible exact H32.size _) | (with_reducible exact enc_sz _ rfl) | kernel_rfl)) | ((with_reducible apply wpl_loadcellN); (exact rfl); (exact inferInstance); (first | (exact rfl) | (exact tg_hw _) | (exact tg_ctr _) | (exact tg_ecu _) | (exact srch_who) | (exact srch_fd))) | ((with_reducible apply wpl_indexH); (exact rfl); (exact rfl); (exact inferInstance); (exact inferInstance); (first | (with_reducible assumption) | omega); (first | (with_reducible assumption) | omega); (first | (with_reducible assumption) | omega)) | ((with_reducible apply wpl_indexH'); (exact rfl); (exact rfl); (exact inferInstance); (exact inferInstance); (first | (with_reducible assumption) | omega); (first | (with_reducible assumption) | omega); (first | (with_reducible assumption) | omega)) | ((with_reducible apply (wpl_loadhash (t := 68))); (exact rfl); (exact inferInstance); (exact inferInstance); (first | (with_reducible assumption) | omega)) | ((with_reducible apply (wpl_indexE (α := ActS) (t := 22))); (exact rfl); (exact rfl); (exact inferInstance); (exact inferInstance); (first | (with_reducible assumption) | omega | (focus (simp; done)) | (focus (simp; omega; done)) | decide); (exact rfl); (decide); (first | (with_reducible assumption) | omega | (focus (simp; done)) | (focus (simp; omega; done)) | decide)) | ((with_reducible apply (wpl_indexE0 (α := ActS) (t := 22))); (exact rfl); (exact inferInstance); (exact inferInstance); (first | (with_reducible assumption) | omega | (focus (simp; done)) | (focus (simp; omega; done)) | decide); (exact rfl); (decide); (first | (with_reducible assumption) | omega | (focus (simp; done)) | (focus (simp; omega; done)) | decide)) | ((with_reducible apply (wpl_loadE (α := ActS) (t := 31))); (exact inferInstance); (exact rfl); (exact inferInstance); (exact rfl); (decide); (first | (with_reducible assumption) | omega | (focus (simp; done)) | (focus (simp; omega; done)) | decide)) | ((with_reducible apply (wpl_loadF (α := ActS))); (exact inferInstance); (exact rfl); (exact inferInstance); (exact rfl); (first | (with_reducible assumption) | omega | (focus (simp; done)) | (focus (simp; omega; done)) | decide); (first | (exact rfl) | (exact tg_hw _) | (exact tg_ctr _) | (exact tg_ecu _) | (exact srch_who) | (exact srch_fd))) | ((with_reducible apply (wpl_loadint (t := 3))); (exact rfl); (exact inferInstance); (exact inferInstance); (first | (with_reducible assumption) | omega)) | ((with_reducible apply (wpl_loadbyte (t := 5))); (exact rfl); (exact inferInstance); (exact inferInstance); (first | (with_reducible assumption) | omega)))
          obtain ⟨⟨s, r, hF, hX, hR⟩, hTl⟩ := HBo.out
          have hra : HR wr (gt l k).A (bs (gt l k).b) := ⟨HA1.out.1.chg (inferInstance : Nw w wr).out (fun _ _ _ h => h)⟩
          refine (pgAct_calls (FlashAt.nw hF) (RF.nw hX) hR HTG.out (fun k hk => Nat.lt_of_lt_of_le (hTl k hk) (inferInstance : SzLe wr wr).out) (gt l k) ?_ ?_ HA1.out.2.1 HA1.out.2.2).mono ?_
          · intro hne ad e h
            have h1 := rd_lt HA1.out.1 hne e
            rcases h with h | h <;> omega
          · intro hne ad e h
            have h1 := rd_lt HA1.out.1 hne e
            have h2 := HTW.out _ h
            omega
          rintro e w5 ⟨rfl, s', r', hF5, hX5, hR5, hc5⟩
          have s5 : Step (PT g p T) _ w5 := ⟨hc5⟩
          have HB5 : Hid (Both w5 g p N x T) := Lib.hid ⟨⟨s', r', hF5, hX5, hR5⟩, fun k hk => Nat.lt_of_lt_of_le (hTl k hk) (Nat.le_trans (inferInstance : SzLe wr wr).out hc5.size)⟩
          have hL5 : HR w5 L (cellsOf l) := ⟨hL.out.chg (inferInstance : Nw w w5).out (fun _ _ _ h => h)⟩
          clear hF hX hR hTl HBo
          go_wp2_with (first | go_skip | ((with_reducible apply wpl_loadrow); (exact rfl); (exact inferInstance); (exact inferInstance); (first | (with_reducible assumption) | (with_reducible exact H32.size _) | (with_reducible exact enc_sz _ rfl) | kernel_rfl)) | ((with_reducible apply wpl_loadcellN); (exact rfl); (exact inferInstance); (first | (exact rfl) | (exact tg_hw _) | (exact tg_ctr _) | (exact tg_ecu _) | (exact srch_who) | (exact srch_fd))))
          refine (pgAlike_calls (FlashAt.nw hF5) (RF.nw hX5) hR5).mono ?_
          rintro e w6 ⟨rfl, _⟩
          have HB6 : Hid (Both w6 g p N x T) := Lib.hid ⟨⟨s', r', FlashAt.nw hF5, RF.nw hX5, hR5⟩, fun k hk => Nat.lt_of_lt_of_le (HB5.out.2 k hk) (inferInstance : SzLe w5 w6).out⟩
          clear hF5 hX5 hR5 hc5 HB5
          go_wp2_with (first | go_skip | ((with_reducible apply wpl_loadrow); (exact rfl); (exact inferInstance); (exact inferInstance); (first | (with_reducible assumption) | (with_reducible exact H32.size _) | (with_reducible exact enc_sz _ rfl) | kernel_rfl)) | ((with_reducible apply wpl_loadcellN); (exact rfl); (exact inferInstance); (first | (exact rfl) | (exact tg_hw _) | (exact tg_ctr _) | (exact tg_ecu _) | (exact srch_who) | (exact srch_fd))))
          refine ⟨⟨k + 1, by omega, by omega, by go_num, inferInstance, inferInstance, ?_⟩, by simp [intOf]; omega⟩
          first
            | exact HB6
            | exact Lib.hid ⟨HB6.out.1.elim fun s h => h.elim fun r h => ⟨s, r, FlashAt.nw h.1, RF.nw h.2.1, h.2.2⟩, fun k hk => Nat.lt_of_lt_of_le (HB6.out.2 k hk) (inferInstance : SzLe w6 _).out⟩
        · have hgo2 : (nl : Int) ≤ (k : Int) ∨ 80 ≤ (k : Int) := by omega
          have n1 : Nw w wr := inferInstance
          by_cases hkn : (k : Int) < (nl : Int)
          all_goals
            go_wp2_with (first | go_skip | ((with_reducible apply wpl_loadrow); (exact rfl); (exact inferInstance); (exact inferInstance); (first | (with_reducible assumption) | (with_reducible exact H32.size _) | (with_reducible exact enc_sz _ rfl) | kernel_rfl)) | ((with_reducible apply wpl_loadcellN); (exact rfl); (exact inferInstance); (first | (exact rfl) | (exact tg_hw _) | (exact tg_ctr _) | (exact tg_ecu _) | (exact srch_who) | (exact srch_fd))))
            refine (pgKnown_calls _).mono ?_
            rintro e w8 ⟨rfl, hc8⟩
            have s8 : Step nowhere _ w8 := ⟨hc8.out⟩
            go_wp2_with (first | go_skip | ((with_reducible apply wpl_loadrow); (exact rfl); (exact inferInstance); (exact inferInstance); (first | (with_reducible assumption) | (with_reducible exact H32.size _) | (with_reducible exact enc_sz _ rfl) | kernel_rfl)) | ((with_reducible apply wpl_loadcellN); (exact rfl); (exact inferInstance); (first | (exact rfl) | (exact tg_hw _) | (exact tg_ctr _) | (exact tg_ecu _) | (exact srch_who) | (exact srch_fd))))
            go_ret
            exact ⟨rfl, (inferInstance : Nw w _).out⟩
  · go_wp2_with (first | go_skip | ((with_reducible apply wpl_loadrow); (exact rfl); (exact inferInstance); (exact inferInstance); (first | (with_reducible assumption) | (with_reducible exact H32.size _) | (with_reducible exact enc_sz _ rfl) | kernel_rfl)) | ((with_reducible apply wpl_loadcellN); (exact rfl); (exact inferInstance); (first | (exact rfl) | (exact tg_hw _) | (exact tg_ctr _) | (exact tg_ecu _) | (exact srch_who) | (exact srch_fd))))
    go_ret
    exact ⟨rfl, (stepN (w0 := w)).chg⟩
end Go.Proofs.Ytekjahofghmdgaa
